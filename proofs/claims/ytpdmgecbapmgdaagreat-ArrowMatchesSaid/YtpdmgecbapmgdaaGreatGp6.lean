/- A part of the proof that ArrowMatches returns true for every input: no further condition. -/
import Derived.Test.YtpdmgecbapmgdaaGreatGp4
import Derived.Test.YtpdmgecbapmgdaaGreatGp5
import Derived.Test.YtpdmgecbapmgdaaGreatGp2
import Derived.Test.YtpdmgecbapmgdaaGreatGp0
import Derived.Test.YtpdmgecbapmgdaaGreatLe1
import Derived.Conc.Own4
import Derived.Conc.LeavingOf
import Derived.Deep.Slices
import Derived.Lib.SmallJoins
import Derived.Test.YtpdmgecbapmgdaaGreatRows
import Derived.Carry
set_option linter.unusedSimpArgs false
set_option linter.unusedVariables false
set_option maxHeartbeats 4000000
set_option maxRecDepth 100000
section
namespace Go.Proofs.YtpdmgecbapmgdaaGreat
open Go.RowKit Go.Cx Go.Conc
def CallsFn (P : Program) (o : Op) : Prop := ∃ (f : FuncId) (args : Array Operand) (ats : Array TypeId) (fn : Func), o = .call { callee := .value (.func f), args, argTypes := ats } ∧ P.funcs[f]? = some fn ∧ (fn.name == "runtime.NumGoroutine") = false ∧ fn.body.isNone = false
section
variable {F : Fence} {n : Nat} {P : Program} {Post : Act → World → Prop} {a : Act} {w : World} {b : Frame} {k : List Item} {cs : List Frame}
theorem comes_call {ops : Array Oper} {i : Nat} {l : List Nat} {o : Oper} {S : FuncId} {args : Array Value} {w1 : World} {next : Act → World → Prop} (ho : ops[i]? = some o) (hw : Region.wanted o (yielded ops a.tmps) = true) (hro : b.roundOf = F.round) (hb : F.fn b.fn) (hr : F.room (cs.length + 1 + n))
    (hrun : (o.semAt F.round a.eval).run P w = .ok (.enter S args) w1) (h : o.wpIn F n P a w next (Through Post)) :
    ∃ v w2, next (a.put o.dst v) w2 ∧ Comes F P b cs a (.inRegion ops (i :: l) :: k) w (a.put o.dst v) (.inRegion ops l :: k) w2 := by
  obtain ⟨hab, h⟩ := h
  rw [hrun] at h
  simp only [Oper.uponIn] at h
  obtain ⟨hn, hF, h⟩ := h
  have h0 : (lone (b.atR a (.inRegion ops (i :: l) :: k)) cs w).fenced P F := fenced_oper hb hr ho hab
  have hg := stepGR_op (P := P) (b := b) (k := k) (cs := cs) (w := w) (rest := l) ho hw
  rw [hro] at hg
  have hroom : F.room ((b.atR a (.inRegion ops (i :: l) :: k) :: cs).length + 1 + (n - 1)) := Fence.room_enter hr hn
  obtain ⟨e, w2, fr, hR, hsteps, hfn, hleave⟩ := h (b.atR a (.inRegion ops (i :: l) :: k) :: cs) hroom
  have henter : step P (lone (b.atR a (.inRegion ops (i :: l) :: k)) cs w) = .next (lone (Frame.enter P S args .normal) (b.atR a (.inRegion ops (i :: l) :: k) :: cs) w1) :=
    step_lone_go (by rw [hg]; simp [stepG.apply, hrun, Frame.atR])
  cases e with
  | returned v =>
    refine ⟨v, w2, hR, .head h0 henter (StepsIn.trans hsteps (.one (fenced_leaving (hfn ▸ hF) hroom hleave) ?_))⟩
    have hfin : (b.atR a (.inRegion ops (i :: l) :: k)).finish v = b.atR (a.put o.dst v) (.inRegion ops l :: k) := by rw [Frame.finish_atR, ho]; rfl
    rw [← hfin]
    exact step_leave_returned hleave
  | panicked chain => exact hR.elim
  | outgrown => obtain ⟨_, _, hq⟩ := hR; exact hq.elim
theorem comes_list {ops : Array Oper} (l : List Oper) : ∀ (i : Nat) (rest : List Nat) (a : Act) (w : World), (∀ j, j < l.length → ops[i + j]? = l[j]?) → (∀ o ∈ l, reckons o.op = true ∨ CallsFn P o.op) →
    wpListIn F n P ops (Through Post) l a w → b.roundOf = F.round → F.fn b.fn → F.room (cs.length + 1 + n) →
    ∃ a' w', Post a' w' ∧ Comes F P b cs a (.inRegion ops (List.range' i l.length ++ rest) :: k) w a' (.inRegion ops rest :: k) w' := by
  induction l with
  | nil => exact fun i rest a w _ _ h _ _ _ => ⟨a, w, h, .refl _⟩
  | cons o l ih =>
    intro i rest a w hops hall h hro hb hr
    have ho : ops[i]? = some o := by simpa using hops 0 (by simp)
    have hops' : ∀ j, j < l.length → ops[i + 1 + j]? = l[j]? := fun j hj => by
      have := hops (j + 1) (by simp; omega)
      simpa [Nat.add_assoc, Nat.add_comm 1 j] using this
    have hall' : ∀ o ∈ l, reckons o.op = true ∨ CallsFn P o.op := fun o ho => hall o (List.mem_cons_of_mem _ ho)
    rw [List.length_cons, List.range'_succ, List.cons_append]
    simp only [wpListIn] at h
    by_cases hw : Region.wanted o (yielded ops a.tmps) = true
    · rw [if_pos hw] at h
      rcases hall o (List.mem_cons_self ..) with hrk | ⟨f, args, ats, fn, hop, hf, hname, hbody⟩
      · have h1 : wpListIn F n P ops (Through fun a w => wpListIn F n P ops (Through Post) l a w) [o] a w := by
          simp only [wpListIn]
          rw [if_pos hw]
          refine ⟨h.1, ?_⟩
          have h2 := h.2
          revert h2
          have hsem : o.semAt F.round a.eval = execOp a.eval o := Oper.semAt_eq _ _ _ fun c hc => by rw [hc] at hrk; exact absurd hrk (by simp [reckons])
          rw [hsem]
          rcases reckons_run hrk P w a.eval with ⟨v, w1, hrun⟩ | ⟨x, w1, hrun⟩
          · rw [hrun]; exact fun h => h
          · rw [hrun]; cases x <;> exact fun h => h
        obtain ⟨a1, w1, h2, h3⟩ := comes_pre (b := b) (cs := cs) (k := k) (ops := ops) [o] i (List.range' (i + 1) l.length ++ rest) a w (fun j hj => by simp at hj; subst hj; simpa using ho) (by simpa using hrk) h1 hro hb hr
        obtain ⟨a', w', hp, hs⟩ := ih (i + 1) rest a1 w1 hops' hall' h2 hro hb hr
        exact ⟨a', w', hp, StepsIn.trans (by simpa using h3) hs⟩
      · have hsem : o.semAt F.round a.eval = execOp a.eval o := Oper.semAt_eq _ _ _ fun c hc => by rw [hop] at hc; cases hc
        obtain ⟨v, w2, h2, h3⟩ := comes_call (l := List.range' (i + 1) l.length ++ rest) ho hw hro hb hr (by rw [hsem]; exact run_call_body hop hf hname hbody) h
        obtain ⟨a', w', hp, hs⟩ := ih (i + 1) rest _ w2 hops' hall' h2 hro hb hr
        exact ⟨a', w', hp, StepsIn.trans h3 hs⟩
    · rw [if_neg hw] at h
      obtain ⟨a', w', hp, hs⟩ := ih (i + 1) rest _ _ hops' hall' h.2 hro hb hr
      have hk := stepR_op_skip (P := P) (b := b) (a := a) (k := k) (cs := cs) (w := w) (ops := ops) (i := i) (rest := List.range' (i + 1) l.length ++ rest) (by simp [ho]; simpa using hw)
      simp only [ho, Option.bind_some] at hk
      exact ⟨a', w', hp, .head (fenced_oper hb hr ho h.1) hk hs⟩
theorem reach_list {S : Act → List Item → World → Prop} {ops : Array Oper} (t : Nat) (rest : List Nat) (hr2 : List.range ops.size = List.range' 0 (ops.toList.take t).length ++ rest) (hall : ∀ o ∈ ops.toList.take t, reckons o.op = true ∨ CallsFn P o.op) (hro : b.roundOf = F.round) (hb : F.fn b.fn) (hr : F.room (cs.length + 1 + n))
    (h : ∀ R : Act → World → Prop, (∀ a' w', Reach F P b cs S a' (.inRegion ops rest :: k) w' → R a' w') → wpListIn F n P ops (Through R) (ops.toList.take t) a w) : Reach F P b cs S a (.inRegion ops (List.range ops.size) :: k) w := by
  rw [hr2]
  obtain ⟨a1, w1, ⟨a', k', w', h1, h2⟩, h3⟩ := comes_list (b := b) (cs := cs) (k := k) (ops.toList.take t) 0 rest a w (fun j hj => by
    rw [Nat.zero_add, List.getElem?_take, if_pos (Nat.lt_of_lt_of_le hj (List.length_take_le ..))]
    simp) hall (h (fun a' w' => Reach F P b cs S a' (.inRegion ops rest :: k) w') fun a' w' h => h) hro hb hr
  exact ⟨a', k', w', h1, h3.trans h2⟩
end
end Go.Proofs.YtpdmgecbapmgdaaGreat
end
section
namespace Go.Proofs.YtpdmgecbapmgdaaGreat
open Go.RowKit Go.Cx Go.Conc
theorem CheckStock17_any (rs rl rw many : Int) (A : Option Addr) (n c : Nat) (sh : Nat → Shaft) (W : World) (hn : n ≤ 20) (hc : n ≤ c) (hsh : Hid (ShaftsAt W A n sh)) (hnm : Hid (∀ k, k < n → (sh k).name.size ≤ 100)) :
    CallsIn Fc 0 Tryz.prog 17 #[stockV rs rl rw many A n c] W (SaysInt (stockZ rs rl rw many n sh) W) := by
  have hB1 : ∀ x, Below W.heap.size W (W.alloc x) := fun x => (Below.refl _ _).alloc (Nat.le_refl _) x
  have HB1 := Lib.hid hB1
  clear hB1
  have hcall := fun w hb => check_any rs rl rw many A n c sh w hn hc (Lib.hid (hsh.out.below hb)) (Lib.hid fun k hk => Nat.le_trans (hnm.out k hk) (by omega))
  have HC := Lib.hid hcall
  clear hcall
  generalize stockZ rs rl rw many n sh = z at *
  gi_enter Tryz.func17, Tryz.ntmps17
  gi_wp2_with (gi_at_call 56; refine (HC.out _ (HB1.out _)).mono ?_; rintro e w' ⟨rfl, hb1⟩; have HB := Lib.hid ((HB1.out _).trans (hb1.mono (HB1.out _).size)); clear hb1)
  go_ret
  exact ⟨rfl, HB.out⟩
noncomputable def A3 : Code := match Tryz.f3.body with
  | some c => c
  | none => .skip
theorem fin3 : Fc.fn (lawFr 3).fn := by show (3 : FuncId) ∈ _; simp
abbrev SeekE (W : World) (a : Act) (k : List Item) (w : World) : Prop := AtCallG 14 4 69 a k ∧ Below W.heap.size W w
theorem room3 : Fc.room (([] : List Frame).length + 1 + 0) := fun d hd => by cases hd
theorem match_walk (rs rl rw many : Int) (A : Option Addr) (n c : Nat) (sh : Nat → Shaft) (LA : Option Addr) (m lc : Nat) (l : Nat → Int) (W : World) (hc : n ≤ c) (hmc : m ≤ lc) (hsh : Hid (ShaftsAt W A n sh)) (hi : Hid (IntsAt W LA m l)) :
    Reach Fc Tryz.prog (lawFr 3) [] (SeekE W) { tmps := #[stockV rs rl rw many A n c, .slice LA m lc] ++ Array.replicate 67 undef, defers := [] } [.code A3] W := by
  have hB1 : ∀ x, Below W.heap.size W (W.alloc x) := fun x => (Below.refl _ _).alloc (Nat.le_refl _) _
  have HB1 := Lib.hid hB1
  clear hB1
  generalize hS : SeekE W = S
  have HS := Lib.hid hS
  clear hS
  simp only [A3, Tryz.f3]
  simp only [List.size_toArray, List.length_cons, List.length_nil, Nat.reduceAdd, Nat.reduceSub, Array.replicate_succ, Array.replicate_zero, List.push_toArray, List.append_toArray, List.nil_append, List.cons_append]
  refine reach_seq fin3 room3 ?_
  refine reach_code (n := 0) rfl fin3 room3 fun R hR => ?_
  have HR := Lib.hid hR
  clear hR
  gi_wp2
  change R _ _
  refine HR.out _ _ ?_
  clear HR
  refine reach_seq fin3 room3 (reach_seq fin3 room3 ?_)
  refine reach_code (n := 0) rfl fin3 room3 fun R hR => ?_
  have HR := Lib.hid hR
  clear hR
  have hm20 : (m : Int) > 20 ∨ ¬ (m : Int) > 20 := by omega
  gi_wp2_with (gi_at_call 13; refine (Great_any _ _ _ _ _ _ _ sh _ hc (Lib.hid (hsh.out.below (HB1.out _)))).mono ?_; rintro e w2 ⟨gr, rfl, hgr, hb2⟩
               have e0 : w2.cell? ⟨W.heap.size, 0, none⟩ = some (.int .i64 rs) := Below.old hb2 (by go_simp)
               have e1 : w2.cell? ⟨W.heap.size, 1, none⟩ = some (.int .i64 rl) := Below.old hb2 (by go_simp)
               have e2 : w2.cell? ⟨W.heap.size, 2, none⟩ = some (.int .i64 rw) := Below.old hb2 (by go_simp)
               have e3 : w2.cell? ⟨W.heap.size, 3, none⟩ = some (.int .i64 many) := Below.old hb2 (by go_simp)
               have e4 : w2.cell? ⟨W.heap.size, 4, none⟩ = some (.slice A n c) := Below.old hb2 (by go_simp)
               have HB2 := Lib.hid ((HB1.out _).trans (hb2.mono (HB1.out _).size))
               have HGR := Lib.hid hgr
               clear hb2 hgr
               cases gr)
  rotate_left
  · change R _ _
    refine HR.out _ _ ?_
    clear HR
    refine reach_cond true rfl fin3 room3 ?_
    simp only [if_true]
    refine reach_seq fin3 room3 (reach_region fin3 room3 (Reach.here ?_))
    rw [← HS.out]
    exact ⟨.early _ _ _ 0 1 18 ⟨⟨_, rfl, rfl, rfl, rfl⟩, ⟨_, rfl, rfl, rfl, rfl⟩⟩ (by omega) rfl rfl, HB2.out⟩
  change R _ _
  refine HR.out _ _ ?_
  clear HR hm20
  by_cases hbig : 20 < (m : Int)
  · refine reach_cond true (by show Value.bool (decide (20 < (m : Int))) = _; rw [decide_eq_true hbig]) fin3 room3 ?_
    simp only [if_true]
    refine reach_seq fin3 room3 (reach_region fin3 room3 (Reach.here ?_))
    rw [← HS.out]
    exact ⟨.early _ _ _ 0 1 18 ⟨⟨_, rfl, rfl, rfl, rfl⟩, ⟨_, rfl, rfl, rfl, rfl⟩⟩ (by omega) rfl rfl, HB2.out⟩
  refine reach_cond false (by show Value.bool (decide (20 < (m : Int))) = _; rw [decide_eq_false hbig]) fin3 room3 ?_
  simp only [Bool.false_eq_true, if_false]
  refine reach_skip (n := 0) fin3 room3 rfl ?_
  have hm : m ≤ 20 := by omega
  obtain ⟨hn, hnm⟩ := HGR.out (by first | rfl | trivial)
  have HNM : Hid (∀ k, k < n → (sh k).name.size ≤ 100) := Lib.hid hnm
  clear HGR hnm hbig
  have c15 := fun w (hb : Below W.heap.size W w) => Match_exact rs rl rw many A n c sh LA m lc l w hn hc hm hmc (Lib.hid (hsh.out.below hb)) HNM (Lib.hid (hi.out.below hb))
  have c16 := fun w (hb : Below W.heap.size W w) => RefMatch_exact rs rl rw many A n c sh LA m lc l w hn hc hm hmc (Lib.hid (hsh.out.below hb)) HNM (Lib.hid (hi.out.below hb))
  have c17 := fun w (hb : Below W.heap.size W w) => CheckStock17_any rs rl rw many A n c sh w hn hc (Lib.hid (hsh.out.below hb)) HNM
  have c18 := fun w (hb : Below W.heap.size W w) => CheckStock_exact rs rl rw many A n c sh w hc (Lib.hid (hsh.out.below hb)) HNM
  have c19 := fun w (hb : Below W.heap.size W w) => Apart_exact rs rl rw many A n c sh LA m lc l w hn hc hm hmc (Lib.hid (hsh.out.below hb)) HNM (Lib.hid (hi.out.below hb))
  have c20 := fun w (hb : Below W.heap.size W w) => RefApart_exact rs rl rw many A n c sh LA m lc l w hn hc hm hmc (Lib.hid (hsh.out.below hb)) HNM (Lib.hid (hi.out.below hb))
  have hlen := apOf_len rs rl rw many n sh l m
  generalize mzOf rs rl rw many n sh l m = mz at *
  generalize askLZ rs rl rw many n sh l m = g at *
  generalize apOf rs rl rw many n sh l m = L at *
  generalize stockZ rs rl rw many n sh = sz at *
  have C15 := Lib.hid c15
  have C16 := Lib.hid c16
  have C17 := Lib.hid c17
  have C18 := Lib.hid c18
  have C19 := Lib.hid c19
  have C20 := Lib.hid c20
  clear c15 c16 c17 c18 c19 c20
  refine reach_seq fin3 room3 ?_
  refine reach_code (n := 0) rfl fin3 room3 fun R hR => ?_
  have HR := Lib.hid hR
  clear hR
  gi_wp2_with (gi_at_call 15; refine (C15.out _ HB2.out).mono ?_; rintro e w3 ⟨rfl, hb3⟩
               have e0 := Below.old hb3 e0
               have e1 := Below.old hb3 e1
               have e2 := Below.old hb3 e2
               have e3 := Below.old hb3 e3
               have e4 := Below.old hb3 e4
               have HB3 := Lib.hid (HB2.out.trans (hb3.mono HB2.out.size))
               clear hb3)
  change R _ _
  refine HR.out _ _ ?_
  clear HR
  refine reach_seq fin3 room3 ?_
  refine reach_code (n := 0) rfl fin3 room3 fun R hR => ?_
  have HR := Lib.hid hR
  clear hR
  gi_wp2_with (gi_at_call 16; refine (C16.out _ HB3.out).mono ?_; rintro e w4 ⟨rfl, hb3⟩
               have e0 := Below.old hb3 e0
               have e1 := Below.old hb3 e1
               have e2 := Below.old hb3 e2
               have e3 := Below.old hb3 e3
               have e4 := Below.old hb3 e4
               have HB4 := Lib.hid (HB3.out.trans (hb3.mono HB3.out.size))
               clear hb3)
  change R _ _
  refine HR.out _ _ ?_
  clear HR
  refine reach_seq fin3 room3 (reach_seq fin3 room3 ?_)
  refine reach_code (n := 0) rfl fin3 room3 fun R hR => ?_
  have HR := Lib.hid hR
  clear hR
  refine wpIn_region_D (D := [(31, .int .i64 mz), (32, .int .i64 mz), (33, .bool false), (34, .bool false), (35, .int .i64 g), (36, .int .i64 g), (37, .bool false), (38, .bool false), (39, .bool false), (40, stockV rs rl rw many A n c), (41, .int .i64 sz), (42, stockV rs rl rw many A n c), (43, .int .i64 sz), (44, .bool false), (45, .bool false)])
    (I := fun w => Below w4.heap.size w4 w) (z := 69) (by kernel_rfl) (by kernel_rfl) (by kernel_rfl) (by kernel_rfl) (by kernel_rfl) rfl rfl (Below.refl _ _).drew ?_ ?_
  · intro j a w hj hd hz hold hf hI
    have HI := Lib.hid hI
    have d0 := Below.old hI e0
    have d1 := Below.old hI e1
    have d2 := Below.old hI e2
    have d3 := Below.old hI e3
    have d4 := Below.old hI e4
    clear hI
    have s2 := at_slot hz (hold 2 (by kernel_rfl)) (by omega)
    have s5 := at_slot hz (hold 5 (by kernel_rfl)) (by omega)
    have s6 := at_slot hz (hold 6 (by kernel_rfl)) (by omega)
    have s7 := at_slot hz (hold 7 (by kernel_rfl)) (by omega)
    have s8 := at_slot hz (hold 8 (by kernel_rfl)) (by omega)
    clear hold
    have hjs : j = 0 ∨ j = 1 ∨ j = 2 ∨ j = 3 ∨ j = 4 ∨ j = 5 ∨ j = 6 ∨ j = 7 ∨ j = 8 ∨ j = 9 ∨ j = 10 ∨ j = 11 ∨ j = 12 ∨ j = 13 ∨ j = 14 := by have : j < 15 := hj; omega
    rcases hjs with rfl | rfl | rfl | rfl | rfl | rfl | rfl | rfl | rfl | rfl | rfl | rfl | rfl | rfl | rfl
    all_goals
      try have f31 := at_slot hz (hf 0 31 _ rfl rfl) (by omega)
      try have f32 := at_slot hz (hf 1 32 _ rfl rfl) (by omega)
      try have f33 := at_slot hz (hf 2 33 _ rfl rfl) (by omega)
      try have f34 := at_slot hz (hf 3 34 _ rfl rfl) (by omega)
      try have f35 := at_slot hz (hf 4 35 _ rfl rfl) (by omega)
      try have f36 := at_slot hz (hf 5 36 _ rfl rfl) (by omega)
      try have f37 := at_slot hz (hf 6 37 _ rfl rfl) (by omega)
      try have f38 := at_slot hz (hf 7 38 _ rfl rfl) (by omega)
      try have f39 := at_slot hz (hf 8 39 _ rfl rfl) (by omega)
      try have f40 := at_slot hz (hf 9 40 _ rfl rfl) (by omega)
      try have f42 := at_slot hz (hf 11 42 _ rfl rfl) (by omega)
      try have f41 := at_slot hz (hf 10 41 _ rfl rfl) (by omega)
      try have f43 := at_slot hz (hf 12 43 _ rfl rfl) (by omega)
      try have f44 := at_slot hz (hf 13 44 _ rfl rfl) (by omega)
      refine wpOpIn_step rfl fun K hK => ?_
      go_simp
      first
        | exact hK _ _ ⟨_, _, rfl, rfl, rfl, HI.out⟩
        | (refine (C17.out _ (HB4.out.trans (HI.out.mono HB4.out.size))).mono ?_; rintro e w' ⟨rfl, hb'⟩; exact hK _ _ ⟨_, _, rfl, rfl, rfl, HI.out.trans (hb'.mono HI.out.size)⟩)
        | (refine (C18.out _ (HB4.out.trans (HI.out.mono HB4.out.size))).mono ?_; rintro e w' ⟨rfl, hb'⟩; exact hK _ _ ⟨_, _, rfl, rfl, rfl, HI.out.trans (hb'.mono HI.out.size)⟩)
  intro w5 hI
  have e0 := Below.old hI e0
  have e1 := Below.old hI e1
  have e2 := Below.old hI e2
  have e3 := Below.old hI e3
  have e4 := Below.old hI e4
  have HB5 := Lib.hid (HB4.out.trans (hI.mono HB4.out.size))
  clear hI
  simp only [List.foldl_cons, List.foldl_nil, List.setIfInBounds_toArray, List.set_cons_succ, List.set_cons_zero]
  change R _ _
  refine HR.out _ _ ?_
  clear HR
  refine reach_cond false rfl fin3 room3 ?_
  simp only [Bool.false_eq_true, if_false]
  refine reach_skip (n := 0) fin3 room3 rfl ?_
  refine reach_seq fin3 room3 ?_
  refine reach_code (n := 0) rfl fin3 room3 fun R hR => ?_
  have HR := Lib.hid hR
  clear hR
  gi_wp2_with (gi_at_call 19; refine (C19.out _ HB5.out).mono ?_; rintro e w6 ⟨A1, k1, rfl, hk1, hr1, hb3⟩
               have e0 := Below.old hb3 e0
               have e1 := Below.old hb3 e1
               have e2 := Below.old hb3 e2
               have e3 := Below.old hb3 e3
               have e4 := Below.old hb3 e4
               have HR1 := Lib.hid hr1
               clear hr1
               have HB6 := Lib.hid (HB5.out.trans (hb3.mono HB5.out.size))
               clear hb3)
  change R _ _
  refine HR.out _ _ ?_
  clear HR
  refine reach_seq fin3 room3 ?_
  refine reach_code (n := 0) rfl fin3 room3 fun R hR => ?_
  have HR := Lib.hid hR
  clear hR
  gi_wp2_with (gi_at_call 20; refine (C20.out _ HB6.out).mono ?_; rintro e w7 ⟨A2, k2, rfl, hk2, hr2, hb3⟩
               have e0 := Below.old hb3 e0
               have e1 := Below.old hb3 e1
               have e2 := Below.old hb3 e2
               have e3 := Below.old hb3 e3
               have e4 := Below.old hb3 e4
               have HR1 := Lib.hid (HR1.out.below hb3)
               have HR2 := Lib.hid hr2
               clear hr2
               have HB7 := Lib.hid (HB6.out.trans (hb3.mono HB6.out.size))
               clear hb3)
  change R _ _
  refine HR.out _ _ ?_
  clear HR
  refine reach_seq fin3 room3 (reach_region fin3 room3 ?_)
  refine reach_list (n := 0) 9 [9, 10, 11] rfl (fun o ho => ?_) rfl fin3 room3 fun R hR => ?_
  · simp only [List.take_succ_cons, List.take_zero, List.mem_cons, List.not_mem_nil, or_false] at ho
    rcases ho with rfl | rfl | rfl | rfl | rfl | rfl | rfl | rfl | rfl
    all_goals first
      | exact .inl rfl
      | exact .inr ⟨21, _, _, _, rfl, Tryz.func21, by kernel_rfl, by kernel_rfl⟩
  have HR := Lib.hid hR
  clear hR
  simp only [List.take_succ_cons, List.take_zero]
  gi_wp2_with (gi_at_call 21; refine (SameAparts_yes A1 A2 L k1 k2 _ hlen hk1 hk2 HR1 HR2).mono ?_; rintro e w8 ⟨rfl, hb3⟩
               have HB8 := Lib.hid (HB7.out.trans (hb3.mono HB7.out.size))
               clear hb3)
  change R _ _
  refine HR.out _ _ (Reach.here ?_)
  rw [← HS.out]
  exact ⟨.late _ _ _ 9 10 11 8 66 67 68 ⟨⟨_, rfl, rfl, rfl, rfl⟩, rfl, ⟨_, rfl, rfl, rfl, rfl⟩, ⟨_, rfl, rfl, rfl, rfl⟩, by decide⟩ (by omega) (by omega) rfl rfl (by first | rfl | simp) (by omega), HB8.out⟩
end Go.Proofs.YtpdmgecbapmgdaaGreat
end
section
namespace Go.Proofs.YtpdmgecbapmgdaaGreat
open Go.RowKit Go.Cx Go.Conc
end Go.Proofs.YtpdmgecbapmgdaaGreat
end
section
namespace Go.Proofs.YtpdmgecbapmgdaaGreat
open Go.RowKit Go.Cx Go.Conc
theorem fence_ok : FenceOk Tryz.prog Fc.fn := fenceOk_of (L := [7,33,34,15,13,18,55,56,57,58,59,62,63,64,65,66,77,96,97,98,99,100,101,102,103,104,105,106,107,108,109,110,124,138,78,159,160,161,125,172,3,5,6,8,16,17,19,20,21,30,31,32,35,36,37,38,39,40,41,43,60,61,67,75,76,79,80,81,82,83,84,111,123]) (by kernel_rfl)
theorem shafts_strike {W : World} {A : Option Addr} {n : Nat} {sh : Nat → Shaft} (h : ShaftsAt W A n sh) : ShaftsAt (strike W) A n sh := fun k hk => by
  obtain ⟨b, o, e, hx⟩ := h k hk
  have c := fun a => (twin_strike W).cell a
  exact ⟨b, o, e, by rw [← c]; exact hx.h0, by rw [← c]; exact hx.h1, by rw [← c]; exact hx.h2, by rw [← c]; exact hx.h3, by rw [← c]; exact hx.h4, by rw [← c]; exact hx.h5, by rw [← c]; exact hx.h6⟩
theorem shot_there : ∃ fn, Tryz.prog.funcs[14]? = some fn ∧ (fn.name == "runtime.NumGoroutine") = false ∧ fn.body.isNone = false := ⟨_, Tryz.func14, by kernel_rfl, by kernel_rfl⟩
theorem law_calls {f : FuncId} {r z : Nat} {C0 : Code} {a0 : Act} {args : Array Value} {W : World} (hen : Frame.enter Tryz.prog f args .normal = (lawFr f).atR a0 [.code C0]) (hin : Fc.fn f)
    (h : Reach Fc Tryz.prog (lawFr f) [] (fun a k w => AtCallG 14 r z a k ∧ Below (strike W).heap.size (strike W) w) a0 [.code C0] (strike W)) :
    ∃ a k w N t, AtCallG 14 r z a k ∧ Below W.heap.size W w ∧ Lone t ∧ runNT Tryz.prog N (solo (G (Frame.enter Tryz.prog f args .normal) []) W) #[] = (.next (solo (G (Frame.enter Tryz.prog 14 #[] .normal) [(lawFr f).at a k]) w), t) := by
  obtain ⟨a, k, v, ⟨hat, hb⟩, hs⟩ := h
  have hs : StepsIn (Machine.fenced Tryz.prog Fc) Tryz.prog (lone (Frame.enter Tryz.prog f args .normal) [] (strike W)) (lone ((lawFr f).atR a k) [] v) := by rw [hen]; exact hs
  obtain ⟨N, w, t, hr, hl, htw⟩ := chain_calm (Fc := Fc) rfl fence_ok hs (G (Frame.enter Tryz.prog f args .normal) []) (strike W) W #[] rfl
    ⟨_, [], rfl, frIn_enter fence_ok hin _, .inl rfl, fun c h => by simp at h⟩ (twin_strike W) (fun op h => by simp at h) ((lawFr f).atR a k) [] v rfl rfl
  have hsz : (strike W).heap.size = W.heap.size := by simp [strike]
  rw [hsz] at hb
  refine ⟨a, k, w, N + 1, t, hat, twin_below htw hb, hl, ?_⟩
  rw [runNT_add, hr]
  simp only [Frame.atR_of_none (show (lawFr f).roundOf = none from rfl), runNT, stepT_solo (show (G ((lawFr f).at a k) []).status = .running from rfl), runT_solo_go (call_step shot_there hat w)]
  simp [MemOp.ofEvents]
theorem env_below {w w1 : World} (h : Env (OldL w) w w1) : Below w.heap.size w w1 where
  os := h.os
  tape := h.tape
  output := h.output
  size := h.size
  block := by
    intro k hk
    have hs := h.same k w.heap[k] (by simp [hk])
    rw [Array.getElem?_eq_getElem hk]
    cases ho : w.heap[k] with
    | cells c e fr =>
      rw [ho] at hs
      obtain ⟨c', h1, h2, h3⟩ := hs
      rw [h1]
      have : c' = c := by
        apply Array.ext h2
        intro i hi hi'
        have := h3 i ⟨k, rfl, hk⟩
        rw [Array.getElem?_eq_getElem hi, Array.getElem?_eq_getElem hi'] at this
        exact Option.some.inj this
      rw [this]
    | _ => rw [ho] at hs; exact hs ⟨k, rfl, hk⟩
theorem entry_rel (hp : TabOk Tryz.tab) (b : Frame) (w : World) : XRel (fun _ => none) (fun _ => False) (fun _ => False) [b] Tryz.x0 (G (Frame.enter Tryz.prog 14 #[] .normal) [b]) w := by
  obtain ⟨fr, he⟩ : ∃ fr, enterA Tryz.tab 14 [] false = some fr := by
    cases h : enterA Tryz.tab 14 [] false with
    | some fr => exact ⟨fr, rfl⟩
    | none => exact absurd (show (enterA Tryz.tab 14 [] false).isSome = true by kernel_rfl) (by rw [h]; simp)
  have hr := enter_rel (f := fun _ => none) hp (args' := #[]) (kind := .normal) .nil he rfl
  unfold Tryz.x0
  rw [he]
  refine .plain (Bd := 0) ⟨⟨_, [], rfl, hr, .nil⟩, ?_⟩ (Nat.zero_le _) .nil
  exact {
    wf := ⟨fun b o h => by simp [T.get] at h, fun b c x r ba m h => by simp [T.get] at h, fun r m h => by simp [members, T.get] at h⟩
    obj := fun b x h => by cases h
    mine := fun b x h => by cases h
    part := fun b x i h => by cases h
    apart := fun b b' x x' o o' h => by cases h
    coord := fun b b' x x' o o' h => by cases h
    home := fun b x h => by cases h }
theorem law_run {f : FuncId} {fl : Func} {r z : Nat} {C0 : Code} {a0 : Act} {args : Array Value} {W : World} (hen : Frame.enter Tryz.prog f args .normal = (lawFr f).atR a0 [.code C0]) (hin : Fc.fn f) (hfl : Tryz.prog.funcs[f]? = some fl) (hres : fl.results = #[.tmp r]) (hrz : r < z)
    (h : Reach Fc Tryz.prog (lawFr f) [] (fun a k w => AtCallG 14 r z a k ∧ Below (strike W).heap.size (strike W) w) a0 [.code C0] (strike W)) :
    ∃ M last o w' t', runNT Tryz.prog (M + 1) (solo (G (Frame.enter Tryz.prog f args .normal) []) W) #[] = (.ended o w', t') ∧
      runN Tryz.prog M (solo (G (Frame.enter Tryz.prog f args .normal) []) W) = .next last ∧ Go.step Tryz.prog last = .ended o w' ∧
      Go.Conc.Good Tryz.prog (fun v w1 => v = .bool true ∧ Below W.heap.size W w1) last o w' t' := by
  obtain ⟨a, k, w, N, t, hat, hb, hl, hr⟩ := law_calls hen hin h
  obtain ⟨K, last, o, w2, t2, h1, h2, h3, h4⟩ := Tryz.shot_run (b := (lawFr f).at a k) (bot := []) (sl := none) hl (fun l h => h.elim) (entry_rel Tryz.tabOk _ w) (Post := fun v w1 => v = .bool true ∧ Env (OldL w) w w1) (n := 4) (fun w' he => after_callG fence_ok hin hfl hres hrz hat he)
  rw [← solo_eq_crowd] at h1 h2
  obtain ⟨r1, r2⟩ := run_then hr h1 h2
  exact ⟨N + K, last, o, w2, t2, r1, r2, h3, h4.mono fun v hp => ⟨hp.1, hb.trans ((env_below hp.2).mono hb.size)⟩⟩
end Go.Proofs.YtpdmgecbapmgdaaGreat
end
section
namespace Go.Proofs.YtpdmgecbapmgdaaGreat
open Go.RowKit Go.ChangeShapes Go.WideShapes Go.Joins
def fieldsOf (P : Program) (t : TypeId) : Option (List (Nat × TypeId)) := match P.underlying t with
  | some (.struct fs) => some (fs.toList.map fun f => (f.offset, f.type))
  | _ => none
theorem fields_two {P : Program} {t : TypeId} {o0 o1 : Nat} {t0 t1 : TypeId} (h : fieldsOf P t = some [(o0, t0), (o1, t1)]) : ∃ f0 f1 : Field, P.underlying t = some (.struct #[f0, f1]) ∧ f0.offset = o0 ∧ f0.type = t0 ∧ f1.offset = o1 ∧ f1.type = t1 := by
  unfold fieldsOf at h
  split at h
  · next fs e =>
    obtain ⟨l⟩ := fs
    match l, h with
    | [f0, f1], h =>
      simp at h
      exact ⟨f0, f1, e, h.1.1, h.1.2, h.2.1, h.2.2⟩
    | [], h => simp at h
    | [_], h => simp at h
    | _ :: _ :: _ :: _, h => simp at h
  · cases h
theorem fields_four {P : Program} {t : TypeId} {o0 o1 o2 o3 : Nat} {t0 t1 t2 t3 : TypeId} (h : fieldsOf P t = some [(o0, t0), (o1, t1), (o2, t2), (o3, t3)]) :
    ∃ f0 f1 f2 f3 : Field, P.underlying t = some (.struct #[f0, f1, f2, f3]) ∧ f0.offset = o0 ∧ f0.type = t0 ∧ f1.offset = o1 ∧ f1.type = t1 ∧ f2.offset = o2 ∧ f2.type = t2 ∧ f3.offset = o3 ∧ f3.type = t3 := by
  unfold fieldsOf at h
  split at h
  · next fs e =>
    obtain ⟨l⟩ := fs
    match l, h with
    | [f0, f1, f2, f3], h =>
      simp at h
      obtain ⟨⟨h1, h2⟩, ⟨h3, h4⟩, ⟨h5, h6⟩, h7, h8⟩ := h
      exact ⟨f0, f1, f2, f3, e, h1, h2, h3, h4, h5, h6, h7, h8⟩
    | [], h => simp at h
    | [_], h => simp at h
    | [_, _], h => simp at h
    | [_, _, _], h => simp at h
    | _ :: _ :: _ :: _ :: _ :: _, h => simp at h
  · cases h
theorem fo26 : fieldsOf Tryz.prog 26 = some [(0, 23), (4, 24)] := by kernel_rfl
theorem fo23 : fieldsOf Tryz.prog 23 = some [(0, 3), (1, 3), (2, 3), (3, 3)] := by kernel_rfl
theorem fo52 : fieldsOf Tryz.prog 52 = some [(0, 3), (1, 3)] := by kernel_rfl
theorem fo65 : fieldsOf Tryz.prog 65 = some [(0, 9), (1, 52), (3, 52), (5, 52)] := by kernel_rfl
theorem ul24 : Tryz.prog.underlying 24 = some (.slice 65) := by kernel_rfl
theorem ul3 : Tryz.prog.underlying 3 = some (.int .i64) := by kernel_rfl
theorem ul9 : Tryz.prog.underlying 9 = some .string := by kernel_rfl
theorem co26 : Tryz.prog.cellsOf 26 = 5 := by kernel_rfl
theorem co23 : Tryz.prog.cellsOf 23 = 4 := by kernel_rfl
theorem co24 : Tryz.prog.cellsOf 24 = 1 := by kernel_rfl
theorem co3 : Tryz.prog.cellsOf 3 = 1 := by kernel_rfl
theorem co9 : Tryz.prog.cellsOf 9 = 1 := by kernel_rfl
theorem co52 : Tryz.prog.cellsOf 52 = 2 := by kernel_rfl
theorem co65 : Tryz.prog.cellsOf 65 = 7 := by kernel_rfl
section
variable {H : Type} {enc : TypeId × Value → H} {W : World} {base : Nat} {sp : Nat → Bool} {held : Bool}
theorem open_span {fuel : Nat} {c0 c1 : Value} {x : DataW H × List MemPlace} (h : DataW.trod enc Tryz.prog W base sp held fuel 52 [c0, c1] = some x) : ∃ u v : Int, c0 = .int .i64 u ∧ c1 = .int .i64 v := by
  obtain ⟨f0, f1, e, a0, b0, a1, b1⟩ := fields_two fo52
  obtain ⟨y0, y1, n, _, _, t0, t1⟩ := trod_struct2 e h
  rw [a0, b0, co3] at t0
  rw [a1, b1, co3] at t1
  obtain ⟨u, h0, _⟩ := DataW.trod_int ul3 t0
  obtain ⟨v, h1, _⟩ := DataW.trod_int ul3 t1
  simp at h0 h1
  exact ⟨u, v, h0, h1⟩
theorem open_rule {fuel : Nat} {c0 c1 c2 c3 : Value} {x : DataW H × List MemPlace} (h : DataW.trod enc Tryz.prog W base sp held fuel 23 [c0, c1, c2, c3] = some x) :
    ∃ a b c d : Int, c0 = .int .i64 a ∧ c1 = .int .i64 b ∧ c2 = .int .i64 c ∧ c3 = .int .i64 d := by
  obtain ⟨f0, f1, f2, f3, e, a0, b0, a1, b1, a2, b2, a3, b3⟩ := fields_four fo23
  obtain ⟨y0, y1, y2, y3, n, _, _, t0, t1, t2, t3⟩ := trod_struct4 e h
  rw [a0, b0, co3] at t0
  rw [a1, b1, co3] at t1
  rw [a2, b2, co3] at t2
  rw [a3, b3, co3] at t3
  obtain ⟨u0, h0, _⟩ := DataW.trod_int ul3 t0
  obtain ⟨u1, h1, _⟩ := DataW.trod_int ul3 t1
  obtain ⟨u2, h2, _⟩ := DataW.trod_int ul3 t2
  obtain ⟨u3, h3, _⟩ := DataW.trod_int ul3 t3
  simp at h0 h1 h2 h3
  exact ⟨u0, u1, u2, u3, h0, h1, h2, h3⟩
theorem open_shaft {fuel : Nat} {cs : List Value} {x : DataW H × List MemPlace} (h : DataW.trod enc Tryz.prog W base sp held fuel 65 cs = some x) :
    ∃ y : Shaft, cs = [.string y.name, .int .i64 y.s0, .int .i64 y.s1, .int .i64 y.l0, .int .i64 y.l1, .int .i64 y.w0, .int .i64 y.w1] := by
  obtain ⟨f0, f1, f2, f3, e, a0, b0, a1, b1, a2, b2, a3, b3⟩ := fields_four fo65
  obtain ⟨y0, y1, y2, y3, n, _, hl, t0, t1, t2, t3⟩ := trod_struct4 e h
  rw [co65] at hl
  match cs, hl with
  | [c0, c1, c2, c3, c4, c5, c6], _ =>
    rw [a0, b0, co9] at t0
    rw [a1, b1, co52] at t1
    rw [a2, b2, co52] at t2
    rw [a3, b3, co52] at t3
    simp only [List.drop, List.take] at t0 t1 t2 t3
    obtain ⟨s, h0, _⟩ := DataW.trod_string ul9 t0
    obtain ⟨u1, v1, rfl, rfl⟩ := open_span t1
    obtain ⟨u2, v2, rfl, rfl⟩ := open_span t2
    obtain ⟨u3, v3, rfl, rfl⟩ := open_span t3
    simp at h0
    subst h0
    exact ⟨⟨s, u1, v1, u2, v2, u3, v3⟩, rfl⟩
theorem add_spot {a : Addr} {w : World} {v : Value} {k : Nat} (h : w.cell? (a.add k) = some v) (hk : k = 0) : a = ⟨a.block, a.off, none⟩ := by
  subst hk
  simp only [Addr.add, if_true] at h
  unfold World.cell? at h
  obtain ⟨b, o, sp⟩ := a
  cases sp with
  | none => rfl
  | some s =>
    dsimp only at h
    split at h
    · simp at h
    · cases h
theorem open_shafts {fuel : Nat} {v : Value} {x : DataW H × List MemPlace} (h : DataW.trod enc Tryz.prog W base sp held fuel 24 [v] = some x) : ∃ (A : Option Addr) (n c : Nat) (sh : Nat → Shaft), v = .slice A n c ∧ n ≤ c ∧ ShaftsAt W A n sh := by
  rcases Go.Deep.open_slice ul24 h with ⟨h0, _⟩ | ⟨a, len, cap, m, n, D, Pl, h0, hb, hl, hm, hmm, rfl, hx⟩
  · simp at h0
    subst h0
    exact ⟨none, 0, 0, fun _ => ⟨.empty, 0, 0, 0, 0, 0, 0⟩, rfl, Nat.le_refl _, fun k hk => by omega⟩
  · simp at h0
    subst h0
    have hlm : len ≤ m := by rw [hmm]; split <;> omega
    have each : ∀ i, i < len → ∃ y : Shaft, a = ⟨a.block, a.off, none⟩ ∧ ShaftAt W a.block (a.off + i * 7) y := by
      intro i hi
      obtain ⟨cs', h1, h2⟩ := hx i (by omega)
      rw [co65] at h1
      obtain ⟨_, hlen, hcell⟩ := World.cells?_some h1
      obtain ⟨y, rfl⟩ := open_shaft h2
      have hsp : a = ⟨a.block, a.off, none⟩ := by
        obtain ⟨cs0, g1, g2⟩ := hx 0 (by omega)
        rw [co65] at g1
        obtain ⟨_, glen, gcell⟩ := World.cells?_some g1
        obtain ⟨z, rfl⟩ := open_shaft g2
        have g0 := gcell 0 (by omega)
        simp only [Nat.zero_mul] at g0
        have g3 : ((a.add 0).add 0) = a.add 0 := by simp [Addr.add]
        rw [g3] at g0
        exact add_spot (k := 0) g0 rfl
      refine ⟨y, hsp, ?_⟩
      have key : ∀ j, (a.add (i * 7)).add j = ⟨a.block, a.off + i * 7 + j, none⟩ := by
        intro j
        rw [hsp]
        unfold Addr.add
        by_cases h1 : i * 7 = 0 <;> by_cases h2 : j = 0 <;> simp [h1, h2]
      have e0 := hcell 0 (by omega)
      have e1 := hcell 1 (by omega)
      have e2 := hcell 2 (by omega)
      have e3 := hcell 3 (by omega)
      have e4 := hcell 4 (by omega)
      have e5 := hcell 5 (by omega)
      have e6 := hcell 6 (by omega)
      rw [key] at e0 e1 e2 e3 e4 e5 e6
      exact ⟨by simpa using e0, by simpa using e1, by simpa using e2, by simpa using e3, by simpa using e4, by simpa using e5, by simpa using e6⟩
    refine ⟨some a, len, cap, fun i => if hi : i < len then (each i hi).choose else ⟨.empty, 0, 0, 0, 0, 0, 0⟩, rfl, hl, fun k hk => ⟨a.block, a.off, ?_, ?_⟩⟩
    · rw [← (each k hk).choose_spec.1]
    · dsimp only
      rw [dif_pos hk]
      exact (each k hk).choose_spec.2
theorem open_stock {fuel : Nat} {cs : List Value} {x : DataW H × List MemPlace} (h : DataW.trod enc Tryz.prog W base sp held fuel 26 cs = some x) :
    ∃ (rs rl rw many : Int) (A : Option Addr) (n c : Nat) (sh : Nat → Shaft), cs = [.int .i64 rs, .int .i64 rl, .int .i64 rw, .int .i64 many, .slice A n c] ∧ n ≤ c ∧ ShaftsAt W A n sh := by
  obtain ⟨f0, f1, e, a0, b0, a1, b1⟩ := fields_two fo26
  obtain ⟨y0, y1, n, _, hl, t0, t1⟩ := trod_struct2 e h
  rw [co26] at hl
  match cs, hl with
  | [c0, c1, c2, c3, c4], _ =>
    rw [a0, b0, co23] at t0
    rw [a1, b1, co24] at t1
    simp only [List.drop, List.take] at t0 t1
    obtain ⟨a, b, c, d, rfl, rfl, rfl, rfl⟩ := open_rule t0
    obtain ⟨A, n', cap, sh, rfl, h1, h2⟩ := open_shafts t1
    exact ⟨a, b, c, d, A, n', cap, sh, rfl, h1, h2⟩
end
end Go.Proofs.YtpdmgecbapmgdaaGreat
end
section
namespace Go.Proofs.YtpdmgecbapmgdaaGreat
open Go.RowKit Go.Cx Go.Conc Go.ChangeShapes Go.WideShapes Go.ChangeAt
theorem own : ownKnob Tryz.prog.godebug = none := by kernel_rfl
theorem laidOut : laidOutB Tryz.prog = true := by kernel_rfl
theorem ul4 : Tryz.prog.underlying 4 = some .bool := by kernel_rfl
theorem shut_true {H : Type} {enc : TypeId × Value → H} {w : World} {base : Nat} {sp : Nat → Bool} {held : Bool} : DataW.Trod enc Tryz.prog w base sp held 4 (.bool true) (.lit (.bool true)) [] := by
  refine ⟨1, ?_⟩
  simp only [DataW.trod, Value.cells, ul4]
end Go.Proofs.YtpdmgecbapmgdaaGreat
end
section
namespace Go.Proofs.YtpdmgecbapmgdaaGreat
open Go.RowKit Go.Cx Go.Conc Go.ChangeShapes Go.WideShapes Go.ChangeAt
theorem enter3 (v0 v1 : Value) : Frame.enter Tryz.prog 3 #[v0, v1] .normal = (lawFr 3).atR { tmps := #[v0, v1] ++ Array.replicate 67 undef, defers := [] } [.code A3] := by
  have hb : Tryz.f3.body = some A3 := rfl
  have hn : Tryz.f3.ntmps = 69 := rfl
  simp [Frame.enter, Frame.atR, Tryz.func3, hb, hn]
theorem ints_strike {W : World} {A : Option Addr} {n : Nat} {p : Nat → Int} (h : IntsAt W A n p) : IntsAt (strike W) A n p := fun k hk => by
  obtain ⟨b, o, e, hx⟩ := h k hk
  exact ⟨b, o, e, by rw [← (twin_strike W).cell]; exact hx⟩
theorem matches_run (rs rl rw many : Int) (A : Option Addr) (n c : Nat) (sh : Nat → Shaft) (LA : Option Addr) (m lc : Nat) (l : Nat → Int) (W : World) (hc : n ≤ c) (hmc : m ≤ lc) (hsh : ShaftsAt W A n sh) (hi : IntsAt W LA m l) :
    ∃ M last o w' t', runNT Tryz.prog (M + 1) (solo (G (Frame.enter Tryz.prog 3 #[stockV rs rl rw many A n c, .slice LA m lc] .normal) []) W) #[] = (.ended o w', t') ∧
      runN Tryz.prog M (solo (G (Frame.enter Tryz.prog 3 #[stockV rs rl rw many A n c, .slice LA m lc] .normal) []) W) = .next last ∧ Go.step Tryz.prog last = .ended o w' ∧
      Go.Conc.Good Tryz.prog (fun v w1 => v = .bool true ∧ Below W.heap.size W w1) last o w' t' :=
  law_run (enter3 _ _) fin3 Tryz.func3 rfl (by omega) (match_walk rs rl rw many A n c sh LA m lc l (strike W) hc hmc (Lib.hid (shafts_strike hsh)) (Lib.hid (ints_strike hi)))
theorem ul3P : Tryz.prog.underlying 3 = some (.int .i64) := by kernel_rfl
theorem ul27P : Tryz.prog.underlying 27 = some (.slice 3) := by kernel_rfl
theorem co3P : Tryz.prog.cellsOf 3 = 1 := by kernel_rfl
theorem open_ints {H : Type} {enc : TypeId × Value → H} {W : World} {base : Nat} {sp : Nat → Bool} {held : Bool} {fuel : Nat} {v : Value} {x : DataW H × List MemPlace} (h : DataW.trod enc Tryz.prog W base sp held fuel 27 [v] = some x) :
    ∃ (A : Option Addr) (n c : Nat) (p : Nat → Int), v = .slice A n c ∧ n ≤ c ∧ IntsAt W A n p := by
  rcases Go.Deep.open_slice ul27P h with ⟨h0, _⟩ | ⟨a, len, cap, m, n, D, Pl, h0, hb, hl, hm, hmm, rfl, hx⟩
  · simp at h0
    subst h0
    exact ⟨none, 0, 0, fun _ => 0, rfl, Nat.le_refl _, fun k hk => by omega⟩
  · simp at h0
    subst h0
    have hlm : len ≤ m := by rw [hmm]; split <;> omega
    have each : ∀ i, i < len → ∃ y : Int, a = ⟨a.block, a.off, none⟩ ∧ W.cell? ⟨a.block, a.off + i, none⟩ = some (.int .i64 y) := by
      intro i hi
      obtain ⟨cs', h1, h2⟩ := hx i (by omega)
      rw [co3P] at h1
      obtain ⟨_, hlen, hcell⟩ := World.cells?_some h1
      obtain ⟨y, rfl, _, hwf⟩ := DataW.trod_int ul3P h2
      have hsp : a = ⟨a.block, a.off, none⟩ := by
        obtain ⟨cs0, g1, g2⟩ := hx 0 (by omega)
        rw [co3P] at g1
        obtain ⟨_, glen, gcell⟩ := World.cells?_some g1
        obtain ⟨z, rfl, _, _⟩ := DataW.trod_int ul3P g2
        have g0 := gcell 0 (by omega)
        simp only [Nat.zero_mul] at g0
        have g3 : ((a.add 0).add 0) = a.add 0 := by simp [Addr.add]
        rw [g3] at g0
        exact add_spot (k := 0) g0 rfl
      refine ⟨y, hsp, ?_⟩
      have e0 := hcell 0 (by omega)
      have key : (a.add (i * 1)).add 0 = ⟨a.block, a.off + i, none⟩ := by
        rw [hsp]
        unfold Addr.add
        by_cases h1 : i = 0
        · subst h1; simp
        · simp [h1]
      rw [key] at e0
      simpa using e0
    refine ⟨some a, len, cap, fun i => if hi : i < len then (each i hi).choose else 0, rfl, hl, fun k hk => ⟨a.block, a.off, ?_, ?_⟩⟩
    · rw [← (each k hk).choose_spec.1]
    · dsimp only
      rw [dif_pos hk]
      exact (each k hk).choose_spec.2
theorem params3 : Tryz.f3.params.toList = [26, 27] := rfl
theorem matches_lifted (os : Os) (started : os.Started) (H : Type) (enc : TypeId × Value → H) :
    ReturnsInLeavingWide {} Tryz.checked os 3 .any (Rows.arrowMatchesSpec.pre6 enc Tryz.prog Tryz.f3 Rows.arrowMatchesRow.domain false) (Rows.arrowMatchesSpec.post enc Tryz.prog Tryz.f3 false true false false) := by
  refine returnsInLeavingWide_of_change_sized (C := Tryz.checked) own started Tryz.func3
    (ChangeSpec.witness6 (enc := enc) (C := Tryz.checked) false ⟨#[], #[.agg #[.int .i64 0, .int .i64 0, .int .i64 0, .int .i64 0, .slice none 0 0], .slice none 0 0], []⟩ 8 (by kernel_rfl) (by kernel_rfl) (by kernel_rfl) (by kernel_rfl)) ?_
  intro W base args ds gs before hval0 hW _ _ _
  have hval : ∀ (j : Nat) t v, Tryz.f3.params[j]? = some t → args[j]? = some v → Value.okWide Tryz.prog W .any base t v := hval0
  have hW' := hW
  obtain ⟨p, q, hA0, hV, rfl, _, _⟩ := hW
  have hA : DataW.TrodAll enc Tryz.prog W 0 (fun _ => true) true Tryz.f3.params.toList args.toList ds p := hA0
  rw [params3] at hA
  obtain ⟨v0, v1, d0, d1, p0, p1, rfl, rfl, rfl, h0, h1⟩ := trodAll_two hA
  obtain ⟨rfl, rfl⟩ := trodVars_none hV
  have hv0 := hval 0 26 v0 rfl rfl
  obtain ⟨f0, f1, e26, _⟩ := fields_two fo26
  have hagg : ∃ cs, v0 = .agg cs := by
    unfold Value.okWide at hv0
    rw [e26] at hv0
    obtain ⟨cs, h, _⟩ := hv0
    exact ⟨cs, h⟩
  obtain ⟨cs, rfl⟩ := hagg
  have h0k := h0
  have h1k := h1
  obtain ⟨fuel, hf⟩ := h0
  obtain ⟨rs, rl, rw', many, A, n, c, sh, hcs, hc, hsh⟩ := open_stock hf
  have hcs' : cs = #[.int .i64 rs, .int .i64 rl, .int .i64 rw', .int .i64 many, .slice A n c] := by
    have : cs.toList = [.int .i64 rs, .int .i64 rl, .int .i64 rw', .int .i64 many, .slice A n c] := hcs
    exact Array.toList_inj.1 this
  subst hcs'
  obtain ⟨fuel1, hf1⟩ := h1
  have hv1 := hval 1 27 v1 rfl rfl
  obtain ⟨LA0, m0, lc0, rfl⟩ := okWide_slice ul27P hv1
  obtain ⟨LA, m, lc, l, e2, hmc, hi⟩ := open_ints hf1
  cases e2
  clear hA0 hval0
  have hlt : ∀ x, x ∈ p0 ∨ x ∈ p1 → x.block < W.heap.size := fun x hx => hW'.lt x (by simp; rcases hx with h | h <;> simp [h])
  obtain ⟨M, last, o, w', t', r1, r2, r3, r4⟩ := matches_run rs rl rw' many A n c sh LA0 m0 lc0 l W hc hmc hsh hi
  refine ⟨M, last, o, w', t', r1, r2, r3, r4.mono fun v hF => ?_⟩
  obtain ⟨rfl, hb⟩ := hF
  refine ⟨_, _, _, [], p0 ++ p1, [], hW', ?_, ?_, rfl, hb.frame _, fun h => by cases h⟩
  · exact trodAll_mk1 (t := 4) (v := .bool true) (d := .lit (.bool true)) shut_true
  · exact trodAll_mk2 (Below.trod laidOut (by kernel_rfl) (of_decide_eq_true (by kernel_rfl)) h0k hb fun x hx => hlt x (.inl hx)) (Below.trod laidOut (by kernel_rfl) (of_decide_eq_true (by kernel_rfl)) h1k hb fun x hx => hlt x (.inr hx))
theorem arrowMatches_holds : Rows.ArrowMatchesSaid :=
  OpenClaim.holds_of_wide_leaving 3 Tryz.f3 rfl rfl rfl rfl rfl rfl rfl ⟨rfl, rfl, rfl, rfl, rfl⟩ rfl rfl rfl rfl rfl (by kernel_rfl) Tryz.func3 (by kernel_rfl)
    (of_decide_eq_true (by kernel_rfl)) (by unfold Func.isWrapper; first | (rw [if_pos (by decide +kernel)]; kernel_rfl) | (rw [if_neg (by decide +kernel)]; exact ⟨rfl, rfl⟩))
    (fun os started H enc _ => matches_lifted os started H enc)
end Go.Proofs.YtpdmgecbapmgdaaGreat
end
