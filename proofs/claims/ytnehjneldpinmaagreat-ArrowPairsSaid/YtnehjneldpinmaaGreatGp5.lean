/- A part of the proof that ArrowPairs returns true for every input: no further condition. -/
import Derived.Test.YtnehjneldpinmaaGreatGp4
import Derived.Test.YtnehjneldpinmaaGreatCx9
import Derived.Conc.Own4
import Derived.Test.YtnehjneldpinmaaGreatLe0
import Derived.Test.YtnehjneldpinmaaGreatGp0
import Derived.Deep.Slices
import Derived.Lib.SmallJoins
section
set_option linter.unusedVariables false
set_option linter.unusedSimpArgs false
namespace Go.Proofs.YtnehjneldpinmaaGreat
open Go.RowKit
abbrev b3 : Frame := { (default : Frame) with fn := 3, kind := .normal, roundOf := none }
inductive AtCall : Act → Array Oper → Nat → List Nat → List Item → Prop where
  | early (a : Act) (k : List Item) (hd : a.defers = []) (hs : a.tmps.size = 102) : AtCall a ops2 0 [1] (.code .ret :: k)
  | late (a : Act) (hd : a.defers = []) (hs : a.tmps.size = 102) (ht : a.tmps.getD 99 undef = .bool true) : AtCall a ops19 15 [16, 17] [.code .ret]
theorem enter3 (v0 v1 : Value) : Frame.enter Tryz.prog 3 #[v0, v1] .normal = b3.atR { tmps := #[v0, v1] ++ Array.replicate 100 undef, defers := [] } [.code A3] := by
  have hb : Tryz.f3.body = some A3 := rfl
  have hn : Tryz.f3.ntmps = 102 := rfl
  simp [Frame.enter, Frame.atR, Tryz.func3, hb, hn]
theorem fin3 : Fc.fn b3.fn := by show (3 : FuncId) ∈ _; simp
theorem room3 : Fc.room (([] : List Frame).length + 1 + 0) := fun d hd => by cases hd
theorem pairs_reach (rs rl rw many : Int) (A : Option Addr) (n c : Nat) (sh : Nat → Shaft) (bits : Int) (W : World) (hc : n ≤ c) (hsh : ShaftsAt W A n sh) :
    ∃ a ops i rest k w, AtCall a ops i rest k ∧ Below W.heap.size W w ∧
      StepsIn (Machine.fenced Tryz.prog Fc) Tryz.prog (lone (Frame.enter Tryz.prog 3 #[stockV rs rl rw many A n c, .int .u16 bits] .normal) [] W) (lone (b3.atR a (.inRegion ops (i :: rest) :: k)) [] w) := by
  rw [enter3, A3_eq]
  have s0 := comes_seq (F := Fc) (P := Tryz.prog) (a := { tmps := #[stockV rs rl rw many A n c, .int .u16 bits] ++ Array.replicate 100 undef, defers := [] }) (w := W) (k := []) (x := A3r0) (y := .seq (.seq A3r1 A3c1) (.seq A3r3 (.seq A3r4 (.seq A3r5 (.seq A3lp (.seq A3r19 .ret)))))) fin3 room3
  obtain ⟨a1, w1, hp1, s1⟩ := comes_code (b := b3) (cs := []) (k := [.code (.seq (.seq A3r1 A3c1) (.seq A3r3 (.seq A3r4 (.seq A3r5 (.seq A3lp (.seq A3r19 .ret))))))]) (pairs_walk rs rl rw many A n c sh bits W hc (Lib.hid hsh)) rfl fin3 room3
  have s2 := comes_seq (F := Fc) (P := Tryz.prog) (b := b3) (cs := []) (a := a1) (w := w1) (k := []) (x := .seq A3r1 A3c1) (y := .seq A3r3 (.seq A3r4 (.seq A3r5 (.seq A3lp (.seq A3r19 .ret))))) fin3 room3
  have s3 := comes_seq (F := Fc) (P := Tryz.prog) (b := b3) (cs := []) (a := a1) (w := w1) (k := [.code (.seq A3r3 (.seq A3r4 (.seq A3r5 (.seq A3lp (.seq A3r19 .ret)))))]) (x := A3r1) (y := A3c1) fin3 room3
  obtain ⟨a2, w2, ⟨fit, hev, hfit, hd2, hz2, hB2⟩, s4⟩ := comes_code (b := b3) (cs := []) (k := [.code A3c1, .code (.seq A3r3 (.seq A3r4 (.seq A3r5 (.seq A3lp (.seq A3r19 .ret)))))]) hp1 rfl fin3 room3
  have t4 := s0.trans (s1.trans (s2.trans (s3.trans s4)))
  cases fit with
  | false =>
    rw [A3c1_eq] at t4
    have s5 := comes_cond (F := Fc) (P := Tryz.prog) (b := b3) (cs := []) (a := a2) (w := w2) (k := [.code (.seq A3r3 (.seq A3r4 (.seq A3r5 (.seq A3lp (.seq A3r19 .ret)))))]) (x := .seq A3r2 .ret) (y := .skip) hev fin3 room3
    simp only [Bool.not_false, if_true] at s5
    have s6 := comes_seq (F := Fc) (P := Tryz.prog) (b := b3) (cs := []) (a := a2) (w := w2) (k := [.code (.seq A3r3 (.seq A3r4 (.seq A3r5 (.seq A3lp (.seq A3r19 .ret)))))]) (x := A3r2) (y := .ret) fin3 room3
    rw [A3r2_eq] at s6
    have s7 := comes_region (F := Fc) (P := Tryz.prog) (b := b3) (cs := []) (a := a2) (w := w2) (k := [.code .ret, .code (.seq A3r3 (.seq A3r4 (.seq A3r5 (.seq A3lp (.seq A3r19 .ret)))))]) (id := 2) (ops := ops2) fin3 room3
    rw [show List.range ops2.size = [0, 1] from rfl] at s7
    rw [A3r2_eq] at s5
    exact ⟨a2, ops2, 0, [1], _, w2, .early _ _ hd2 hz2, hB2, (t4.trans (s5.trans (s6.trans s7)))⟩
  | true =>
    obtain ⟨a3, w3, hp3, s5⟩ := comes_code (b := b3) (cs := []) (k := [.code (.seq A3r3 (.seq A3r4 (.seq A3r5 (.seq A3lp (.seq A3r19 .ret)))))]) (hfit rfl) rfl fin3 room3
    have s6 := comes_seq (F := Fc) (P := Tryz.prog) (b := b3) (cs := []) (a := a3) (w := w3) (k := []) (x := A3r3) (y := .seq A3r4 (.seq A3r5 (.seq A3lp (.seq A3r19 .ret)))) fin3 room3
    obtain ⟨a4, w4, hp4, s7⟩ := comes_code (b := b3) (cs := []) (k := [.code (.seq A3r4 (.seq A3r5 (.seq A3lp (.seq A3r19 .ret))))]) hp3 rfl fin3 room3
    have s8 := comes_seq (F := Fc) (P := Tryz.prog) (b := b3) (cs := []) (a := a4) (w := w4) (k := []) (x := A3r4) (y := .seq A3r5 (.seq A3lp (.seq A3r19 .ret))) fin3 room3
    obtain ⟨a5, w5, hp5, s9⟩ := comes_code (b := b3) (cs := []) (k := [.code (.seq A3r5 (.seq A3lp (.seq A3r19 .ret)))]) hp4 rfl fin3 room3
    have s10 := comes_seq (F := Fc) (P := Tryz.prog) (b := b3) (cs := []) (a := a5) (w := w5) (k := []) (x := A3r5) (y := .seq A3lp (.seq A3r19 .ret)) fin3 room3
    obtain ⟨a6, w6, hp6, s11⟩ := comes_code (b := b3) (cs := []) (k := [.code (.seq A3lp (.seq A3r19 .ret))]) hp5 rfl fin3 room3
    have s12 := comes_seq (F := Fc) (P := Tryz.prog) (b := b3) (cs := []) (a := a6) (w := w6) (k := []) (x := A3lp) (y := .seq A3r19 .ret) fin3 room3
    obtain ⟨a7, w7, hp7, s13⟩ := comes_code (b := b3) (cs := []) (k := [.code (.seq A3r19 .ret)]) hp6 rfl fin3 room3
    have s14 := comes_seq (F := Fc) (P := Tryz.prog) (b := b3) (cs := []) (a := a7) (w := w7) (k := []) (x := A3r19) (y := .ret) fin3 room3
    rw [A3r19_eq] at s14
    have s15 := comes_region (F := Fc) (P := Tryz.prog) (b := b3) (cs := []) (a := a7) (w := w7) (k := [.code .ret]) (id := 19) (ops := ops19) fin3 room3
    rw [show List.range ops19.size = List.range' 0 pre19.length ++ [15, 16, 17] from rfl] at s15
    obtain ⟨a8, w8, ⟨hd8, hz8, ht8, hB8⟩, s16⟩ := comes_pre (F := Fc) (P := Tryz.prog) (b := b3) (cs := []) (k := [.code .ret]) (ops := ops19) pre19 0 [15, 16, 17] a7 w7 (fun j hj => by
      rw [Nat.zero_add]
      unfold pre19
      rw [List.getElem?_take, if_pos (by simpa [pre19] using (Nat.lt_of_lt_of_le hj (List.length_take_le ..)))]
      simp) (by rfl) hp7 rfl fin3 room3
    rw [A3r19_eq] at s13 s12
    exact ⟨a8, ops19, 15, [16, 17], _, w8, .late _ hd8 hz8 ht8, hB8, t4.trans (s5.trans (s6.trans (s7.trans (s8.trans (s9.trans (s10.trans (s11.trans (s12.trans (s13.trans (s14.trans (s15.trans s16)))))))))))⟩
end Go.Proofs.YtnehjneldpinmaaGreat
end
section
set_option linter.unusedVariables false
namespace Go.Proofs.YtnehjneldpinmaaGreat
open Go.RowKit Go.Cx Go.Conc
theorem fence_ok : FenceOk Tryz.prog Fc.fn := fenceOk_of (L := [3,4,6,7,8,9,26,27,28,29,30,31,32,33,34,35,47,52,53,54,55,56,57,58,59,60,61,62,63,64,65,66,82,90,93,110,111,112,114,125]) (by kernel_rfl)
theorem shafts_strike {W : World} {A : Option Addr} {n : Nat} {sh : Nat → Shaft} (h : ShaftsAt W A n sh) : ShaftsAt (strike W) A n sh := fun k hk => by
  obtain ⟨b, o, e, hx⟩ := h k hk
  have c := fun a => (twin_strike W).cell a
  exact ⟨b, o, e, by rw [← c]; exact hx.h0, by rw [← c]; exact hx.h1, by rw [← c]; exact hx.h2, by rw [← c]; exact hx.h3, by rw [← c]; exact hx.h4, by rw [← c]; exact hx.h5, by rw [← c]; exact hx.h6⟩
theorem call_early {a : Act} {k : List Item} (w : World) : stepG Tryz.prog true (G (b3.at a (.inRegion ops2 [0, 1] :: k)) []) w = .go (G (Frame.enter Tryz.prog 5 #[] .normal) [b3.at a (.inRegion ops2 [0, 1] :: k)]) w #[] := by
  obtain ⟨fn, hf, hn, hb⟩ : ∃ fn, Tryz.prog.funcs[5]? = some fn ∧ (fn.name == "runtime.NumGoroutine") = false ∧ fn.body.isNone = false := ⟨_, Tryz.func5, by kernel_rfl, by kernel_rfl⟩
  have ho : ops2[0]? = some ops2[0]! := by kernel_rfl
  have hop : (ops2[0]!).op = .call { callee := .value (.func 5), args := #[], argTypes := #[] } := by kernel_rfl
  have hw : Region.wanted ops2[0]! (yielded ops2 a.tmps) = true := by
    have hg : (ops2[0]!).guard = none := by kernel_rfl
    simp only [Region.wanted, hg]
  rw [stepG_enter ho hw (by decide) (run_call_body hop hf hn hb)]
  have : listed Tryz.prog b3.fn a ops2[0]! w = #[] := by unfold listed; rw [events_call_body hop hf hn hb]; exact seen_none _ _
  rw [this]
  simp only [List.map_toArray, List.map_nil]
theorem call_late {a : Act} {k : List Item} (w : World) (ht : a.tmps.getD 99 undef = .bool true) (hz : a.tmps.size = 102) : stepG Tryz.prog true (G (b3.at a (.inRegion ops19 [15, 16, 17] :: k)) []) w = .go (G (Frame.enter Tryz.prog 5 #[] .normal) [b3.at a (.inRegion ops19 [15, 16, 17] :: k)]) w #[] := by
  obtain ⟨fn, hf, hn, hb⟩ : ∃ fn, Tryz.prog.funcs[5]? = some fn ∧ (fn.name == "runtime.NumGoroutine") = false ∧ fn.body.isNone = false := ⟨_, Tryz.func5, by kernel_rfl, by kernel_rfl⟩
  have ho : ops19[15]? = some ops19[15]! := by kernel_rfl
  have hop : (ops19[15]!).op = .call { callee := .value (.func 5), args := #[], argTypes := #[] } := by kernel_rfl
  have hw : Region.wanted ops19[15]! (yielded ops19 a.tmps) = true := by
    have hg : (ops19[15]!).guard = some (14, true) := by kernel_rfl
    have hd : (ops19[14]?).bind (·.dst) = some 99 := by kernel_rfl
    simp only [Region.wanted, hg]
    have hg99 : a.tmps[99]? = some (.bool true) := by
      rw [Array.getD_eq_getD_getElem?, Array.getElem?_eq_getElem (by omega)] at ht
      rw [Array.getElem?_eq_getElem (by omega)]
      simpa using ht
    unfold yielded
    rw [hd]
    simp [hg99]
  rw [stepG_enter ho hw (by decide) (run_call_body hop hf hn hb)]
  have : listed Tryz.prog b3.fn a ops19[15]! w = #[] := by unfold listed; rw [events_call_body hop hf hn hb]; exact seen_none _ _
  rw [this]
  simp only [List.map_toArray, List.map_nil]
theorem pairs_calls (rs rl rw many : Int) (A : Option Addr) (n c : Nat) (sh : Nat → Shaft) (bits : Int) (W : World) (hc : n ≤ c) (hsh : ShaftsAt W A n sh) :
    ∃ a ops i rest k w N t, AtCall a ops i rest k ∧ Below W.heap.size W w ∧ Lone t ∧
      runNT Tryz.prog N (solo (G (Frame.enter Tryz.prog 3 #[stockV rs rl rw many A n c, .int .u16 bits] .normal) []) W) #[] = (.next (solo (G (Frame.enter Tryz.prog 5 #[] .normal) [b3.at a (.inRegion ops (i :: rest) :: k)]) w), t) := by
  obtain ⟨a, ops, i, rest, k, v, hat, hb, hs⟩ := pairs_reach rs rl rw many A n c sh bits (strike W) hc (shafts_strike hsh)
  obtain ⟨N, w, t, hr, hl, htw⟩ := chain_calm (Fc := Fc) rfl fence_ok hs (G (Frame.enter Tryz.prog 3 #[stockV rs rl rw many A n c, .int .u16 bits] .normal) []) (strike W) W #[] rfl
    ⟨_, [], rfl, frIn_enter fence_ok fin3 _, .inl rfl, fun c h => by simp at h⟩ (twin_strike W) (fun op h => by simp at h) (b3.atR a (.inRegion ops (i :: rest) :: k)) [] v rfl rfl
  have hsz : (strike W).heap.size = W.heap.size := by simp [strike]
  rw [hsz] at hb
  have hstep : stepG Tryz.prog true (G (b3.at a (.inRegion ops (i :: rest) :: k)) []) w = .go (G (Frame.enter Tryz.prog 5 #[] .normal) [b3.at a (.inRegion ops (i :: rest) :: k)]) w #[] := by
    cases hat with
    | early k' hd hz => exact call_early w
    | late hd hz ht => exact call_late w ht hz
  refine ⟨a, ops, i, rest, k, w, N + 1, t, hat, twin_below htw hb, hl, ?_⟩
  rw [runNT_add, hr]
  simp only [Frame.atR_of_none (show b3.roundOf = none from rfl), runNT, stepT_solo (show (G (b3.at a (.inRegion ops (i :: rest) :: k)) []).status = .running from rfl), runT_solo_go hstep]
  simp [MemOp.ofEvents]
end Go.Proofs.YtnehjneldpinmaaGreat
end
section
set_option linter.unusedVariables false
namespace Go.Proofs.YtnehjneldpinmaaGreat
open Go.RowKit Go.Cx Go.Conc
open Go.ConcR (DC0)
theorem goes_one {R : World → World → Prop} {Stop : Goroutine → World → Prop} {n : Nat} {g g' : Goroutine} {w : World} (hs : g.status = .running) (h : ∀ w1, stepG Tryz.prog true g w1 = .go g' w1 #[]) (hk : ∀ w1, R w w1 → Goes Tryz.prog true R DC0 Stop n g' w1) :
    Goes Tryz.prog true R DC0 Stop (n + 1) g w := Goes.step hs fun w1 h1 => by
  rw [h w1]
  exact ⟨⟨rfl, rfl⟩, hk w1 h1⟩
theorem step_assign {a : Act} {k : List Item} {ops : Array Oper} {i : Nat} {rest : List Nat} {o : Oper} {x : Operand} (ho : ops[i]? = some o) (hg : o.guard = none) (hop : o.op = .assign x) (w : World) :
    stepG Tryz.prog true (G (b3.at a (.inRegion ops (i :: rest) :: k)) []) w = .go (G (b3.at (a.put o.dst (a.eval x)) (.inRegion ops rest :: k)) []) w #[] := by
  have hr : (execOp a.eval o).run Tryz.prog w = .ok (.value (a.eval x)) w := by unfold execOp; simp [hop]
  rw [stepG_value ho (by simp only [Region.wanted, hg]) (by decide) hr]
  have : listed Tryz.prog b3.fn a o w = #[] := by
    unfold listed
    rw [show (execOp a.eval o).events Tryz.prog w #[] = #[] by unfold execOp; simp [hop]]
    exact seen_none _ _
  rw [this]
theorem step_pick {a : Act} {k : List Item} {ops : Array Oper} {i : Nat} {rest : List Nat} {o : Oper} {c x y : Operand} (ho : ops[i]? = some o) (hg : o.guard = none) (hop : o.op = .pick c x y) (hc : a.eval c = .bool true) (w : World) :
    stepG Tryz.prog true (G (b3.at a (.inRegion ops (i :: rest) :: k)) []) w = .go (G (b3.at (a.put o.dst (a.eval x)) (.inRegion ops rest :: k)) []) w #[] := by
  have hr : (execOp a.eval o).run Tryz.prog w = .ok (.value (a.eval x)) w := by unfold execOp; simp [hop, hc, asBool]
  rw [stepG_value ho (by simp only [Region.wanted, hg]) (by decide) hr]
  have : listed Tryz.prog b3.fn a o w = #[] := by
    unfold listed
    rw [show (execOp a.eval o).events Tryz.prog w #[] = #[] by unfold execOp; simp [hop, hc, asBool]]
    exact seen_none _ _
  rw [this]
theorem step_done {a : Act} {k : List Item} (hd : a.defers = []) (h4 : a.tmps.getD 4 undef = .bool true) (w : World) : stepG Tryz.prog true (G { b3.at a (.code .ret :: k) with mode := .returning } []) w = .ended (.done (.bool true)) w #[] := by
  obtain ⟨fn, c, hk⟩ := fence_ok 3 (by show (3 : FuncId) ∈ _; simp)
  have hfn : fn = Tryz.f3 := Option.some.inj (hk.at_.symm.trans Tryz.func3)
  have h1 : (results fn a.tmps).run Tryz.prog w = .ok (.bool true) w := by
    rw [results_tmp (t := 4) (by rw [hfn]; rfl) a.tmps Tryz.prog w, h4]
  have h2 : (results fn a.tmps).events Tryz.prog w #[] = #[] := events_results_tmp (t := 4) (by rw [hfn]; rfl) _ _
  have e1 : ∀ (fr : Frame) (z : World), fr.kind = .normal → fr.fn = 3 → doReturn Tryz.prog true fr [] none (.bool true) z = .ended (.done (.bool true)) z := fun fr z h3 h4 => by simp [doReturn, h3, h4]
  simp only [G, stepG, unwind, Frame.at, hd, hk.at_, Sem.runT_eq, h1, h2]
  rw [e1 _ _ rfl rfl]
  simp [GStep.after, seen_none]
theorem after_ret {a : Act} {k : List Item} {ops : Array Oper} {w w' : World} (he : Env (OldL w) w w') (hd : a.defers = []) (h4 : a.tmps.getD 4 undef = .bool true) :
    Goes Tryz.prog true (fun w0 w1 => Env (OldL w) w0 w1) DC0 (AtRet Tryz.prog (fun v w1 => v = .bool true ∧ Env (OldL w) w w1)) 2 (G (b3.at a (.inRegion ops [] :: .code .ret :: k)) []) w' := by
  refine goes_one rfl (fun w1 => stepG_region_end) fun w1 h1 => goes_one rfl (fun w1 => stepG_ret') fun w2 h2 => Goes.stop fun w3 h3 => ?_
  exact ⟨rfl, _, step_done hd h4 w3, rfl, ((he.trans h1).trans h2).trans h3⟩
theorem put_same {a : Act} {d : Nat} {v : Value} (h : d < a.tmps.size) : (a.put (some d) v).tmps.getD d undef = v := by
  simp [Act.put, h]
theorem put_far {a : Act} {d e : Nat} {v : Value} (h : d ≠ e) : (a.put (some d) v).tmps.getD e undef = a.tmps.getD e undef := by
  simp [Act.put, h]
theorem put_size {a : Act} {d : Nat} {v : Value} : (a.put (some d) v).tmps.size = a.tmps.size := by simp [Act.put]
theorem put_defers {a : Act} {d : Nat} {v : Value} : (a.put (some d) v).defers = a.defers := rfl
theorem after_call {a : Act} {ops : Array Oper} {i : Nat} {rest : List Nat} {k : List Item} (h : AtCall a ops i rest k) {w w' : World} (he : Env (OldL w) w w') :
    Goes Tryz.prog true (fun w0 w1 => Env (OldL w) w0 w1) DC0 (AtRet Tryz.prog (fun v w1 => v = .bool true ∧ Env (OldL w) w w1)) 4 (G ((b3.at a (.inRegion ops (i :: rest) :: k)).finish (.bool true)) []) w' := by
  rw [Frame.finish_at]
  cases h with
  | early k' hd hz =>
    rw [show (ops2[0]?).bind (·.dst) = some 19 by kernel_rfl]
    refine goes_one (g' := G (b3.at ((a.put (some 19) (.bool true)).put (some 4) (.bool true)) (.inRegion ops2 [] :: .code .ret :: k')) []) rfl (fun w1 => ?_) fun w1 h1 => Goes.more (after_ret (a := (a.put (some 19) (.bool true)).put (some 4) (.bool true)) (ops := ops2) (k := k') (he.trans h1) (by rw [put_defers, put_defers, hd]) (put_same (by rw [put_size]; omega)))
    have h := step_assign (a := a.put (some 19) (.bool true)) (k := .code .ret :: k') (ops := ops2) (i := 1) (rest := []) (o := ops2[1]!) (x := .tmp 19) (by kernel_rfl) (by kernel_rfl) (by kernel_rfl) w1
    rw [h, show (ops2[1]!).dst = some 4 by kernel_rfl, show (a.put (some 19) (.bool true)).eval (.tmp 19) = .bool true from put_same (by omega)]
  | late hd hz ht =>
    rw [show (ops19[15]?).bind (·.dst) = some 100 by kernel_rfl]
    refine goes_one (g' := G (b3.at ((a.put (some 100) (.bool true)).put (some 101) (.bool true)) (.inRegion ops19 [17] :: [.code .ret])) []) rfl (fun w1 => ?_) fun w1 h1 => ?_
    · have h := step_pick (a := a.put (some 100) (.bool true)) (k := [.code .ret]) (ops := ops19) (i := 16) (rest := [17]) (o := ops19[16]!) (c := .tmp 99) (x := .tmp 100) (y := .const (.bool false)) (by kernel_rfl) (by kernel_rfl) (by kernel_rfl)
        ((put_far (by decide)).trans ht) w1
      rw [h, show (ops19[16]!).dst = some 101 by kernel_rfl, show (a.put (some 100) (.bool true)).eval (.tmp 100) = .bool true from put_same (by omega)]
    · refine goes_one (g' := G (b3.at (((a.put (some 100) (.bool true)).put (some 101) (.bool true)).put (some 4) (.bool true)) (.inRegion ops19 [] :: [.code .ret])) []) rfl (fun w2 => ?_) fun w2 h2 => after_ret ((he.trans h1).trans h2) (by rw [put_defers, put_defers, put_defers, hd]) (put_same (by rw [put_size, put_size]; omega))
      have h := step_assign (a := (a.put (some 100) (.bool true)).put (some 101) (.bool true)) (k := [.code .ret]) (ops := ops19) (i := 17) (rest := []) (o := ops19[17]!) (x := .tmp 101) (by kernel_rfl) (by kernel_rfl) (by kernel_rfl) w2
      rw [h, show (ops19[17]!).dst = some 4 by kernel_rfl, show ((a.put (some 100) (.bool true)).put (some 101) (.bool true)).eval (.tmp 101) = .bool true from put_same (by rw [put_size]; omega)]
end Go.Proofs.YtnehjneldpinmaaGreat
end
section
set_option linter.unusedVariables false
namespace Go.Proofs.YtnehjneldpinmaaGreat
open Go.RowKit Go.Cx Go.Conc
theorem env_below {w w1 : World} (h : Env (OldL w) w w1) : Below w.heap.size w w1 where
  os := h.os
  tape := h.tape
  output := h.output
  size := h.size
  block := by
    intro k hk
    have hs := h.same k w.heap[k] (by simp [hk])
    rw [Array.getElem?_eq_getElem hk]
    cases ho : w.heap[k] with
    | cells c e fr =>
      rw [ho] at hs
      obtain ⟨c', h1, h2, h3⟩ := hs
      rw [h1]
      have : c' = c := by
        apply Array.ext h2
        intro i hi hi'
        have := h3 i ⟨k, rfl, hk⟩
        rw [Array.getElem?_eq_getElem hi, Array.getElem?_eq_getElem hi'] at this
        exact Option.some.inj this
      rw [this]
    | _ => rw [ho] at hs; exact hs ⟨k, rfl, hk⟩
theorem entry_rel (hp : TabOk Tryz.tab) (b : Frame) (w : World) : XRel (fun _ => none) (fun _ => False) (fun _ => False) [b] Tryz.x0 (G (Frame.enter Tryz.prog 5 #[] .normal) [b]) w := by
  obtain ⟨fr, he⟩ : ∃ fr, enterA Tryz.tab 5 [] false = some fr := by
    cases h : enterA Tryz.tab 5 [] false with
    | some fr => exact ⟨fr, rfl⟩
    | none => exact absurd (show (enterA Tryz.tab 5 [] false).isSome = true by kernel_rfl) (by rw [h]; simp)
  have hr := enter_rel (f := fun _ => none) hp (args' := #[]) (kind := .normal) .nil he rfl
  unfold Tryz.x0
  rw [he]
  refine .plain (Bd := 0) ⟨⟨_, [], rfl, hr, .nil⟩, ?_⟩ (Nat.zero_le _) .nil
  exact {
    wf := ⟨fun b o h => by simp [T.get] at h, fun b c x r ba m h => by simp [T.get] at h, fun r m h => by simp [members, T.get] at h⟩
    obj := fun b x h => by cases h
    mine := fun b x h => by cases h
    part := fun b x i h => by cases h
    apart := fun b b' x x' o o' h => by cases h
    coord := fun b b' x x' o o' h => by cases h
    home := fun b x h => by cases h }
end Go.Proofs.YtnehjneldpinmaaGreat
end
section
set_option linter.unusedVariables false
namespace Go.Proofs.YtnehjneldpinmaaGreat
open Go.RowKit Go.ChangeShapes Go.WideShapes Go.Joins
def fieldsOf (P : Program) (t : TypeId) : Option (List (Nat × TypeId)) := match P.underlying t with
  | some (.struct fs) => some (fs.toList.map fun f => (f.offset, f.type))
  | _ => none
theorem fields_two {P : Program} {t : TypeId} {o0 o1 : Nat} {t0 t1 : TypeId} (h : fieldsOf P t = some [(o0, t0), (o1, t1)]) : ∃ f0 f1 : Field, P.underlying t = some (.struct #[f0, f1]) ∧ f0.offset = o0 ∧ f0.type = t0 ∧ f1.offset = o1 ∧ f1.type = t1 := by
  unfold fieldsOf at h
  split at h
  · next fs e =>
    obtain ⟨l⟩ := fs
    match l, h with
    | [f0, f1], h =>
      simp at h
      exact ⟨f0, f1, e, h.1.1, h.1.2, h.2.1, h.2.2⟩
    | [], h => simp at h
    | [_], h => simp at h
    | _ :: _ :: _ :: _, h => simp at h
  · cases h
theorem fields_four {P : Program} {t : TypeId} {o0 o1 o2 o3 : Nat} {t0 t1 t2 t3 : TypeId} (h : fieldsOf P t = some [(o0, t0), (o1, t1), (o2, t2), (o3, t3)]) :
    ∃ f0 f1 f2 f3 : Field, P.underlying t = some (.struct #[f0, f1, f2, f3]) ∧ f0.offset = o0 ∧ f0.type = t0 ∧ f1.offset = o1 ∧ f1.type = t1 ∧ f2.offset = o2 ∧ f2.type = t2 ∧ f3.offset = o3 ∧ f3.type = t3 := by
  unfold fieldsOf at h
  split at h
  · next fs e =>
    obtain ⟨l⟩ := fs
    match l, h with
    | [f0, f1, f2, f3], h =>
      simp at h
      obtain ⟨⟨h1, h2⟩, ⟨h3, h4⟩, ⟨h5, h6⟩, h7, h8⟩ := h
      exact ⟨f0, f1, f2, f3, e, h1, h2, h3, h4, h5, h6, h7, h8⟩
    | [], h => simp at h
    | [_], h => simp at h
    | [_, _], h => simp at h
    | [_, _, _], h => simp at h
    | _ :: _ :: _ :: _ :: _ :: _, h => simp at h
  · cases h
theorem fo26 : fieldsOf Tryz.prog 26 = some [(0, 23), (4, 24)] := by kernel_rfl
theorem fo23 : fieldsOf Tryz.prog 23 = some [(0, 3), (1, 3), (2, 3), (3, 3)] := by kernel_rfl
theorem fo54 : fieldsOf Tryz.prog 54 = some [(0, 3), (1, 3)] := by kernel_rfl
theorem fo85 : fieldsOf Tryz.prog 85 = some [(0, 9), (1, 54), (3, 54), (5, 54)] := by kernel_rfl
theorem ul24 : Tryz.prog.underlying 24 = some (.slice 85) := by kernel_rfl
theorem ul3 : Tryz.prog.underlying 3 = some (.int .i64) := by kernel_rfl
theorem ul9 : Tryz.prog.underlying 9 = some .string := by kernel_rfl
theorem ul27 : Tryz.prog.underlying 27 = some (.int .u16) := by kernel_rfl
theorem co26 : Tryz.prog.cellsOf 26 = 5 := by kernel_rfl
theorem co23 : Tryz.prog.cellsOf 23 = 4 := by kernel_rfl
theorem co24 : Tryz.prog.cellsOf 24 = 1 := by kernel_rfl
theorem co3 : Tryz.prog.cellsOf 3 = 1 := by kernel_rfl
theorem co9 : Tryz.prog.cellsOf 9 = 1 := by kernel_rfl
theorem co54 : Tryz.prog.cellsOf 54 = 2 := by kernel_rfl
theorem co85 : Tryz.prog.cellsOf 85 = 7 := by kernel_rfl
section
variable {H : Type} {enc : TypeId × Value → H} {W : World} {base : Nat} {sp : Nat → Bool} {held : Bool}
theorem open_span {fuel : Nat} {c0 c1 : Value} {x : DataW H × List MemPlace} (h : DataW.trod enc Tryz.prog W base sp held fuel 54 [c0, c1] = some x) : ∃ u v : Int, c0 = .int .i64 u ∧ c1 = .int .i64 v := by
  obtain ⟨f0, f1, e, a0, b0, a1, b1⟩ := fields_two fo54
  obtain ⟨y0, y1, n, _, _, t0, t1⟩ := trod_struct2 e h
  rw [a0, b0, co3] at t0
  rw [a1, b1, co3] at t1
  obtain ⟨u, h0, _⟩ := DataW.trod_int ul3 t0
  obtain ⟨v, h1, _⟩ := DataW.trod_int ul3 t1
  simp at h0 h1
  exact ⟨u, v, h0, h1⟩
set_option maxRecDepth 100000 in
theorem open_rule {fuel : Nat} {c0 c1 c2 c3 : Value} {x : DataW H × List MemPlace} (h : DataW.trod enc Tryz.prog W base sp held fuel 23 [c0, c1, c2, c3] = some x) :
    ∃ a b c d : Int, c0 = .int .i64 a ∧ c1 = .int .i64 b ∧ c2 = .int .i64 c ∧ c3 = .int .i64 d := by
  obtain ⟨f0, f1, f2, f3, e, a0, b0, a1, b1, a2, b2, a3, b3⟩ := fields_four fo23
  obtain ⟨y0, y1, y2, y3, n, _, _, t0, t1, t2, t3⟩ := trod_struct4 e h
  rw [a0, b0, co3] at t0
  rw [a1, b1, co3] at t1
  rw [a2, b2, co3] at t2
  rw [a3, b3, co3] at t3
  obtain ⟨u0, h0, _⟩ := DataW.trod_int ul3 t0
  obtain ⟨u1, h1, _⟩ := DataW.trod_int ul3 t1
  obtain ⟨u2, h2, _⟩ := DataW.trod_int ul3 t2
  obtain ⟨u3, h3, _⟩ := DataW.trod_int ul3 t3
  simp at h0 h1 h2 h3
  exact ⟨u0, u1, u2, u3, h0, h1, h2, h3⟩
set_option maxRecDepth 100000 in
theorem open_shaft {fuel : Nat} {cs : List Value} {x : DataW H × List MemPlace} (h : DataW.trod enc Tryz.prog W base sp held fuel 85 cs = some x) :
    ∃ y : Shaft, cs = [.string y.name, .int .i64 y.s0, .int .i64 y.s1, .int .i64 y.l0, .int .i64 y.l1, .int .i64 y.w0, .int .i64 y.w1] := by
  obtain ⟨f0, f1, f2, f3, e, a0, b0, a1, b1, a2, b2, a3, b3⟩ := fields_four fo85
  obtain ⟨y0, y1, y2, y3, n, _, hl, t0, t1, t2, t3⟩ := trod_struct4 e h
  rw [co85] at hl
  match cs, hl with
  | [c0, c1, c2, c3, c4, c5, c6], _ =>
    rw [a0, b0, co9] at t0
    rw [a1, b1, co54] at t1
    rw [a2, b2, co54] at t2
    rw [a3, b3, co54] at t3
    simp only [List.drop, List.take] at t0 t1 t2 t3
    obtain ⟨s, h0, _⟩ := DataW.trod_string ul9 t0
    obtain ⟨u1, v1, rfl, rfl⟩ := open_span t1
    obtain ⟨u2, v2, rfl, rfl⟩ := open_span t2
    obtain ⟨u3, v3, rfl, rfl⟩ := open_span t3
    simp at h0
    subst h0
    exact ⟨⟨s, u1, v1, u2, v2, u3, v3⟩, rfl⟩
theorem add_spot {a : Addr} {w : World} {v : Value} {k : Nat} (h : w.cell? (a.add k) = some v) (hk : k = 0) : a = ⟨a.block, a.off, none⟩ := by
  subst hk
  simp only [Addr.add, if_true] at h
  unfold World.cell? at h
  obtain ⟨b, o, sp⟩ := a
  cases sp with
  | none => rfl
  | some s =>
    dsimp only at h
    split at h
    · simp at h
    · cases h
theorem open_shafts {fuel : Nat} {v : Value} {x : DataW H × List MemPlace} (h : DataW.trod enc Tryz.prog W base sp held fuel 24 [v] = some x) : ∃ (A : Option Addr) (n c : Nat) (sh : Nat → Shaft), v = .slice A n c ∧ n ≤ c ∧ ShaftsAt W A n sh := by
  rcases Go.Deep.open_slice ul24 h with ⟨h0, _⟩ | ⟨a, len, cap, m, n, D, Pl, h0, hb, hl, hm, hmm, rfl, hx⟩
  · simp at h0
    subst h0
    exact ⟨none, 0, 0, fun _ => ⟨.empty, 0, 0, 0, 0, 0, 0⟩, rfl, Nat.le_refl _, fun k hk => by omega⟩
  · simp at h0
    subst h0
    have hlm : len ≤ m := by rw [hmm]; split <;> omega
    have each : ∀ i, i < len → ∃ y : Shaft, a = ⟨a.block, a.off, none⟩ ∧ ShaftAt W a.block (a.off + i * 7) y := by
      intro i hi
      obtain ⟨cs', h1, h2⟩ := hx i (by omega)
      rw [co85] at h1
      obtain ⟨_, hlen, hcell⟩ := World.cells?_some h1
      obtain ⟨y, rfl⟩ := open_shaft h2
      have hsp : a = ⟨a.block, a.off, none⟩ := by
        obtain ⟨cs0, g1, g2⟩ := hx 0 (by omega)
        rw [co85] at g1
        obtain ⟨_, glen, gcell⟩ := World.cells?_some g1
        obtain ⟨z, rfl⟩ := open_shaft g2
        have g0 := gcell 0 (by omega)
        simp only [Nat.zero_mul] at g0
        have g3 : ((a.add 0).add 0) = a.add 0 := by simp [Addr.add]
        rw [g3] at g0
        exact add_spot (k := 0) g0 rfl
      refine ⟨y, hsp, ?_⟩
      have key : ∀ j, (a.add (i * 7)).add j = ⟨a.block, a.off + i * 7 + j, none⟩ := by
        intro j
        rw [hsp]
        unfold Addr.add
        by_cases h1 : i * 7 = 0 <;> by_cases h2 : j = 0 <;> simp [h1, h2]
      have e0 := hcell 0 (by omega)
      have e1 := hcell 1 (by omega)
      have e2 := hcell 2 (by omega)
      have e3 := hcell 3 (by omega)
      have e4 := hcell 4 (by omega)
      have e5 := hcell 5 (by omega)
      have e6 := hcell 6 (by omega)
      rw [key] at e0 e1 e2 e3 e4 e5 e6
      exact ⟨by simpa using e0, by simpa using e1, by simpa using e2, by simpa using e3, by simpa using e4, by simpa using e5, by simpa using e6⟩
    refine ⟨some a, len, cap, fun i => if hi : i < len then (each i hi).choose else ⟨.empty, 0, 0, 0, 0, 0, 0⟩, rfl, hl, fun k hk => ⟨a.block, a.off, ?_, ?_⟩⟩
    · rw [← (each k hk).choose_spec.1]
    · dsimp only
      rw [dif_pos hk]
      exact (each k hk).choose_spec.2
set_option maxRecDepth 100000 in
theorem open_stock {fuel : Nat} {cs : List Value} {x : DataW H × List MemPlace} (h : DataW.trod enc Tryz.prog W base sp held fuel 26 cs = some x) :
    ∃ (rs rl rw many : Int) (A : Option Addr) (n c : Nat) (sh : Nat → Shaft), cs = [.int .i64 rs, .int .i64 rl, .int .i64 rw, .int .i64 many, .slice A n c] ∧ n ≤ c ∧ ShaftsAt W A n sh := by
  obtain ⟨f0, f1, e, a0, b0, a1, b1⟩ := fields_two fo26
  obtain ⟨y0, y1, n, _, hl, t0, t1⟩ := trod_struct2 e h
  rw [co26] at hl
  match cs, hl with
  | [c0, c1, c2, c3, c4], _ =>
    rw [a0, b0, co23] at t0
    rw [a1, b1, co24] at t1
    simp only [List.drop, List.take] at t0 t1
    obtain ⟨a, b, c, d, rfl, rfl, rfl, rfl⟩ := open_rule t0
    obtain ⟨A, n', cap, sh, rfl, h1, h2⟩ := open_shafts t1
    exact ⟨a, b, c, d, A, n', cap, sh, rfl, h1, h2⟩
end
end Go.Proofs.YtnehjneldpinmaaGreat
end
