/- A part of the proof that ArrowKnown returns true for every input: no further condition. -/
import Derived.Test.YtpdmgecbapmgdaaGreatGp0
import Derived.Deep.Slices
import Derived.Lib.SmallJoins
import Derived.Test.YtpdmgecbapmgdaaGreatGp5
import Derived.Test.YtpdmgecbapmgdaaGreatRows
import Derived.Conc.LeavingOf
import Derived.Carry
set_option linter.unusedVariables false
set_option maxHeartbeats 2000000
set_option maxRecDepth 100000
section
namespace Go.Proofs.YtpdmgecbapmgdaaGreat
open Go.RowKit Go.ChangeShapes Go.WideShapes Go.Joins
def fieldsOf (P : Program) (t : TypeId) : Option (List (Nat × TypeId)) := match P.underlying t with
  | some (.struct fs) => some (fs.toList.map fun f => (f.offset, f.type))
  | _ => none
theorem fields_two {P : Program} {t : TypeId} {o0 o1 : Nat} {t0 t1 : TypeId} (h : fieldsOf P t = some [(o0, t0), (o1, t1)]) : ∃ f0 f1 : Field, P.underlying t = some (.struct #[f0, f1]) ∧ f0.offset = o0 ∧ f0.type = t0 ∧ f1.offset = o1 ∧ f1.type = t1 := by
  unfold fieldsOf at h
  split at h
  · next fs e =>
    obtain ⟨l⟩ := fs
    match l, h with
    | [f0, f1], h =>
      simp at h
      exact ⟨f0, f1, e, h.1.1, h.1.2, h.2.1, h.2.2⟩
    | [], h => simp at h
    | [_], h => simp at h
    | _ :: _ :: _ :: _, h => simp at h
  · cases h
theorem fields_four {P : Program} {t : TypeId} {o0 o1 o2 o3 : Nat} {t0 t1 t2 t3 : TypeId} (h : fieldsOf P t = some [(o0, t0), (o1, t1), (o2, t2), (o3, t3)]) :
    ∃ f0 f1 f2 f3 : Field, P.underlying t = some (.struct #[f0, f1, f2, f3]) ∧ f0.offset = o0 ∧ f0.type = t0 ∧ f1.offset = o1 ∧ f1.type = t1 ∧ f2.offset = o2 ∧ f2.type = t2 ∧ f3.offset = o3 ∧ f3.type = t3 := by
  unfold fieldsOf at h
  split at h
  · next fs e =>
    obtain ⟨l⟩ := fs
    match l, h with
    | [f0, f1, f2, f3], h =>
      simp at h
      obtain ⟨⟨h1, h2⟩, ⟨h3, h4⟩, ⟨h5, h6⟩, h7, h8⟩ := h
      exact ⟨f0, f1, f2, f3, e, h1, h2, h3, h4, h5, h6, h7, h8⟩
    | [], h => simp at h
    | [_], h => simp at h
    | [_, _], h => simp at h
    | [_, _, _], h => simp at h
    | _ :: _ :: _ :: _ :: _ :: _, h => simp at h
  · cases h
theorem fo26 : fieldsOf Tryz.prog 26 = some [(0, 23), (4, 24)] := by kernel_rfl
theorem fo23 : fieldsOf Tryz.prog 23 = some [(0, 3), (1, 3), (2, 3), (3, 3)] := by kernel_rfl
theorem fo52 : fieldsOf Tryz.prog 52 = some [(0, 3), (1, 3)] := by kernel_rfl
theorem fo65 : fieldsOf Tryz.prog 65 = some [(0, 9), (1, 52), (3, 52), (5, 52)] := by kernel_rfl
theorem ul24 : Tryz.prog.underlying 24 = some (.slice 65) := by kernel_rfl
theorem ul3 : Tryz.prog.underlying 3 = some (.int .i64) := by kernel_rfl
theorem ul9 : Tryz.prog.underlying 9 = some .string := by kernel_rfl
theorem co26 : Tryz.prog.cellsOf 26 = 5 := by kernel_rfl
theorem co23 : Tryz.prog.cellsOf 23 = 4 := by kernel_rfl
theorem co24 : Tryz.prog.cellsOf 24 = 1 := by kernel_rfl
theorem co3 : Tryz.prog.cellsOf 3 = 1 := by kernel_rfl
theorem co9 : Tryz.prog.cellsOf 9 = 1 := by kernel_rfl
theorem co52 : Tryz.prog.cellsOf 52 = 2 := by kernel_rfl
theorem co65 : Tryz.prog.cellsOf 65 = 7 := by kernel_rfl
section
variable {H : Type} {enc : TypeId × Value → H} {W : World} {base : Nat} {sp : Nat → Bool} {held : Bool}
theorem open_span {fuel : Nat} {c0 c1 : Value} {x : DataW H × List MemPlace} (h : DataW.trod enc Tryz.prog W base sp held fuel 52 [c0, c1] = some x) : ∃ u v : Int, c0 = .int .i64 u ∧ c1 = .int .i64 v := by
  obtain ⟨f0, f1, e, a0, b0, a1, b1⟩ := fields_two fo52
  obtain ⟨y0, y1, n, _, _, t0, t1⟩ := trod_struct2 e h
  rw [a0, b0, co3] at t0
  rw [a1, b1, co3] at t1
  obtain ⟨u, h0, _⟩ := DataW.trod_int ul3 t0
  obtain ⟨v, h1, _⟩ := DataW.trod_int ul3 t1
  simp at h0 h1
  exact ⟨u, v, h0, h1⟩
theorem open_rule {fuel : Nat} {c0 c1 c2 c3 : Value} {x : DataW H × List MemPlace} (h : DataW.trod enc Tryz.prog W base sp held fuel 23 [c0, c1, c2, c3] = some x) :
    ∃ a b c d : Int, c0 = .int .i64 a ∧ c1 = .int .i64 b ∧ c2 = .int .i64 c ∧ c3 = .int .i64 d := by
  obtain ⟨f0, f1, f2, f3, e, a0, b0, a1, b1, a2, b2, a3, b3⟩ := fields_four fo23
  obtain ⟨y0, y1, y2, y3, n, _, _, t0, t1, t2, t3⟩ := trod_struct4 e h
  rw [a0, b0, co3] at t0
  rw [a1, b1, co3] at t1
  rw [a2, b2, co3] at t2
  rw [a3, b3, co3] at t3
  obtain ⟨u0, h0, _⟩ := DataW.trod_int ul3 t0
  obtain ⟨u1, h1, _⟩ := DataW.trod_int ul3 t1
  obtain ⟨u2, h2, _⟩ := DataW.trod_int ul3 t2
  obtain ⟨u3, h3, _⟩ := DataW.trod_int ul3 t3
  simp at h0 h1 h2 h3
  exact ⟨u0, u1, u2, u3, h0, h1, h2, h3⟩
theorem open_shaft {fuel : Nat} {cs : List Value} {x : DataW H × List MemPlace} (h : DataW.trod enc Tryz.prog W base sp held fuel 65 cs = some x) :
    ∃ y : Shaft, cs = [.string y.name, .int .i64 y.s0, .int .i64 y.s1, .int .i64 y.l0, .int .i64 y.l1, .int .i64 y.w0, .int .i64 y.w1] := by
  obtain ⟨f0, f1, f2, f3, e, a0, b0, a1, b1, a2, b2, a3, b3⟩ := fields_four fo65
  obtain ⟨y0, y1, y2, y3, n, _, hl, t0, t1, t2, t3⟩ := trod_struct4 e h
  rw [co65] at hl
  match cs, hl with
  | [c0, c1, c2, c3, c4, c5, c6], _ =>
    rw [a0, b0, co9] at t0
    rw [a1, b1, co52] at t1
    rw [a2, b2, co52] at t2
    rw [a3, b3, co52] at t3
    simp only [List.drop, List.take] at t0 t1 t2 t3
    obtain ⟨s, h0, _⟩ := DataW.trod_string ul9 t0
    obtain ⟨u1, v1, rfl, rfl⟩ := open_span t1
    obtain ⟨u2, v2, rfl, rfl⟩ := open_span t2
    obtain ⟨u3, v3, rfl, rfl⟩ := open_span t3
    simp at h0
    subst h0
    exact ⟨⟨s, u1, v1, u2, v2, u3, v3⟩, rfl⟩
theorem add_spot {a : Addr} {w : World} {v : Value} {k : Nat} (h : w.cell? (a.add k) = some v) (hk : k = 0) : a = ⟨a.block, a.off, none⟩ := by
  subst hk
  simp only [Addr.add, if_true] at h
  unfold World.cell? at h
  obtain ⟨b, o, sp⟩ := a
  cases sp with
  | none => rfl
  | some s =>
    dsimp only at h
    split at h
    · simp at h
    · cases h
theorem open_shafts {fuel : Nat} {v : Value} {x : DataW H × List MemPlace} (h : DataW.trod enc Tryz.prog W base sp held fuel 24 [v] = some x) : ∃ (A : Option Addr) (n c : Nat) (sh : Nat → Shaft), v = .slice A n c ∧ n ≤ c ∧ ShaftsAt W A n sh := by
  rcases Go.Deep.open_slice ul24 h with ⟨h0, _⟩ | ⟨a, len, cap, m, n, D, Pl, h0, hb, hl, hm, hmm, rfl, hx⟩
  · simp at h0
    subst h0
    exact ⟨none, 0, 0, fun _ => ⟨.empty, 0, 0, 0, 0, 0, 0⟩, rfl, Nat.le_refl _, fun k hk => by omega⟩
  · simp at h0
    subst h0
    have hlm : len ≤ m := by rw [hmm]; split <;> omega
    have each : ∀ i, i < len → ∃ y : Shaft, a = ⟨a.block, a.off, none⟩ ∧ ShaftAt W a.block (a.off + i * 7) y := by
      intro i hi
      obtain ⟨cs', h1, h2⟩ := hx i (by omega)
      rw [co65] at h1
      obtain ⟨_, hlen, hcell⟩ := World.cells?_some h1
      obtain ⟨y, rfl⟩ := open_shaft h2
      have hsp : a = ⟨a.block, a.off, none⟩ := by
        obtain ⟨cs0, g1, g2⟩ := hx 0 (by omega)
        rw [co65] at g1
        obtain ⟨_, glen, gcell⟩ := World.cells?_some g1
        obtain ⟨z, rfl⟩ := open_shaft g2
        have g0 := gcell 0 (by omega)
        simp only [Nat.zero_mul] at g0
        have g3 : ((a.add 0).add 0) = a.add 0 := by simp [Addr.add]
        rw [g3] at g0
        exact add_spot (k := 0) g0 rfl
      refine ⟨y, hsp, ?_⟩
      have key : ∀ j, (a.add (i * 7)).add j = ⟨a.block, a.off + i * 7 + j, none⟩ := by
        intro j
        rw [hsp]
        unfold Addr.add
        by_cases h1 : i * 7 = 0 <;> by_cases h2 : j = 0 <;> simp [h1, h2]
      have e0 := hcell 0 (by omega)
      have e1 := hcell 1 (by omega)
      have e2 := hcell 2 (by omega)
      have e3 := hcell 3 (by omega)
      have e4 := hcell 4 (by omega)
      have e5 := hcell 5 (by omega)
      have e6 := hcell 6 (by omega)
      rw [key] at e0 e1 e2 e3 e4 e5 e6
      exact ⟨by simpa using e0, by simpa using e1, by simpa using e2, by simpa using e3, by simpa using e4, by simpa using e5, by simpa using e6⟩
    refine ⟨some a, len, cap, fun i => if hi : i < len then (each i hi).choose else ⟨.empty, 0, 0, 0, 0, 0, 0⟩, rfl, hl, fun k hk => ⟨a.block, a.off, ?_, ?_⟩⟩
    · rw [← (each k hk).choose_spec.1]
    · dsimp only
      rw [dif_pos hk]
      exact (each k hk).choose_spec.2
theorem open_stock {fuel : Nat} {cs : List Value} {x : DataW H × List MemPlace} (h : DataW.trod enc Tryz.prog W base sp held fuel 26 cs = some x) :
    ∃ (rs rl rw many : Int) (A : Option Addr) (n c : Nat) (sh : Nat → Shaft), cs = [.int .i64 rs, .int .i64 rl, .int .i64 rw, .int .i64 many, .slice A n c] ∧ n ≤ c ∧ ShaftsAt W A n sh := by
  obtain ⟨f0, f1, e, a0, b0, a1, b1⟩ := fields_two fo26
  obtain ⟨y0, y1, n, _, hl, t0, t1⟩ := trod_struct2 e h
  rw [co26] at hl
  match cs, hl with
  | [c0, c1, c2, c3, c4], _ =>
    rw [a0, b0, co23] at t0
    rw [a1, b1, co24] at t1
    simp only [List.drop, List.take] at t0 t1
    obtain ⟨a, b, c, d, rfl, rfl, rfl, rfl⟩ := open_rule t0
    obtain ⟨A, n', cap, sh, rfl, h1, h2⟩ := open_shafts t1
    exact ⟨a, b, c, d, A, n', cap, sh, rfl, h1, h2⟩
end
end Go.Proofs.YtpdmgecbapmgdaaGreat
end
section
namespace Go.Proofs.YtpdmgecbapmgdaaGreat
open Go.RowKit Go.Cx Go.Conc Go.ChangeShapes Go.WideShapes Go.ChangeAt
theorem picks_strike {W : World} {A : Option Addr} {n : Nat} {p : Nat → Int} (h : PicksAt W A n p) : PicksAt (strike W) A n p := fun k hk => by
  obtain ⟨b, o, e, hx, h2⟩ := h k hk
  exact ⟨b, o, e, by rw [← (twin_strike W).cell]; exact hx, h2⟩
theorem own : ownKnob Tryz.prog.godebug = none := by kernel_rfl
theorem laidOut : laidOutB Tryz.prog = true := by kernel_rfl
theorem ul4 : Tryz.prog.underlying 4 = some .bool := by kernel_rfl
theorem ul57 : Tryz.prog.underlying 57 = some (.int .u16) := by kernel_rfl
theorem ul58 : Tryz.prog.underlying 58 = some (.slice 57) := by kernel_rfl
theorem co57 : Tryz.prog.cellsOf 57 = 1 := by kernel_rfl
theorem shut_true {H : Type} {enc : TypeId × Value → H} {w : World} {base : Nat} {sp : Nat → Bool} {held : Bool} : DataW.Trod enc Tryz.prog w base sp held 4 (.bool true) (.lit (.bool true)) [] := by
  refine ⟨1, ?_⟩
  simp only [DataW.trod, Value.cells, ul4]
theorem open_picks {H : Type} {enc : TypeId × Value → H} {W : World} {base : Nat} {sp : Nat → Bool} {held : Bool} {fuel : Nat} {v : Value} {x : DataW H × List MemPlace} (h : DataW.trod enc Tryz.prog W base sp held fuel 58 [v] = some x) :
    ∃ (A : Option Addr) (n c : Nat) (p : Nat → Int), v = .slice A n c ∧ n ≤ c ∧ PicksAt W A n p := by
  rcases Go.Deep.open_slice ul58 h with ⟨h0, _⟩ | ⟨a, len, cap, m, n, D, Pl, h0, hb, hl, hm, hmm, rfl, hx⟩
  · simp at h0
    subst h0
    exact ⟨none, 0, 0, fun _ => 0, rfl, Nat.le_refl _, fun k hk => by omega⟩
  · simp at h0
    subst h0
    have hlm : len ≤ m := by rw [hmm]; split <;> omega
    have each : ∀ i, i < len → ∃ y : Int, a = ⟨a.block, a.off, none⟩ ∧ W.cell? ⟨a.block, a.off + i, none⟩ = some (.int .u16 y) ∧ 0 ≤ y ∧ y ≤ 65535 := by
      intro i hi
      obtain ⟨cs', h1, h2⟩ := hx i (by omega)
      rw [co57] at h1
      obtain ⟨_, hlen, hcell⟩ := World.cells?_some h1
      obtain ⟨y, rfl, _, hwf⟩ := DataW.trod_int ul57 h2
      have hsp : a = ⟨a.block, a.off, none⟩ := by
        obtain ⟨cs0, g1, g2⟩ := hx 0 (by omega)
        rw [co57] at g1
        obtain ⟨_, glen, gcell⟩ := World.cells?_some g1
        obtain ⟨z, rfl, _, _⟩ := DataW.trod_int ul57 g2
        have g0 := gcell 0 (by omega)
        simp only [Nat.zero_mul] at g0
        have g3 : ((a.add 0).add 0) = a.add 0 := by simp [Addr.add]
        rw [g3] at g0
        exact add_spot (k := 0) g0 rfl
      refine ⟨y, hsp, ?_, ?_⟩
      · have e0 := hcell 0 (by omega)
        have key : (a.add (i * 1)).add 0 = ⟨a.block, a.off + i, none⟩ := by
          rw [hsp]
          unfold Addr.add
          by_cases h1 : i = 0
          · subst h1; simp
          · simp [h1]
        rw [key] at e0
        simpa using e0
      · simp [Lit.wf, IntKind.min, IntKind.max, IntKind.signed, IntKind.bits] at hwf
        omega
    refine ⟨some a, len, cap, fun i => if hi : i < len then (each i hi).choose else 0, rfl, hl, fun k hk => ⟨a.block, a.off, ?_, ?_⟩⟩
    · rw [← (each k hk).choose_spec.1]
    · dsimp only
      rw [dif_pos hk]
      exact (each k hk).choose_spec.2
end Go.Proofs.YtpdmgecbapmgdaaGreat
end
section
namespace Go.Proofs.YtpdmgecbapmgdaaGreat
open Go.RowKit Go.Cx Go.Conc Go.ChangeShapes Go.WideShapes Go.ChangeAt
theorem enter8 (v0 v1 v2 v3 v4 v5 : Value) : Frame.enter Tryz.prog 8 #[v0, v1, v2, v3, v4, v5] .normal = (lawFr 8).atR { tmps := #[v0, v1, v2, v3, v4, v5] ++ Array.replicate 154 undef, defers := [] } [.code A8] := by
  have hb : Tryz.f8.body = some A8 := rfl
  simp [Frame.enter, Frame.atR, Tryz.func8, hb]
theorem known_run (rs rl rw many : Int) (A : Option Addr) (n c : Nat) (sh : Nat → Shaft) (bits : Int) (s v : Nat) (x0 x1 : Int) (PA : Option Addr) (pn pc : Nat) (p : Nat → Int) (W : World) (hc : n ≤ c) (hpc : pn ≤ pc) (hs : s ≤ 255) (hv : v ≤ 255) (hsh : ShaftsAt W A n sh) (hp : PicksAt W PA pn p) :
    ∃ M last o w' t', runNT Tryz.prog (M + 1) (solo (G (Frame.enter Tryz.prog 8 #[stockV rs rl rw many A n c, .int .u16 bits, .int .u8 s, .int .u8 v, spanV x0 x1, .slice PA pn pc] .normal) []) W) #[] = (.ended o w', t') ∧
      runN Tryz.prog M (solo (G (Frame.enter Tryz.prog 8 #[stockV rs rl rw many A n c, .int .u16 bits, .int .u8 s, .int .u8 v, spanV x0 x1, .slice PA pn pc] .normal) []) W) = .next last ∧ Go.step Tryz.prog last = .ended o w' ∧
      Go.Conc.Good Tryz.prog (fun v w1 => v = .bool true ∧ Below W.heap.size W w1) last o w' t' :=
  law_run (enter8 _ _ _ _ _ _) fin8 Tryz.func8 rfl (by omega) (known_walk rs rl rw many A n c sh bits s v x0 x1 PA pn pc p (strike W) hc hpc hs hv (Lib.hid (shafts_strike hsh)) (Lib.hid (picks_strike hp)))
section
variable {H : Type} {enc : TypeId × Value → H} {P : Program} {w : World} {base : Nat} {spare : Nat → Bool} {held : Bool}
theorem trodAll_six {t0 t1 t2 t3 t4 t5 : TypeId} {args : Array Value} {ds : List (DataW H)} {ps : List MemPlace} (h : DataW.TrodAll enc P w base spare held [t0, t1, t2, t3, t4, t5] args.toList ds ps) :
    ∃ v0 v1 v2 v3 v4 v5 d0 d1 d2 d3 d4 d5 p0 p1 p2 p3 p4 p5, args = #[v0, v1, v2, v3, v4, v5] ∧ ds = [d0, d1, d2, d3, d4, d5] ∧ ps = p0 ++ (p1 ++ (p2 ++ (p3 ++ (p4 ++ p5)))) ∧ DataW.Trod enc P w base spare held t0 v0 d0 p0 ∧ DataW.Trod enc P w base spare held t1 v1 d1 p1 ∧
      DataW.Trod enc P w base spare held t2 v2 d2 p2 ∧ DataW.Trod enc P w base spare held t3 v3 d3 p3 ∧ DataW.Trod enc P w base spare held t4 v4 d4 p4 ∧ DataW.Trod enc P w base spare held t5 v5 d5 p5 := by
  obtain ⟨v0, vs0, d0, e0, p0, q0, hargs, rfl, rfl, h0, r0⟩ := trodAll_cons h
  obtain ⟨v1, vs1, d1, e1, p1, q1, rfl, rfl, rfl, h1, r1⟩ := trodAll_cons r0
  obtain ⟨v2, vs2, d2, e2, p2, q2, rfl, rfl, rfl, h2, r2⟩ := trodAll_cons r1
  obtain ⟨v3, vs3, d3, e3, p3, q3, rfl, rfl, rfl, h3, r3⟩ := trodAll_cons r2
  obtain ⟨v4, vs4, d4, e4, p4, q4, rfl, rfl, rfl, h4, r4⟩ := trodAll_cons r3
  obtain ⟨v5, vs5, d5, e5, p5, q5, rfl, rfl, rfl, h5, r5⟩ := trodAll_cons r4
  obtain ⟨rfl, rfl, rfl⟩ := trodAll_nil r5
  exact ⟨v0, v1, v2, v3, v4, v5, d0, d1, d2, d3, d4, d5, p0, p1, p2, p3, p4, p5, by cases args; simp_all, rfl, by simp, h0, h1, h2, h3, h4, h5⟩
theorem trodAll_mk6 {t0 t1 t2 t3 t4 t5 : TypeId} {v0 v1 v2 v3 v4 v5 : Value} {d0 d1 d2 d3 d4 d5 : DataW H} {p0 p1 p2 p3 p4 p5 : List MemPlace} (h0 : DataW.Trod enc P w base spare held t0 v0 d0 p0) (h1 : DataW.Trod enc P w base spare held t1 v1 d1 p1)
    (h2 : DataW.Trod enc P w base spare held t2 v2 d2 p2) (h3 : DataW.Trod enc P w base spare held t3 v3 d3 p3) (h4 : DataW.Trod enc P w base spare held t4 v4 d4 p4) (h5 : DataW.Trod enc P w base spare held t5 v5 d5 p5) :
    DataW.TrodAll enc P w base spare held [t0, t1, t2, t3, t4, t5] [v0, v1, v2, v3, v4, v5] [d0, d1, d2, d3, d4, d5] (p0 ++ (p1 ++ (p2 ++ (p3 ++ (p4 ++ p5))))) :=
  ⟨p0, _, h0, ⟨p1, _, h1, ⟨p2, _, h2, ⟨p3, _, h3, trodAll_mk2 h4 h5, rfl⟩, rfl⟩, rfl⟩, rfl⟩
end
theorem two_of {l : List Value} (h : l.length = 2) : ∃ a b, l = [a, b] := by
  cases l with
  | nil => cases h
  | cons a l =>
    cases l with
    | nil => cases h
    | cons b l =>
      cases l with
      | nil => exact ⟨a, b, rfl⟩
      | cons c l => simp at h
theorem open_spanV {H : Type} {enc : TypeId × Value → H} {W : World} {b0 base : Nat} {r : Go.Reach} {sp : Nat → Bool} {held : Bool} {v : Value} {d : DataW H} {ps : List MemPlace} (hv4 : Value.okWide Tryz.prog W r b0 52 v) (h : DataW.Trod enc Tryz.prog W base sp held 52 v d ps) : ∃ x0 x1 : Int, v = spanV x0 x1 := by
  obtain ⟨f2, f3, e52, _⟩ := fields_two fo52
  obtain ⟨fuel4, hf4⟩ := h
  have hagg4 : ∃ cs, v = .agg cs := by
    unfold Value.okWide at hv4
    rw [e52] at hv4
    obtain ⟨cs, h, _⟩ := hv4
    exact ⟨cs, h⟩
  obtain ⟨⟨l⟩, rfl⟩ := hagg4
  have hf5 : DataW.trod enc Tryz.prog W base sp held fuel4 52 l = some (d, ps) := hf4
  obtain ⟨y0, y1, m, _, hl, t0, t1⟩ := trod_struct2 e52 hf5
  rw [co52] at hl
  obtain ⟨c0, c1, rfl⟩ := two_of hl
  obtain ⟨u, v, rfl, rfl⟩ := open_span hf5
  exact ⟨u, v, rfl⟩
theorem ul5 : Tryz.prog.underlying 5 = some (.int .u8) := by kernel_rfl
theorem params8 : Tryz.f8.params.toList = [26, 57, 5, 5, 52, 58] := rfl
theorem known_lifted (os : Os) (started : os.Started) (H : Type) (enc : TypeId × Value → H) :
    ReturnsInLeavingWide {} Tryz.checked os 8 .any (Rows.arrowKnownSpec.pre6 enc Tryz.prog Tryz.f8 Rows.arrowKnownRow.domain false) (Rows.arrowKnownSpec.post enc Tryz.prog Tryz.f8 false true false false) := by
  refine returnsInLeavingWide_of_change_sized (C := Tryz.checked) own started Tryz.func8
    (ChangeSpec.witness6 (enc := enc) (C := Tryz.checked) false ⟨#[], #[.agg #[.int .i64 0, .int .i64 0, .int .i64 0, .int .i64 0, .slice none 0 0], .int .u16 0, .int .u8 0, .int .u8 0, .agg #[.int .i64 0, .int .i64 0], .slice none 0 0], []⟩ 8 (by kernel_rfl) (by kernel_rfl) (by kernel_rfl) (by kernel_rfl)) ?_
  intro W base args ds gs before hval0 hW _ _ _
  have hval : ∀ (j : Nat) t v, Tryz.f8.params[j]? = some t → args[j]? = some v → Value.okWide Tryz.prog W .any base t v := hval0
  have hW' := hW
  obtain ⟨p, q, hA0, hV, rfl, _, _⟩ := hW
  have hA : DataW.TrodAll enc Tryz.prog W 0 (fun _ => true) true Tryz.f8.params.toList args.toList ds p := hA0
  rw [params8] at hA
  obtain ⟨v0, v1, v2, v3, v4, v5, d0, d1, d2, d3, d4, d5, p0, p1, p2, p3, p4, p5, rfl, rfl, rfl, h0, h1, h2, h3, h4, h5⟩ := trodAll_six hA
  obtain ⟨rfl, rfl⟩ := trodVars_none hV
  obtain ⟨bits, rfl, rfl, rfl, hwb⟩ := open_int ul57 (hval 1 57 v1 rfl rfl) h1
  obtain ⟨sn, rfl, rfl, rfl, hws⟩ := open_int ul5 (hval 2 5 v2 rfl rfl) h2
  obtain ⟨vn, rfl, rfl, rfl, hwv⟩ := open_int ul5 (hval 3 5 v3 rfl rfl) h3
  obtain ⟨s, rfl, hs⟩ : ∃ s : Nat, sn = s ∧ s ≤ 255 := by
    simp [Lit.wf, IntKind.min, IntKind.max, IntKind.signed, IntKind.bits] at hws
    exact ⟨sn.toNat, by omega, by omega⟩
  obtain ⟨v, rfl, hv⟩ : ∃ v : Nat, vn = v ∧ v ≤ 255 := by
    simp [Lit.wf, IntKind.min, IntKind.max, IntKind.signed, IntKind.bits] at hwv
    exact ⟨vn.toNat, by omega, by omega⟩
  have hv0 := hval 0 26 v0 rfl rfl
  obtain ⟨f0, f1, e26, _⟩ := fields_two fo26
  have hagg : ∃ cs, v0 = .agg cs := by
    unfold Value.okWide at hv0
    rw [e26] at hv0
    obtain ⟨cs, h, _⟩ := hv0
    exact ⟨cs, h⟩
  obtain ⟨cs, rfl⟩ := hagg
  obtain ⟨x0, x1, rfl⟩ := open_spanV (hval 4 52 v4 rfl rfl) h4
  have h0k := h0
  have h4k := h4
  have h5k := h5
  obtain ⟨fuel, hf⟩ := h0
  obtain ⟨rs, rl, rw', many, A, n, c, sh, hcs, hc, hsh⟩ := open_stock hf
  have hcs' : cs = #[.int .i64 rs, .int .i64 rl, .int .i64 rw', .int .i64 many, .slice A n c] := by
    have : cs.toList = [.int .i64 rs, .int .i64 rl, .int .i64 rw', .int .i64 many, .slice A n c] := hcs
    exact Array.toList_inj.1 this
  subst hcs'
  obtain ⟨fuel2, hf2⟩ := h5
  have hv5 := hval 5 58 v5 rfl rfl
  obtain ⟨PA0, pn0, pc0, rfl⟩ := okWide_slice ul58 hv5
  obtain ⟨PA, pn, pc, pk, e2, hpc, hpk⟩ := open_picks hf2
  cases e2
  clear hA0 hval0
  have hlt : ∀ x, x ∈ p0 ∨ x ∈ p4 ∨ x ∈ p5 → x.block < W.heap.size := fun x hx => hW'.lt x (by simp; rcases hx with h | h | h <;> simp [h])
  obtain ⟨M, last, o, w', t', r1, r2, r3, r4⟩ := known_run rs rl rw' many A n c sh bits s v x0 x1 PA0 pn0 pc0 pk W hc hpc hs hv hsh hpk
  refine ⟨M, last, o, w', t', r1, r2, r3, r4.mono fun v hF => ?_⟩
  obtain ⟨rfl, hb⟩ := hF
  refine ⟨_, _, _, [], p0 ++ ([] ++ ([] ++ ([] ++ (p4 ++ p5)))), [], hW', ?_, ?_, rfl, hb.frame _, fun h => by cases h⟩
  · exact trodAll_mk1 (t := 4) (v := .bool true) (d := .lit (.bool true)) shut_true
  · exact trodAll_mk6 (Below.trod laidOut (by kernel_rfl) (of_decide_eq_true (by kernel_rfl)) h0k hb fun x hx => hlt x (.inl hx)) (shut_int (enc := enc) (w := w') (base := 0) (spare := fun b => decide (b < W.heap.size)) (held := true) ul57 hwb)
      (shut_int (enc := enc) (w := w') (base := 0) (spare := fun b => decide (b < W.heap.size)) (held := true) ul5 hws) (shut_int (enc := enc) (w := w') (base := 0) (spare := fun b => decide (b < W.heap.size)) (held := true) ul5 hwv)
      (Below.trod laidOut (by kernel_rfl) (of_decide_eq_true (by kernel_rfl)) h4k hb fun x hx => hlt x (.inr (.inl hx))) (Below.trod laidOut (by kernel_rfl) (of_decide_eq_true (by kernel_rfl)) h5k hb fun x hx => hlt x (.inr (.inr hx)))
theorem arrowKnown_holds : Rows.ArrowKnownSaid :=
  OpenClaim.holds_of_wide_leaving 8 Tryz.f8 rfl rfl rfl rfl rfl rfl rfl ⟨rfl, rfl, rfl, rfl, rfl⟩ rfl rfl rfl rfl rfl (by kernel_rfl) Tryz.func8 (by kernel_rfl)
    (of_decide_eq_true (by kernel_rfl)) (by unfold Func.isWrapper; first | (rw [if_pos (by decide +kernel)]; kernel_rfl) | (rw [if_neg (by decide +kernel)]; exact ⟨rfl, rfl⟩))
    (fun os started H enc _ => known_lifted os started H enc)
end Go.Proofs.YtpdmgecbapmgdaaGreat
end
