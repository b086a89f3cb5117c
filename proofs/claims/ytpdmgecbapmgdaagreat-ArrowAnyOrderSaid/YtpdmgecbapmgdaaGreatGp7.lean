/- A part of the proof that ArrowAnyOrder returns true for every input: no further condition. -/
import Derived.Test.YtpdmgecbapmgdaaGreatGp5
import Derived.Test.YtpdmgecbapmgdaaGreatGp0
import Derived.Test.YtpdmgecbapmgdaaGreatLe1
import Derived.Conc.Own4
import Derived.Conc.LeavingOf
import Derived.Deep.Slices
import Derived.Lib.SmallJoins
import Derived.Test.YtpdmgecbapmgdaaGreatGp6
import Derived.Test.YtpdmgecbapmgdaaGreatRows
import Derived.Carry
set_option linter.unusedVariables false
set_option maxHeartbeats 2000000
set_option maxRecDepth 100000
namespace Go.Proofs.YtpdmgecbapmgdaaGreat
section
open Go.RowKit Go.Cx Go.Conc
theorem yFa : zfa Tryz.prog Fc.fn := fenceOk_of (L := [7,33,34,15,13,18,55,56,57,58,59,62,63,64,65,66,77,96,97,98,99,100,101,102,103,104,105,106,107,108,109,110,124,138,78,159,160,161,125,172,3,5,6,8,16,17,19,20,21,30,31,32,35,36,37,38,39,40,41,43,60,61,67,75,76,79,80,81,82,83,84,111,123,22,25,28,68,71,72,73,112,114,115,116,117,118,119,120,121,137,139,140,141,142,157,158,23,24,26,27,29,69,70,74,113,122,4,9,10,11,12,42,44,45]) (by kernel_rfl)
theorem shafts_strike {W : World} {A : Option Addr} {n : Nat} {sh : Nat → Shaft} (h : zA W A n sh) : zA (strike W) A n sh := fun k hk => by
 obtain ⟨b, o, e, hx⟩ := h k hk; have c := fun a => (twin_strike W fun _ => True).cell a
 exact ⟨b, o, e, by rw [← c]; exact hx.h0, by rw [← c]; exact hx.h1, by rw [← c]; exact hx.h2, by rw [← c]; exact hx.h3, by rw [← c]; exact hx.h4, by rw [← c]; exact hx.h5, by rw [← c]; exact hx.h6⟩
theorem shot_there : ∃ fn, Tryz.prog.funcs[14]? = some fn ∧ (fn.name == "runtime.NumGoroutine") = false ∧ fn.body.isNone = false := ⟨_, Tryz.func14, by kernel_rfl, by kernel_rfl⟩
theorem law_calls {f : FuncId} {r z : Nat} {C0 : Code} {a0 : Act} {args : Array Value} {W : World} (hen : Frame.enter Tryz.prog f args .normal = (lawFr f).atR a0 [.code C0]) (hin : Fc.fn f)
  (h : Reach Fc Tryz.prog (lawFr f) [] (fun a k w => zLb 14 r z a k ∧ Below (strike W).heap.size (strike W) w) a0 [.code C0] (strike W)) :
  ∃ a k w N t, zLb 14 r z a k ∧ Below W.heap.size W w ∧ Lone t ∧ runNT Tryz.prog N (solo (G (Frame.enter Tryz.prog f args .normal) []) W) #[] = (.next (solo (G (Frame.enter Tryz.prog 14 #[] .normal) [(lawFr f).at a k]) w), t) := by
 obtain ⟨a, k, v, ⟨hat, hb⟩, hs⟩ := h; have hs : StepsIn (Machine.fenced Tryz.prog Fc) Tryz.prog (lone (Frame.enter Tryz.prog f args .normal) [] (strike W)) (lone ((lawFr f).atR a k) [] v) := by rw [hen]; exact hs
 obtain ⟨N, w, t, hr, hl, htw⟩ := chain_calm (Fc := Fc) (B := ⟨W, zka Tryz.prog Fc.fn⟩) (fun l => Iff.rfl) rfl yFa hs (G (Frame.enter Tryz.prog f args .normal) []) (strike W) W #[] rfl
  ⟨_, [], rfl, frIn_enter yFa hin _, .inl rfl, fun c h => by simp at h⟩ (twin_strike W _) (fun op h => by simp at h) ((lawFr f).atR a k) [] v rfl rfl
 have hsz : (strike W).heap.size = W.heap.size := by simp [strike]
 rw [hsz] at hb; refine ⟨a, k, w, N + 1, t, hat, twin_below htw hb, hl, ?_⟩; rw [runNT_add, hr]; simp only [Frame.atR_of_none (show (lawFr f).roundOf = none from rfl), runNT, stepT_solo (show (G ((lawFr f).at a k) []).status = .running from rfl), runT_solo_go (call_step shot_there hat w)]; simp [MemOp.ofEvents]
theorem env_below {w w1 : World} (h : Env (OldL w) w w1) : Below w.heap.size w w1 where
 os := h.os
 tape := h.tape
 output := h.output
 size := h.size
 block := by
  intro k hk; have hs := h.same k w.heap[k] (by simp [hk]); rw [Array.getElem?_eq_getElem hk]; cases ho : w.heap[k] with
  | cells c e fr =>
   rw [ho] at hs; obtain ⟨c', h1, h2, h3⟩ := hs; rw [h1]; have : c' = c := by apply Array.ext h2; intro i hi hi'; have := h3 i ⟨k, rfl, hk⟩; rw [Array.getElem?_eq_getElem hi, Array.getElem?_eq_getElem hi'] at this; exact Option.some.inj this
   rw [this]
  | _ => rw [ho] at hs; exact hs ⟨k, rfl, hk⟩
theorem entry_rel (hp : TabOk Tryz.tab) (b : Frame) (w : World) : XRel (fun _ => none) (fun _ => False) (fun _ => False) [b] Tryz.x0 (G (Frame.enter Tryz.prog 14 #[] .normal) [b]) w := by
 obtain ⟨fr, he⟩ : ∃ fr, zIa Tryz.tab 14 [] false = some fr := by
  cases h : zIa Tryz.tab 14 [] false with
  | some fr => exact ⟨fr, rfl⟩
  | none => exact absurd (show (zIa Tryz.tab 14 [] false).isSome = true by kernel_rfl) (by rw [h]; simp)
 have hr := zib (f := fun _ => none) hp (args' := #[]) (kind := .normal) .nil he rfl; unfold Tryz.x0; rw [he]; refine .plain (Bd := 0) ⟨⟨_, [], rfl, hr, .nil⟩, ?_⟩ (Nat.zero_le _) .nil; exact {
  wf := ⟨fun b o h => by simp [T.get] at h, fun b c x r ba m h => by simp [T.get] at h, fun r m h => by simp [members, T.get] at h⟩
  obj := fun b x h => by cases h
  mine := fun b x h => by cases h
  part := fun b x i h => by cases h
  apart := fun b b' x x' o o' h => by cases h
  coord := fun b b' x x' o o' h => by cases h
  home := fun b x h => by cases h }
theorem law_run {f : FuncId} {fl : Func} {r z : Nat} {C0 : Code} {a0 : Act} {args : Array Value} {W : World} (hen : Frame.enter Tryz.prog f args .normal = (lawFr f).atR a0 [.code C0]) (hin : Fc.fn f) (hfl : Tryz.prog.funcs[f]? = some fl) (hres : fl.results = #[.tmp r]) (hrz : r < z)
  (h : Reach Fc Tryz.prog (lawFr f) [] (fun a k w => zLb 14 r z a k ∧ Below (strike W).heap.size (strike W) w) a0 [.code C0] (strike W)) :
  ∃ M last o w' t', runNT Tryz.prog (M + 1) (solo (G (Frame.enter Tryz.prog f args .normal) []) W) #[] = (.ended o w', t') ∧
   runN Tryz.prog M (solo (G (Frame.enter Tryz.prog f args .normal) []) W) = .next last ∧ Go.step Tryz.prog last = .ended o w' ∧
   Go.Conc.Good Tryz.prog (fun v w1 => v = .bool true ∧ Below W.heap.size W w1) last o w' t' := by
 obtain ⟨a, k, w, N, t, hat, hb, hl, hr⟩ := law_calls hen hin h; obtain ⟨K, last, o, w2, t2, h1, h2, h3, h4⟩ := Tryz.shot_run (b := (lawFr f).at a k) (bot := []) (sl := none) hl (fun l h => h.elim) (entry_rel Tryz.tabOk _ w) (Post := fun v w1 => v = .bool true ∧ Env (OldL w) w w1) (n := 4) (fun w' he => after_callG yFa hin hfl hres hrz hat he); rw [← solo_eq_crowd] at h1 h2; obtain ⟨r1, r2⟩ := run_then hr h1 h2; exact ⟨N + K, last, o, w2, t2, r1, r2, h3, h4.mono fun v hp => ⟨hp.1, hb.trans ((env_below hp.2).mono hb.size)⟩⟩
end
section
open Go.RowKit Go.ChangeShapes Go.WideShapes Go.Joins
def zZa (P : Program) (t : TypeId) : Option (List (Nat × TypeId)) := match P.underlying t with
 | some (.struct fs) => some (fs.toList.map fun f => (f.offset, f.type))
 | _ => none
theorem yM {P : Program} {t : TypeId} {o0 o1 : Nat} {t0 t1 : TypeId} (h : zZa P t = some [(o0, t0), (o1, t1)]) : ∃ f0 f1 : Field, P.underlying t = some (.struct #[f0, f1]) ∧ f0.offset = o0 ∧ f0.type = t0 ∧ f1.offset = o1 ∧ f1.type = t1 := by
 unfold zZa at h; split at h
 ·next fs e =>
  obtain ⟨l⟩ := fs
  match l, h with
  | [f0, f1], h => simp at h; exact ⟨f0, f1, e, h.1.1, h.1.2, h.2.1, h.2.2⟩
  | [], h => simp at h
  | [_], h => simp at h
  | _ :: _ :: _ :: _, h => simp at h
 ·cases h
theorem yga {P : Program} {t : TypeId} {o0 o1 o2 o3 : Nat} {t0 t1 t2 t3 : TypeId} (h : zZa P t = some [(o0, t0), (o1, t1), (o2, t2), (o3, t3)]) :
  ∃ f0 f1 f2 f3 : Field, P.underlying t = some (.struct #[f0, f1, f2, f3]) ∧ f0.offset = o0 ∧ f0.type = t0 ∧ f1.offset = o1 ∧ f1.type = t1 ∧ f2.offset = o2 ∧ f2.type = t2 ∧ f3.offset = o3 ∧ f3.type = t3 := by
 unfold zZa at h; split at h
 ·next fs e =>
  obtain ⟨l⟩ := fs
  match l, h with
  | [f0, f1, f2, f3], h => simp at h; obtain ⟨⟨h1, h2⟩, ⟨h3, h4⟩, ⟨h5, h6⟩, h7, h8⟩ := h; exact ⟨f0, f1, f2, f3, e, h1, h2, h3, h4, h5, h6, h7, h8⟩
  | [], h => simp at h
  | [_], h => simp at h
  | [_, _], h => simp at h
  | [_, _, _], h => simp at h
  | _ :: _ :: _ :: _ :: _ :: _, h => simp at h
 ·cases h
theorem fo26 : zZa Tryz.prog 26 = some [(0, 23), (4, 24)] := by kernel_rfl
theorem fo23 : zZa Tryz.prog 23 = some [(0, 3), (1, 3), (2, 3), (3, 3)] := by kernel_rfl
theorem fo52 : zZa Tryz.prog 52 = some [(0, 3), (1, 3)] := by kernel_rfl
theorem fo65 : zZa Tryz.prog 65 = some [(0, 9), (1, 52), (3, 52), (5, 52)] := by kernel_rfl
theorem ul24 : Tryz.prog.underlying 24 = some (.slice 65) := by kernel_rfl
theorem ul3 : Tryz.prog.underlying 3 = some (.int .i64) := by kernel_rfl
theorem ul9 : Tryz.prog.underlying 9 = some .string := by kernel_rfl
theorem co26 : Tryz.prog.cellsOf 26 = 5 := by kernel_rfl
theorem co23 : Tryz.prog.cellsOf 23 = 4 := by kernel_rfl
theorem co24 : Tryz.prog.cellsOf 24 = 1 := by kernel_rfl
theorem co3 : Tryz.prog.cellsOf 3 = 1 := by kernel_rfl
theorem co9 : Tryz.prog.cellsOf 9 = 1 := by kernel_rfl
theorem co52 : Tryz.prog.cellsOf 52 = 2 := by kernel_rfl
theorem co65 : Tryz.prog.cellsOf 65 = 7 := by kernel_rfl
section
variable {H : Type} {enc : TypeId × Value → H} {W : World} {base : Nat} {sp : Nat → Bool} {held : Bool}
theorem yaa {fuel : Nat} {c0 c1 : Value} {x : DataW H × List MemPlace} (h : DataW.trod enc Tryz.prog W base sp held fuel 52 [c0, c1] = some x) : ∃ u v : Int, c0 = .int .i64 u ∧ c1 = .int .i64 v := by obtain ⟨f0, f1, e, a0, b0, a1, b1⟩ := yM fo52; obtain ⟨y0, y1, n, _, _, t0, t1⟩ := trod_struct2 e h; rw [a0, b0, co3] at t0; rw [a1, b1, co3] at t1; obtain ⟨u, h0, _⟩ := DataW.trod_int ul3 t0; obtain ⟨v, h1, _⟩ := DataW.trod_int ul3 t1; simp at h0 h1; exact ⟨u, v, h0, h1⟩
theorem open_rule {fuel : Nat} {c0 c1 c2 c3 : Value} {x : DataW H × List MemPlace} (h : DataW.trod enc Tryz.prog W base sp held fuel 23 [c0, c1, c2, c3] = some x) :
  ∃ a b c d : Int, c0 = .int .i64 a ∧ c1 = .int .i64 b ∧ c2 = .int .i64 c ∧ c3 = .int .i64 d := by
 obtain ⟨f0, f1, f2, f3, e, a0, b0, a1, b1, a2, b2, a3, b3⟩ := yga fo23; obtain ⟨y0, y1, y2, y3, n, _, _, t0, t1, t2, t3⟩ := trod_struct4 e h; rw [a0, b0, co3] at t0; rw [a1, b1, co3] at t1; rw [a2, b2, co3] at t2; rw [a3, b3, co3] at t3; obtain ⟨u0, h0, _⟩ := DataW.trod_int ul3 t0; obtain ⟨u1, h1, _⟩ := DataW.trod_int ul3 t1; obtain ⟨u2, h2, _⟩ := DataW.trod_int ul3 t2; obtain ⟨u3, h3, _⟩ := DataW.trod_int ul3 t3; simp at h0 h1 h2 h3; exact ⟨u0, u1, u2, u3, h0, h1, h2, h3⟩
theorem ysa {fuel : Nat} {cs : List Value} {x : DataW H × List MemPlace} (h : DataW.trod enc Tryz.prog W base sp held fuel 65 cs = some x) :
  ∃ y : Shaft, cs = [.string y.name, .int .i64 y.s0, .int .i64 y.s1, .int .i64 y.l0, .int .i64 y.l1, .int .i64 y.w0, .int .i64 y.w1] := by
 obtain ⟨f0, f1, f2, f3, e, a0, b0, a1, b1, a2, b2, a3, b3⟩ := yga fo65; obtain ⟨y0, y1, y2, y3, n, _, hl, t0, t1, t2, t3⟩ := trod_struct4 e h; rw [co65] at hl
 match cs, hl with
 | [c0, c1, c2, c3, c4, c5, c6], _ => rw [a0, b0, co9] at t0; rw [a1, b1, co52] at t1; rw [a2, b2, co52] at t2; rw [a3, b3, co52] at t3; simp only [List.drop, List.take] at t0 t1 t2 t3; obtain ⟨s, h0, _⟩ := DataW.trod_string ul9 t0; obtain ⟨u1, v1, rfl, rfl⟩ := yaa t1; obtain ⟨u2, v2, rfl, rfl⟩ := yaa t2; obtain ⟨u3, v3, rfl, rfl⟩ := yaa t3; simp at h0; subst h0; exact ⟨⟨s, u1, v1, u2, v2, u3, v3⟩, rfl⟩
theorem add_spot {a : Addr} {w : World} {v : Value} {k : Nat} (h : w.cell? (a.add k) = some v) (hk : k = 0) : a = ⟨a.block, a.off, none⟩ := by
 subst hk; simp only [Addr.add, if_true] at h; unfold World.cell? at h; obtain ⟨b, o, sp⟩ := a; cases sp with
 | none => rfl
 | some s =>
  dsimp only at h; split at h
  ·simp at h
  ·cases h
theorem open_shafts {fuel : Nat} {v : Value} {x : DataW H × List MemPlace} (h : DataW.trod enc Tryz.prog W base sp held fuel 24 [v] = some x) : ∃ (A : Option Addr) (n c : Nat) (sh : Nat → Shaft), v = .slice A n c ∧ n ≤ c ∧ zA W A n sh := by
 rcases Go.Deep.open_slice ul24 h with ⟨h0, _⟩ | ⟨a, len, cap, m, n, D, Pl, h0, hb, hl, hm, hmm, rfl, hx⟩
 ·simp at h0; subst h0; exact ⟨none, 0, 0, fun _ => ⟨.empty, 0, 0, 0, 0, 0, 0⟩, rfl, Nat.le_refl _, fun k hk => by omega⟩
 ·simp at h0; subst h0; have hlm : len ≤ m := by rw [hmm]; split <;> omega
  have each : ∀ i, i < len → ∃ y : Shaft, a = ⟨a.block, a.off, none⟩ ∧ zKb W a.block (a.off + i * 7) y := by
   intro i hi; obtain ⟨cs', h1, h2⟩ := hx i (by omega); rw [co65] at h1; obtain ⟨_, hlen, hcell⟩ := World.cells?_some h1; obtain ⟨y, rfl⟩ := ysa h2; have hsp : a = ⟨a.block, a.off, none⟩ := by
    obtain ⟨cs0, g1, g2⟩ := hx 0 (by omega); rw [co65] at g1; obtain ⟨_, glen, gcell⟩ := World.cells?_some g1; obtain ⟨z, rfl⟩ := ysa g2; have g0 := gcell 0 (by omega); simp only [Nat.zero_mul] at g0; have g3 : ((a.add 0).add 0) = a.add 0 := by simp [Addr.add]
    rw [g3] at g0; exact add_spot (k := 0) g0 rfl
   refine ⟨y, hsp, ?_⟩; have key : ∀ j, (a.add (i * 7)).add j = ⟨a.block, a.off + i * 7 + j, none⟩ := by intro j; rw [hsp]; unfold Addr.add; by_cases h1 : i * 7 = 0 <;> by_cases h2 : j = 0 <;> simp [h1, h2]
   have e0 := hcell 0 (by omega); have e1 := hcell 1 (by omega); have e2 := hcell 2 (by omega); have e3 := hcell 3 (by omega); have e4 := hcell 4 (by omega); have e5 := hcell 5 (by omega); have e6 := hcell 6 (by omega); rw [key] at e0 e1 e2 e3 e4 e5 e6; exact ⟨by simpa using e0, by simpa using e1, by simpa using e2, by simpa using e3, by simpa using e4, by simpa using e5, by simpa using e6⟩
  refine ⟨some a, len, cap, fun i => if hi : i < len then (each i hi).choose else ⟨.empty, 0, 0, 0, 0, 0, 0⟩, rfl, hl, fun k hk => ⟨a.block, a.off, ?_, ?_⟩⟩
  ·rw [← (each k hk).choose_spec.1]
  ·dsimp only; rw [dif_pos hk]; exact (each k hk).choose_spec.2
theorem open_stock {fuel : Nat} {cs : List Value} {x : DataW H × List MemPlace} (h : DataW.trod enc Tryz.prog W base sp held fuel 26 cs = some x) :
  ∃ (rs rl rw many : Int) (A : Option Addr) (n c : Nat) (sh : Nat → Shaft), cs = [.int .i64 rs, .int .i64 rl, .int .i64 rw, .int .i64 many, .slice A n c] ∧ n ≤ c ∧ zA W A n sh := by
 obtain ⟨f0, f1, e, a0, b0, a1, b1⟩ := yM fo26; obtain ⟨y0, y1, n, _, hl, t0, t1⟩ := trod_struct2 e h; rw [co26] at hl
 match cs, hl with
 | [c0, c1, c2, c3, c4], _ => rw [a0, b0, co23] at t0; rw [a1, b1, co24] at t1; simp only [List.drop, List.take] at t0 t1; obtain ⟨a, b, c, d, rfl, rfl, rfl, rfl⟩ := open_rule t0; obtain ⟨A, n', cap, sh, rfl, h1, h2⟩ := open_shafts t1; exact ⟨a, b, c, d, A, n', cap, sh, rfl, h1, h2⟩
end
end
section
open Go.RowKit Go.Cx Go.Conc Go.ChangeShapes Go.WideShapes Go.ChangeAt
theorem own : ownKnob Tryz.prog.godebug = none := by kernel_rfl
theorem laidOut : laidOutB Tryz.prog = true := by kernel_rfl
theorem ul4 : Tryz.prog.underlying 4 = some .bool := by kernel_rfl
theorem ul57 : Tryz.prog.underlying 57 = some (.int .u16) := by kernel_rfl
theorem shut_true {H : Type} {enc : TypeId × Value → H} {w : World} {base : Nat} {sp : Nat → Bool} {held : Bool} : DataW.Trod enc Tryz.prog w base sp held 4 (.bool true) (.lit (.bool true)) [] := by refine ⟨1, ?_⟩; simp only [DataW.trod, Value.cells, ul4]
end
section
open Go.RowKit Go.Cx Go.Conc Go.ChangeShapes Go.WideShapes Go.ChangeAt
theorem enter12 (v0 v1 v2 : Value) : Frame.enter Tryz.prog 12 #[v0, v1, v2] .normal = (lawFr 12).atR { tmps := #[v0, v1, v2] ++ Array.replicate 107 undef, defers := [] } [.code A12] := by have hb : Tryz.f12.body = some A12 := rfl; simp [Frame.enter, Frame.atR, Tryz.func12, hb]
theorem order_run (rs rl rw many : Int) (A : Option Addr) (n c : Nat) (sh : Nat → Shaft) (d : Nat) (bits : Int) (W : World) (hd : d ≤ 255) (hc : n ≤ c) (hsh : zA W A n sh) :
  ∃ M last o w' t', runNT Tryz.prog (M + 1) (solo (G (Frame.enter Tryz.prog 12 #[zga rs rl rw many A n c, .int .u8 d, .int .u16 bits] .normal) []) W) #[] = (.ended o w', t') ∧
   runN Tryz.prog M (solo (G (Frame.enter Tryz.prog 12 #[zga rs rl rw many A n c, .int .u8 d, .int .u16 bits] .normal) []) W) = .next last ∧ Go.step Tryz.prog last = .ended o w' ∧
   Go.Conc.Good Tryz.prog (fun v w1 => v = .bool true ∧ Below W.heap.size W w1) last o w' t' :=
 law_run (enter12 _ _ _) fin12 Tryz.func12 rfl (by omega) (order_walk rs rl rw many A n c sh d bits (strike W) hd hc (Lib.hid (shafts_strike hsh)))
theorem params12 : Tryz.f12.params.toList = [26, 5, 57] := rfl
theorem ul5o : Tryz.prog.underlying 5 = some (.int .u8) := by kernel_rfl
theorem order_lifted (os : Os) (started : os.Started) (H : Type) (enc : TypeId × Value → H) :
  ReturnsInLeavingWide {} Tryz.checked os 12 .any (Rows.arrowAnyOrderSpec.pre6 enc Tryz.prog Tryz.f12 Rows.arrowAnyOrderRow.domain false) (Rows.arrowAnyOrderSpec.post enc Tryz.prog Tryz.f12 false true false false) := by
 refine returnsInLeavingWide_of_change_sized (C := Tryz.checked) own started Tryz.func12
  (ChangeSpec.witness6 (enc := enc) (C := Tryz.checked) false ⟨#[], #[.agg #[.int .i64 0, .int .i64 0, .int .i64 0, .int .i64 0, .slice none 0 0], .int .u8 0, .int .u16 0], []⟩ 8 (by kernel_rfl) (by kernel_rfl) (by kernel_rfl) (by kernel_rfl)) ?_
 intro W base args ds gs before hval0 hW _ _ _; have hval : ∀ (j : Nat) t v, Tryz.f12.params[j]? = some t → args[j]? = some v → Value.okWide Tryz.prog W .any base t v := hval0; have hW' := hW; obtain ⟨p, q, hA0, hV, rfl, _, _⟩ := hW; have hA : DataW.TrodAll enc Tryz.prog W 0 (fun _ => true) true Tryz.f12.params.toList args.toList ds p := hA0; rw [params12] at hA; obtain ⟨v0, v1, v2, d0, d1, d2, p0, p1, p2, rfl, rfl, rfl, h0, h1, h2⟩ := trodAll_three hA; obtain ⟨rfl, rfl⟩ := trodVars_none hV; obtain ⟨dn, rfl, rfl, rfl, hwd⟩ := open_int ul5o (hval 1 5 v1 rfl rfl) h1; obtain ⟨d, rfl, hd⟩ : ∃ d : Nat, dn = d ∧ d ≤ 255 := by simp [Lit.wf, IntKind.min, IntKind.max, IntKind.signed, IntKind.bits] at hwd; exact ⟨dn.toNat, by omega, by omega⟩
 obtain ⟨bits, rfl, rfl, rfl, hwb⟩ := open_int ul57 (hval 2 57 v2 rfl rfl) h2; have hv0 := hval 0 26 v0 rfl rfl; obtain ⟨f0, f1, e26, _⟩ := yM fo26; have hagg : ∃ cs, v0 = .agg cs := by unfold Value.okWide at hv0; rw [e26] at hv0; obtain ⟨cs, h, _⟩ := hv0; exact ⟨cs, h⟩
 obtain ⟨cs, rfl⟩ := hagg; have h0k := h0; obtain ⟨fuel, hf⟩ := h0; obtain ⟨rs, rl, rw', many, A, n, c, sh, hcs, hc, hsh⟩ := open_stock hf; have hcs' : cs = #[.int .i64 rs, .int .i64 rl, .int .i64 rw', .int .i64 many, .slice A n c] := by have : cs.toList = [.int .i64 rs, .int .i64 rl, .int .i64 rw', .int .i64 many, .slice A n c] := hcs; exact Array.toList_inj.1 this
 subst hcs'; clear hA0 hval0; simp only [List.append_nil] at hW'; have hlt : ∀ x ∈ p0, x.block < W.heap.size := fun x hx => by simpa using hW'.lt x hx
 obtain ⟨M, last, o, w', t', r1, r2, r3, r4⟩ := order_run rs rl rw' many A n c sh d bits W hd hc hsh; refine ⟨M, last, o, w', t', r1, r2, r3, r4.mono fun v hF => ?_⟩; obtain ⟨rfl, hb⟩ := hF; refine ⟨_, _, _, [], p0, [], hW', ?_, ?_, rfl, hb.frame _, fun h => by cases h⟩
 ·exact trodAll_mk1 (t := 4) (v := .bool true) (d := .lit (.bool true)) shut_true
 ·have h3 := trodAll_mk3 (Below.trod laidOut (by kernel_rfl) (of_decide_eq_true (by kernel_rfl)) h0k hb hlt) (shut_int (enc := enc) (w := w') (base := 0) (spare := fun b => decide (b < W.heap.size)) (held := true) ul5o hwd) (shut_int (enc := enc) (w := w') (base := 0) (spare := fun b => decide (b < W.heap.size)) (held := true) ul57 hwb); simp only [List.append_nil] at h3 ⊢; exact h3
theorem arrowAnyOrder_holds : Rows.ArrowAnyOrderSaid :=
 OpenClaim.holds_of_wide_leaving 12 Tryz.f12 rfl rfl rfl rfl rfl rfl rfl ⟨rfl, rfl, rfl, rfl, rfl⟩ rfl rfl rfl rfl rfl (by kernel_rfl) Tryz.func12 (by kernel_rfl)
  (of_decide_eq_true (by kernel_rfl)) (by unfold Func.isWrapper; first | (rw [if_pos (by decide +kernel)]; kernel_rfl) | (rw [if_neg (by decide +kernel)]; exact ⟨rfl, rfl⟩))
  (fun os started H enc _ => order_lifted os started H enc)
end
end Go.Proofs.YtpdmgecbapmgdaaGreat
