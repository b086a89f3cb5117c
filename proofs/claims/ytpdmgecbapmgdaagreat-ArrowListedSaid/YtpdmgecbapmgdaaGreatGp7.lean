/- A part of the proof that ArrowListed returns true for every input: no further condition. -/
import Derived.Test.YtpdmgecbapmgdaaGreatGp6
set_option linter.unusedVariables false
set_option maxHeartbeats 2000000
set_option maxRecDepth 100000
namespace Go.Proofs.YtpdmgecbapmgdaaGreat
section
open Go.RowKit Go.Cx Go.Conc Go.ChangeShapes Go.WideShapes Go.ChangeAt
theorem enter10 (v0 v1 : Value) : Frame.enter Tryz.prog 10 #[v0, v1] .normal = (lawFr 10).atR { tmps := #[v0, v1] ++ Array.replicate 143 undef, defers := [] } [.code A10] := by have hb : Tryz.f10.body = some A10 := rfl; simp [Frame.enter, Frame.atR, Tryz.func10, hb]
theorem listed_run (rs rl rw many : Int) (A : Option Addr) (n c : Nat) (sh : Nat → Shaft) (bits : Int) (W : World) (hc : n ≤ c) (hsh : zA W A n sh) :
  ∃ M last o w' t', runNT Tryz.prog (M + 1) (solo (G (Frame.enter Tryz.prog 10 #[zga rs rl rw many A n c, .int .u16 bits] .normal) []) W) #[] = (.ended o w', t') ∧
   runN Tryz.prog M (solo (G (Frame.enter Tryz.prog 10 #[zga rs rl rw many A n c, .int .u16 bits] .normal) []) W) = .next last ∧ Go.step Tryz.prog last = .ended o w' ∧
   Go.Conc.Good Tryz.prog (fun v w1 => v = .bool true ∧ Below W.heap.size W w1) last o w' t' :=
 law_run (enter10 _ _) fin10 Tryz.func10 rfl (by omega) (listed_walk rs rl rw many A n c sh bits (strike W) hc (Lib.hid (shafts_strike hsh)))
theorem params10 : Tryz.f10.params.toList = [26, 57] := rfl
theorem listed_lifted (os : Os) (started : os.Started) (H : Type) (enc : TypeId × Value → H) :
  ReturnsInLeavingWide {} Tryz.checked os 10 .any (Rows.arrowListedSpec.pre6 enc Tryz.prog Tryz.f10 Rows.arrowListedRow.domain false) (Rows.arrowListedSpec.post enc Tryz.prog Tryz.f10 false true false false) := by
 refine returnsInLeavingWide_of_change_sized (C := Tryz.checked) own started Tryz.func10
  (ChangeSpec.witness6 (enc := enc) (C := Tryz.checked) false ⟨#[], #[.agg #[.int .i64 0, .int .i64 0, .int .i64 0, .int .i64 0, .slice none 0 0], .int .u16 0], []⟩ 8 (by kernel_rfl) (by kernel_rfl) (by kernel_rfl) (by kernel_rfl)) ?_
 intro W base args ds gs before hval0 hW _ _ _; have hval : ∀ (j : Nat) t v, Tryz.f10.params[j]? = some t → args[j]? = some v → Value.okWide Tryz.prog W .any base t v := hval0; have hW' := hW; obtain ⟨p, q, hA0, hV, rfl, _, _⟩ := hW; have hA : DataW.TrodAll enc Tryz.prog W 0 (fun _ => true) true Tryz.f10.params.toList args.toList ds p := hA0; rw [params10] at hA; obtain ⟨v0, v1, d0, d1, p0, p1, rfl, rfl, rfl, h0, h1⟩ := trodAll_two hA; obtain ⟨rfl, rfl⟩ := trodVars_none hV; obtain ⟨bits, rfl, rfl, rfl, hwb⟩ := open_int ul57 (hval 1 57 v1 rfl rfl) h1; have hv0 := hval 0 26 v0 rfl rfl; obtain ⟨f0, f1, e26, _⟩ := yF fo26; have hagg : ∃ cs, v0 = .agg cs := by unfold Value.okWide at hv0; rw [e26] at hv0; obtain ⟨cs, h, _⟩ := hv0; exact ⟨cs, h⟩
 obtain ⟨cs, rfl⟩ := hagg; have h0k := h0; obtain ⟨fuel, hf⟩ := h0; obtain ⟨rs, rl, rw', many, A, n, c, sh, hcs, hc, hsh⟩ := open_stock hf; have hcs' : cs = #[.int .i64 rs, .int .i64 rl, .int .i64 rw', .int .i64 many, .slice A n c] := by have : cs.toList = [.int .i64 rs, .int .i64 rl, .int .i64 rw', .int .i64 many, .slice A n c] := hcs; exact Array.toList_inj.1 this
 subst hcs'; clear hA0 hval0; simp only [List.append_nil] at hW'; have hlt : ∀ x ∈ p0, x.block < W.heap.size := fun x hx => by simpa using hW'.lt x hx
 obtain ⟨M, last, o, w', t', r1, r2, r3, r4⟩ := listed_run rs rl rw' many A n c sh bits W hc hsh; refine ⟨M, last, o, w', t', r1, r2, r3, r4.mono fun v hF => ?_⟩; obtain ⟨rfl, hb⟩ := hF; refine ⟨_, _, _, [], p0, [], hW', ?_, ?_, rfl, hb.frame _, fun h => by cases h⟩
 ·exact trodAll_mk1 (t := 4) (v := .bool true) (d := .lit (.bool true)) shut_true
 ·have h2 := trodAll_mk2 (Below.trod laidOut (by kernel_rfl) (of_decide_eq_true (by kernel_rfl)) h0k hb hlt) (shut_int (enc := enc) (w := w') (base := 0) (spare := fun b => decide (b < W.heap.size)) (held := true) ul57 hwb); rw [List.append_nil] at h2; exact h2
theorem arrowListed_holds : Rows.ArrowListedSaid :=
 OpenClaim.holds_of_wide_leaving 10 Tryz.f10 rfl rfl rfl rfl rfl rfl rfl ⟨rfl, rfl, rfl, rfl, rfl⟩ rfl rfl rfl rfl rfl (by kernel_rfl) Tryz.func10 (by kernel_rfl)
  (of_decide_eq_true (by kernel_rfl)) (by unfold Func.isWrapper; first | (rw [if_pos (by decide +kernel)]; kernel_rfl) | (rw [if_neg (by decide +kernel)]; exact ⟨rfl, rfl⟩))
  (fun os started H enc _ => listed_lifted os started H enc)
end
end Go.Proofs.YtpdmgecbapmgdaaGreat
