/- A part of the proof that ArrowGrows returns true for every input: no further condition. -/
import Derived.Test.YtlabfeofejemjaaGreatGp1
import Derived.Test.YtlabfeofejemjaaGreatCx8
import Derived.Test.YtlabfeofejemjaaGreatCx9
import Derived.Conc.Own4
import Derived.Deep.Slices
import Derived.Lib.SmallJoins
set_option linter.unusedSimpArgs false
set_option linter.unusedVariables false
set_option maxHeartbeats 4000000
set_option maxRecDepth 100000
section
namespace Go.Proofs.YtlabfeofejemjaaGreat
open Go.RowKit
abbrev ruleV (r : Rl) : Value := .agg #[.int .i64 r.ls, .int .i64 r.ms, .int .i64 r.wd, .int .i64 r.lt]
theorem span_third (w : World) (A B : Obj) (u v : Int) : SpanAt (((w.alloc A).alloc B).alloc (.cells #[.int .i64 u, .int .i64 v] 29)) (w.heap.size + 1 + 1) u v := by
  have := span_new ((w.alloc A).alloc B) u v
  simpa using this
theorem WideOf_any (r : Rl) (x : Sh) (W : World) (hr : Hid (RlOk r)) (hx : Hid (ShOk x)) : CallsIn Fc 0 Tryz.prog 50 #[ruleV r, shV x] W (SaysSpan (wideU r x) (wideV r x) W) := by
  have hp := wide_parts hr.out hx.out
  have hu0 := hx.out.u0
  have hu1 := hx.out.u1
  have hv1 := hx.out.v1
  obtain ⟨U, hU⟩ : ∃ U, wideU r x = U := ⟨_, rfl⟩
  obtain ⟨V, hV⟩ : ∃ V, wideV r x = V := ⟨_, rfl⟩
  rw [hU, hV]
  unfold wideU wideN at hU
  unfold wideV wideN at hV
  clear hx hr
  obtain ⟨d, u, v, wd, lt⟩ := x
  simp only at *
  have w1 : IntKind.wrap .i64 (wd * r.wd) = wd * r.wd := wrap_of (by omega) (by omega)
  have w2 : IntKind.wrap .i64 (lt * r.lt) = lt * r.lt := wrap_of (by omega) (by omega)
  have w3 : IntKind.wrap .i64 (wd * r.wd + lt * r.lt) = wd * r.wd + lt * r.lt := wrap_of (by omega) (by omega)
  have w4 : IntKind.wrap .i64 (u - (wd * r.wd + lt * r.lt)) = U := by rw [← hU]; exact wrap_of (by omega) (by omega)
  have w5 : IntKind.wrap .i64 (v + (wd * r.wd + lt * r.lt)) = V := by rw [← hV]; exact wrap_of (by omega) (by omega)
  clear hU hV hp
  gi_enter Tryz.func50, Tryz.ntmps50
  gi_wp2
  refine bodyPost_ret (v := spanV U V) (results_spanI rfl rfl ?_) rfl ⟨rfl, ?_⟩
  · exact span_third _ _ _ _ _
  · exact (((Below.refl _ _).alloc (Nat.le_refl _) _).alloc (by simp) _).alloc (by simp; omega) _
theorem Both_any (a b x y : Int) (w : World) : CallsIn Fc 0 Tryz.prog 27 #[spanV a b, spanV x y] w (SaysSpan (max a x) (min b y) w) := by
  have e1 : max a x = if a < x then x else a := by rw [Int.max_def]; split <;> split <;> omega
  have e2 : min b y = if y < b then y else b := by rw [Int.min_def]; split <;> split <;> omega
  gi_enter Tryz.func27, Tryz.ntmps27
  gi_wp2
  all_goals
    refine bodyPost_ret (v := spanV _ _) (results_spanI rfl rfl (span_third _ _ _ _ _)) rfl ⟨?_, ?_⟩
    · first
      | rfl
      | (rw [e1, e2]; repeat' split
         all_goals first | rfl | omega)
    · exact (((Below.refl _ _).alloc (Nat.le_refl _) _).alloc (by simp) _).alloc (by simp; omega) _
theorem From_any (r : Rl) (x : Sh) (d : Int) (W : World) (h0 : 0 ≤ d) (h1 : d ≤ 90) (hr : Hid (RlOk r)) (hx : Hid (ShOk x)) : CallsIn Fc 0 Tryz.prog 85 #[ruleV r, shV x, .int .i64 d] W (SaysSpan (reachU r x d) (reachV r x d) W) := by
  have hB : ∀ x y z, Below W.heap.size W (((W.alloc x).alloc y).alloc z) := fun x y z => (((Below.refl _ _).alloc (Nat.le_refl _) _).alloc (by simp) _).alloc (by simp; omega) _
  have HBB := Lib.hid hB
  have hcall := fun w => WideOf_any r x w hr hx
  have HC := Lib.hid hcall
  clear hB hcall
  have hw := wide_bounds hr.out hx.out
  have d0 := hx.out.d0
  have d1 := hx.out.d1
  have hf := far_bound hr.out (f := d - x.d) (by omega) (by omega)
  have hrb := reach_bounds hr.out hx.out h0 h1
  obtain ⟨U, hU⟩ : ∃ U, reachU r x d = U := ⟨_, rfl⟩
  obtain ⟨V, hV⟩ : ∃ V, reachV r x d = V := ⟨_, rfl⟩
  rw [hU, hV] at hrb
  rw [hU, hV]
  unfold reachU at hU
  unfold reachV at hV
  generalize hWU : wideU r x = wu at *
  generalize hWV : wideV r x = wv at *
  clear hWU hWV hx hr
  obtain ⟨xd, xu, xv, xw, xl⟩ := x
  simp only at *
  by_cases hlt : d - xd < 0
  · rw [if_pos hlt] at hU hV
    have e1 : r.ms * (xd - d) = -((d - xd) * r.ms) := by rw [Int.mul_comm, ← Int.neg_mul]; congr 1; omega
    have e2 : r.ls * (xd - d) = -((d - xd) * r.ls) := by rw [Int.mul_comm, ← Int.neg_mul]; congr 1; omega
    have w1 : IntKind.wrap .i64 (xd - d) = xd - d := wrap_of (by omega) (by omega)
    have w2 : IntKind.wrap .i64 (r.ms * (xd - d)) = r.ms * (xd - d) := wrap_of (by omega) (by omega)
    have w3 : IntKind.wrap .i64 (r.ls * (xd - d)) = r.ls * (xd - d) := wrap_of (by omega) (by omega)
    have w4 : IntKind.wrap .i64 (wu - r.ms * (xd - d)) = U := by rw [← hU, e1]; rw [show wu - -((d - xd) * r.ms) = wu + (d - xd) * r.ms by omega]; exact wrap_of (by omega) (by omega)
    have w5 : IntKind.wrap .i64 (wv - r.ls * (xd - d)) = V := by rw [← hV, e2]; rw [show wv - -((d - xd) * r.ls) = wv + (d - xd) * r.ls by omega]; exact wrap_of (by omega) (by omega)
    have hge : ¬ d ≥ xd := by omega
    clear hU hV hf hw hrb d0 d1 h0 h1 e1 e2 hlt
    gi_enter Tryz.func85, Tryz.ntmps85
    gi_wp2_with (gi_at_call 50; refine (HC.out _).mono ?_; rintro e w2 ⟨rfl, hb2⟩
                 have hk0 : Below (W.heap.size + 1) (W.alloc (.cells #[.int .i64 r.ls, .int .i64 r.ms, .int .i64 r.wd, .int .i64 r.lt] 23)) w2 := (((Below.refl _ _).alloc (by simp) _).alloc (by simp) _).trans (hb2.mono (by simp))
                 have hk1 : Below (W.heap.size + 2) ((W.alloc (.cells #[.int .i64 r.ls, .int .i64 r.ms, .int .i64 r.wd, .int .i64 r.lt] 23)).alloc (.cells #[.int .i64 xd, .int .i64 xu, .int .i64 xv, .int .i64 xw, .int .i64 xl] 46)) w2 := ((Below.refl _ _).alloc (by simp) _).trans (hb2.mono (by simp))
                 have e0 : w2.cell? ⟨W.heap.size, 0, none⟩ = some (.int .i64 r.ls) := (hk0.cell (by simp)).trans (by go_simp)
                 have e1 : w2.cell? ⟨W.heap.size, 1, none⟩ = some (.int .i64 r.ms) := (hk0.cell (by simp)).trans (by go_simp)
                 have f0 : w2.cell? ⟨W.heap.size + 1, 0, none⟩ = some (.int .i64 xd) := (hk1.cell (by simp)).trans (by go_simp)
                 clear hk0 hk1
                 have hs : SpanAt w2 (W.heap.size + 1 + 1) 0 0 := SpanAt.below (span_third _ _ _ _ _) hb2
                 have z0 := hs.frozen 0
                 have z1 := hs.frozen 1
                 obtain ⟨s0, s1⟩ := hs.cell
                 have lb := hs.lt
                 have lb0 : W.heap.size < w2.heap.size := by omega
                 have lb1 : W.heap.size + 1 < w2.heap.size := by omega
                 have hbw := (HBB.out _ _ _).trans (hb2.mono (HBB.out _ _ _).size)
                 have HS := Lib.hid hs
                 have HB2 := Lib.hid hbw
                 clear hb2 hs hbw)
    refine bodyPost_ret (v := spanV U V) (results_spanI rfl rfl ?_) rfl ⟨rfl, ?_⟩
    · exact (HS.out.set _ _).below ((Below.refl _ _).alloc (Nat.le_refl _) _)
    · exact ((HB2.out.setCell (by simp; omega) _).setCell (by simp; omega) _).alloc (by simpa using HB2.out.size) _
  · rw [if_neg hlt] at hU hV
    have e1 : r.ms * (d - xd) = (d - xd) * r.ms := Int.mul_comm _ _
    have e2 : r.ls * (d - xd) = (d - xd) * r.ls := Int.mul_comm _ _
    have w1 : IntKind.wrap .i64 (d - xd) = d - xd := wrap_of (by omega) (by omega)
    have w2 : IntKind.wrap .i64 (r.ms * (d - xd)) = r.ms * (d - xd) := wrap_of (by omega) (by omega)
    have w3 : IntKind.wrap .i64 (r.ls * (d - xd)) = r.ls * (d - xd) := wrap_of (by omega) (by omega)
    have w4 : IntKind.wrap .i64 (wu + r.ls * (d - xd)) = U := by rw [← hU, e2]; exact wrap_of (by omega) (by omega)
    have w5 : IntKind.wrap .i64 (wv + r.ms * (d - xd)) = V := by rw [← hV, e1]; exact wrap_of (by omega) (by omega)
    have hge : d ≥ xd := by omega
    clear hU hV hf hw hrb d0 d1 h0 h1 e1 e2 hlt
    gi_enter Tryz.func85, Tryz.ntmps85
    gi_wp2_with (gi_at_call 50; refine (HC.out _).mono ?_; rintro e w2 ⟨rfl, hb2⟩
                 have hk0 : Below (W.heap.size + 1) (W.alloc (.cells #[.int .i64 r.ls, .int .i64 r.ms, .int .i64 r.wd, .int .i64 r.lt] 23)) w2 := (((Below.refl _ _).alloc (by simp) _).alloc (by simp) _).trans (hb2.mono (by simp))
                 have hk1 : Below (W.heap.size + 2) ((W.alloc (.cells #[.int .i64 r.ls, .int .i64 r.ms, .int .i64 r.wd, .int .i64 r.lt] 23)).alloc (.cells #[.int .i64 xd, .int .i64 xu, .int .i64 xv, .int .i64 xw, .int .i64 xl] 46)) w2 := ((Below.refl _ _).alloc (by simp) _).trans (hb2.mono (by simp))
                 have e0 : w2.cell? ⟨W.heap.size, 0, none⟩ = some (.int .i64 r.ls) := (hk0.cell (by simp)).trans (by go_simp)
                 have e1 : w2.cell? ⟨W.heap.size, 1, none⟩ = some (.int .i64 r.ms) := (hk0.cell (by simp)).trans (by go_simp)
                 have f0 : w2.cell? ⟨W.heap.size + 1, 0, none⟩ = some (.int .i64 xd) := (hk1.cell (by simp)).trans (by go_simp)
                 clear hk0 hk1
                 have hs : SpanAt w2 (W.heap.size + 1 + 1) 0 0 := SpanAt.below (span_third _ _ _ _ _) hb2
                 have z0 := hs.frozen 0
                 have z1 := hs.frozen 1
                 obtain ⟨s0, s1⟩ := hs.cell
                 have lb := hs.lt
                 have lb0 : W.heap.size < w2.heap.size := by omega
                 have lb1 : W.heap.size + 1 < w2.heap.size := by omega
                 have hbw := (HBB.out _ _ _).trans (hb2.mono (HBB.out _ _ _).size)
                 have HS := Lib.hid hs
                 have HB2 := Lib.hid hbw
                 clear hb2 hs hbw)
    refine bodyPost_ret (v := spanV U V) (results_spanI rfl rfl ?_) rfl ⟨rfl, ?_⟩
    · exact (HS.out.set _ _).below ((Below.refl _ _).alloc (Nat.le_refl _) _)
    · exact ((HB2.out.setCell (by simp; omega) _).setCell (by simp; omega) _).alloc (by simpa using HB2.out.size) _
end Go.Proofs.YtlabfeofejemjaaGreat
end
section
namespace Go.Proofs.YtlabfeofejemjaaGreat
open Go.RowKit
def SaysInts (m : Nat) (l : Nat → Int) (W : World) (e : Ending) (w' : World) : Prop := ∃ (LA : Option Addr) (lc : Nat), e = .returned (.slice LA m lc) ∧ m ≤ lc ∧ IntsAt w' LA m l ∧ Below W.heap.size W w'
theorem UpTo_any (n : Nat) (W : World) (hn : n ≤ 20) : CallsIn Fc 0 Tryz.prog 22 #[.int .i64 n] W (SaysInts n (fun k => (k : Int)) W) := by
  obtain ⟨i0, hi, hz0, hz1, hz2⟩ := info_parts i3
  have HI := Lib.hid hi
  have HZ0 := Lib.hid hz0
  have HZ1 := Lib.hid hz1
  have HZ2 := Lib.hid hz2
  clear hi hz0 hz1 hz2
  gi_enter Tryz.func22, Tryz.ntmps22
  gi_wp2
  gi_loopw [3, 4] (fun sl i wr => ∃ k : Nat, k ≤ n ∧ i = .int .i64 k ∧ wr.ownsRow W.heap.size 3 1 sl (List.range k).length ((List.range k).map intV) ∧ Below W.heap.size W wr) (fun _ i _ => n - (intOf i).toNat)
  case atStart => exact ⟨0, by omega, rfl, ⟨rfl, .inl ⟨rfl, rfl⟩⟩, Below.refl _ _⟩
  case round =>
    obtain ⟨k, hk, rfl, ho, hb⟩ := hrel
    have HO := Lib.hid ho
    have HB := Lib.hid hb
    have hs := hb.size
    clear ho hb
    by_cases hlt : k < n
    · gi_wp2_with (gi_at_builtin; refine wpListIn_append_own _ rfl _ _ 36 rfl W.heap.size 3 i0 (.int .i64 0) 1 8 u30 HI.out HZ0.out HZ1.out HZ2.out rfl (by decide) _ _ _ rfl (HO.out.alloc _) ⟨wr.heap.size, 0, none⟩ 1 1 [intV k] rfl rfl (cells_new _ _ _) (by simp [Value.oneCell']) (by simp [maxLen]; omega) (by simp; omega) (by simp; omega) ?_; intro v' w4 hown4 hg4 hnil4)
      have hx4 := HO.out.alloc (.cells #[intV k] 3)
      go_roundw
      case rel =>
        refine ⟨k + 1, by omega, by go_num, ?_, (HB.out.alloc (by omega) _).grown hg4 (by simp; omega) (fun g hg => (hx4.lt g hg).1)⟩
        rw [List.range_succ]
        simpa using hown4
      case measure => simp [intOf]; omega
    · obtain rfl : k = n := by omega
      obtain ⟨LA, lc, rfl, h1, h2⟩ := ints_own HO.out
      have H2 := Lib.hid h2
      simp only [List.length_range] at h1
      clear h2
      gi_wp2
      go_ret
      refine ⟨LA, lc, by simp, h1, ?_, HB.out⟩
      have := H2.out
      simp only [List.length_range] at this
      intro j hj
      obtain ⟨b, o, e, hc⟩ := this j hj
      refine ⟨b, o, e, ?_⟩
      rw [hc]
      simp [hj]
abbrev sel (sh : Nat → Sh) (l : Nat → Nat) : Nat → Sh := fun k => sh (l k)
theorem SpanAt_any (r : Rl) (A : Option Addr) (n c : Nat) (sh : Nat → Sh) (LA : Option Addr) (m lc : Nat) (l : Nat → Nat) (d : Int) (W : World) (hc : n ≤ c) (hm : m ≤ 20) (hm0 : 0 < m) (hmc : m ≤ lc) (h0 : 0 ≤ d) (h1 : d ≤ 90) (hok : Hid (CardOk r sh n)) (hsh : Hid (ShotsAt W A n sh)) (hl : Hid (∀ k, k < m → l k < n)) (hi : Hid (IntsAt W LA m fun k => (l k : Int))) :
    CallsIn Fc 0 Tryz.prog 61 #[cardV r A n c, .slice LA m lc, .int .i64 d] W (SaysSpan (bU r (sel sh l) d m) (bV r (sel sh l) d m) W) := by
  have hn := hok.out.count
  have hcall := fun k (hk : k < n) w => From_any r (sh k) d w h0 h1 (Lib.hid hok.out.rule) (Lib.hid (hok.out.each k hk))
  have HC := Lib.hid hcall
  clear hcall
  have hone : bU r (sel sh l) d 1 = reachU r (sh (l 0)) d ∧ bV r (sel sh l) d 1 = reachV r (sh (l 0)) d := by
    have := reach_bounds hok.out.rule (hok.out.each (l 0) (hl.out 0 hm0)) h0 h1
    simp only [bU, bV, sel]
    omega
  have HONE := Lib.hid hone
  clear hone
  obtain ⟨b, o, rfl, hy0⟩ := hsh.out (l 0) (hl.out 0 hm0)
  obtain ⟨bl, ol, rfl, hq0⟩ := hi.out 0 hm0
  have HY0 := Lib.hid hy0
  have HQ0 := Lib.hid hq0
  clear hy0 hq0
  gi_enter Tryz.func61, Tryz.ntmps61
  gi_wp2
  generalize hW2 : (W.alloc (.cells #[.int .i64 r.ls, .int .i64 r.ms, .int .i64 r.wd, .int .i64 r.lt, .slice (some ⟨b, o, none⟩) n c] 26)).alloc (.cells #[.int .i64 0, .int .i64 0] 29) = W2 at *
  have hb2 : Below W.heap.size W W2 := by rw [← hW2]; exact ((Below.refl _ _).alloc (Nat.le_refl _) _).alloc (by simp) _
  have hcb : Below (W.heap.size + 1) (W.alloc (.cells #[.int .i64 r.ls, .int .i64 r.ms, .int .i64 r.wd, .int .i64 r.lt, .slice (some ⟨b, o, none⟩) n c] 26)) W2 := by rw [← hW2]; exact (Below.refl _ _).alloc (by simp) _
  obtain ⟨e0, e1, e2, e3, e4⟩ := box_cells hcb
  have s1 : SpanAt W2 (W.heap.size + 1) 0 0 := by rw [← hW2]; have := span_new (W.alloc (.cells #[.int .i64 r.ls, .int .i64 r.ms, .int .i64 r.wd, .int .i64 r.lt, .slice (some ⟨b, o, none⟩) n c] 26)) 0 0; simpa using this
  clear hW2 hcb
  have HB2 := Lib.hid hb2
  have HE := Lib.hid (And.intro e0 (And.intro e1 (And.intro e2 (And.intro e3 e4))))
  have HS1 := Lib.hid s1
  clear hb2 e0 e1 e2 e3 e4 s1
  have hk0 := hl.out 0 hm0
  refine wpIn_region_O 11 12 7 [some (9, .pointer (some ⟨W.heap.size, 0, none⟩)), some (10, ruleV r), some (11, .pointer (some ⟨W.heap.size, 4, none⟩)), some (12, .slice (some ⟨b, o, none⟩) n c), some (13, .slice (some ⟨bl, ol, none⟩) m lc), some (14, .pointer (some ⟨bl, ol, none⟩)), some (15, .int .i64 (l 0)), some (16, .pointer (some ⟨b, o + l 0 * 5, none⟩)), some (17, shV (sh (l 0))), some (18, .int .i64 d), some (19, spanV (reachU r (sh (l 0)) d) (reachV r (sh (l 0)) d)), none, none]
    (I := fun w => Below W2.heap.size W2 w) (lo := W2.heap.size) (z := 41) (u1 := reachU r (sh (l 0)) d) (v1 := reachV r (sh (l 0)) d) (by kernel_rfl) (by kernel_rfl) (by decide) (by decide) (by decide) rfl rfl rfl (by kernel_rfl) (by kernel_rfl) (by omega) (by kernel_rfl) rfl rfl
    (fun w h => h.size) (fun w x h => h.alloc h.size _) (fun w p j x h hp => h.setCell hp _) (Below.refl _ _).drew ?_ ?_ ?_ ?_
  · intro j a w hj hj1 hj2 hd hz hold hf hI
    have HI := Lib.hid hI
    obtain ⟨c0, c1, c2, c3, c4⟩ := HE.out
    have c0 := Below.old hI c0
    have c1 := Below.old hI c1
    have c2 := Below.old hI c2
    have c3 := Below.old hI c3
    have c4 := Below.old hI c4
    have hbw := HB2.out.trans (hI.mono HB2.out.size)
    obtain ⟨x0, x1, x2, x3, x4⟩ := HY0.out.below hbw
    have q0 := Below.old hbw HQ0.out
    simp only [Nat.add_zero] at q0
    clear hI hbw
    have s1 := at_slot hz (hold 1 (by kernel_rfl) (by omega)) (by omega)
    have s2 := at_slot hz (hold 2 (by kernel_rfl) (by omega)) (by omega)
    have s3 := at_slot hz (hold 3 (by kernel_rfl) (by omega)) (by omega)
    clear hold
    have hjs : j = 0 ∨ j = 1 ∨ j = 2 ∨ j = 3 ∨ j = 4 ∨ j = 5 ∨ j = 6 ∨ j = 7 ∨ j = 8 ∨ j = 9 ∨ j = 10 := by have : j < 13 := hj; omega
    rcases hjs with rfl | rfl | rfl | rfl | rfl | rfl | rfl | rfl | rfl | rfl | rfl
    · refine wpOpIn_step rfl fun K hK => ?_
      go_simp
      exact hK _ _ ⟨_, _, rfl, rfl, rfl, HI.out, Below.refl _ _⟩
    · have f9 := at_slot hz (hf 0 9 _ (by kernel_rfl) rfl) (by omega)
      refine wpOpIn_step rfl fun K hK => ?_
      go_simp
      exact hK _ _ ⟨_, _, rfl, rfl, rfl, HI.out, Below.refl _ _⟩
    · refine wpOpIn_step rfl fun K hK => ?_
      go_simp
      exact hK _ _ ⟨_, _, rfl, rfl, rfl, HI.out, Below.refl _ _⟩
    · have f11 := at_slot hz (hf 2 11 _ (by kernel_rfl) rfl) (by omega)
      refine wpOpIn_step rfl fun K hK => ?_
      go_simp
      exact hK _ _ ⟨_, _, rfl, rfl, rfl, HI.out, Below.refl _ _⟩
    · refine wpOpIn_step rfl fun K hK => ?_
      go_simp
      exact hK _ _ ⟨_, _, rfl, rfl, rfl, HI.out, Below.refl _ _⟩
    · have f13 := at_slot hz (hf 4 13 _ (by kernel_rfl) rfl) (by omega)
      refine wpOpIn_step rfl fun K hK => ?_
      go_simp
      exact hK _ _ ⟨_, _, rfl, rfl, rfl, HI.out, Below.refl _ _⟩
    · have f14 := at_slot hz (hf 5 14 _ (by kernel_rfl) rfl) (by omega)
      refine wpOpIn_step rfl fun K hK => ?_
      go_simp
      exact hK _ _ ⟨_, _, rfl, rfl, rfl, HI.out, Below.refl _ _⟩
    · have f12 := at_slot hz (hf 3 12 _ (by kernel_rfl) rfl) (by omega)
      have f15 := at_slot hz (hf 6 15 _ (by kernel_rfl) rfl) (by omega)
      refine wpOpIn_step rfl fun K hK => ?_
      go_simp
      exact hK _ _ ⟨_, _, rfl, rfl, rfl, HI.out, Below.refl _ _⟩
    · have f16 := at_slot hz (hf 7 16 _ (by kernel_rfl) rfl) (by omega)
      refine wpOpIn_step rfl fun K hK => ?_
      go_simp
      exact hK _ _ ⟨_, _, rfl, rfl, rfl, HI.out, Below.refl _ _⟩
    · refine wpOpIn_step rfl fun K hK => ?_
      go_simp
      exact hK _ _ ⟨_, _, rfl, rfl, rfl, HI.out, Below.refl _ _⟩
    · have f10 := at_slot hz (hf 1 10 _ (by kernel_rfl) rfl) (by omega)
      have f17 := at_slot hz (hf 8 17 _ (by kernel_rfl) rfl) (by omega)
      have f18 := at_slot hz (hf 9 18 _ (by kernel_rfl) rfl) (by omega)
      refine wpOpIn_step rfl fun K hK => ?_
      go_simp
      refine (HC.out _ hk0 w).mono ?_
      rintro e w' ⟨rfl, hb'⟩
      exact hK _ _ ⟨_, _, rfl, rfl, rfl, HI.out.trans (hb'.mono HI.out.size), hb'⟩
  · intro a w hd hz
    refine wpOpIn_step rfl fun K hK => ?_
    go_simp
    exact hK _ _ ⟨rfl, rfl, rfl⟩
  · intro a w p u v hd hz hp hs hf
    have f7 := at_slot hz hp (by omega)
    have f19 := at_slot hz (hf 10 19 _ (by kernel_rfl) rfl) (by omega)
    have z0 := hs.frozen 0
    have z1 := hs.frozen 1
    obtain ⟨y0, y1⟩ := hs.cell
    refine wpOpIn_step rfl fun K hK => ?_
    go_simp
    exact hK _ _ ⟨hd, rfl, rfl⟩
  · intro w4 p hI hp hs
    have HB4 := Lib.hid (HB2.out.trans (hI.mono HB2.out.size))
    have HI4 := Lib.hid hI
    rw [← HONE.out.1, ← HONE.out.2] at hs
    have HS4 := Lib.hid hs
    clear hI hs
    have hW : W.heap.size + 1 < W2.heap.size := HS1.out.lt
    simp only [List.filterMap_cons, List.filterMap_nil, List.foldl_cons, List.foldl_nil, List.setIfInBounds_toArray, List.set_cons_succ, List.set_cons_zero]
    gi_wp2
    gi_loopw [8] (fun iv wr => ∃ k : Nat, 1 ≤ k ∧ k ≤ m ∧ iv = .int .i64 k ∧ Below W2.heap.size W2 wr ∧ SpanAt wr p (bU r (sel sh l) d k) (bV r (sel sh l) d k)) (fun iv _ => m - (intOf iv).toNat)
    case atStart => exact ⟨1, Nat.le_refl _, hm0, rfl, HI4.out, HS4.out⟩
    case round =>
      obtain ⟨k, hk1, hk, rfl, hb, hs⟩ := hrel
      have HBW := Lib.hid (HB2.out.trans (hb.mono HB2.out.size))
      have HB := Lib.hid hb
      have HS := Lib.hid hs
      clear hb hs
      by_cases hlt : k < m
      · have hkl := hl.out k hlt
        obtain ⟨b', o', e', hy⟩ := hsh.out (l k) hkl
        cases e'
        obtain ⟨bl', ol', e', hq⟩ := hi.out k hlt
        cases e'
        have HY := Lib.hid hy
        have HQ := Lib.hid hq
        clear hy hq
        gi_wp2
        refine wpIn_region_S 14 [0, 1, 2, 3, 4, 5, 6, 7, 8, 9, 10, 11, 12, 13] [some (26, spanV (bU r (sel sh l) d k) (bV r (sel sh l) d k)), some (27, .pointer (some ⟨W.heap.size, 0, none⟩)), some (28, ruleV r), some (29, .pointer (some ⟨W.heap.size, 4, none⟩)), some (30, .slice (some ⟨b, o, none⟩) n c), some (31, .slice (some ⟨bl, ol, none⟩) m lc), some (32, .int .i64 k), some (33, .pointer (some ⟨bl, ol + k, none⟩)), some (34, .int .i64 (l k)), some (35, .pointer (some ⟨b, o + l k * 5, none⟩)), some (36, shV (sh (l k))), some (37, .int .i64 d), some (38, spanV (reachU r (sh (l k)) d) (reachV r (sh (l k)) d)), some (39, spanV (bU r (sel sh l) d (k + 1)) (bV r (sel sh l) d (k + 1))), none]
          (I := fun b w => if b then SpanAt w p (bU r (sel sh l) d (k + 1)) (bV r (sel sh l) d (k + 1)) ∧ Below W2.heap.size W2 w else Below wr.heap.size wr w) (z := 41) (by kernel_rfl) (by kernel_rfl) (by decide) rfl rfl (by kernel_rfl) (by kernel_rfl) (by kernel_rfl) rfl rfl (Below.refl _ _).drew ?_ ?_ ?_
        · intro bb j a w hj hje hp' hd hz hold hf hI
          have h15 : j < 15 := hj
          obtain rfl := hp' (by have : j = 0 ∨ j = 1 ∨ j = 2 ∨ j = 3 ∨ j = 4 ∨ j = 5 ∨ j = 6 ∨ j = 7 ∨ j = 8 ∨ j = 9 ∨ j = 10 ∨ j = 11 ∨ j = 12 ∨ j = 13 := by omega
                                rcases this with rfl | rfl | rfl | rfl | rfl | rfl | rfl | rfl | rfl | rfl | rfl | rfl | rfl | rfl <;> rfl)
          replace hI : Below wr.heap.size wr w := hI
          have HI := Lib.hid hI
          obtain ⟨c0, c1, c2, c3, c4⟩ := HE.out
          have hb2 := HB.out.trans (hI.mono HB.out.size)
          have c0 := Below.old hb2 c0
          have c1 := Below.old hb2 c1
          have c2 := Below.old hb2 c2
          have c3 := Below.old hb2 c3
          have c4 := Below.old hb2 c4
          have hbw := HBW.out.trans (hI.mono HBW.out.size)
          obtain ⟨x0, x1, x2, x3, x4⟩ := HY.out.below hbw
          have q0 := Below.old hbw HQ.out
          obtain ⟨p0, p1⟩ := (HS.out.below hI).cell
          clear hI hbw hb2 h15 hp'
          have s1 := at_slot hz (hold 1 (by kernel_rfl)) (by omega)
          have s2 := at_slot hz (hold 2 (by kernel_rfl)) (by omega)
          have s3 := at_slot hz (hold 3 (by kernel_rfl)) (by omega)
          have s7 := at_slot hz (hold 7 (by kernel_rfl)) (by omega)
          have s8 := at_slot hz (hold 8 (by kernel_rfl)) (by omega)
          clear hold
          have hjs : j = 0 ∨ j = 1 ∨ j = 2 ∨ j = 3 ∨ j = 4 ∨ j = 5 ∨ j = 6 ∨ j = 7 ∨ j = 8 ∨ j = 9 ∨ j = 10 ∨ j = 11 ∨ j = 12 ∨ j = 13 := by have : j < 15 := hj; omega
          rcases hjs with rfl | rfl | rfl | rfl | rfl | rfl | rfl | rfl | rfl | rfl | rfl | rfl | rfl | rfl
          · refine wpOpIn_step rfl fun K hK => ?_
            go_simp
            exact hK _ _ ⟨_, _, rfl, rfl, rfl, HI.out⟩
          · refine wpOpIn_step rfl fun K hK => ?_
            go_simp
            exact hK _ _ ⟨_, _, rfl, rfl, rfl, HI.out⟩
          · have f27 := at_slot hz (hf 1 27 _ (by kernel_rfl) rfl) (by omega)
            refine wpOpIn_step rfl fun K hK => ?_
            go_simp
            exact hK _ _ ⟨_, _, rfl, rfl, rfl, HI.out⟩
          · refine wpOpIn_step rfl fun K hK => ?_
            go_simp
            exact hK _ _ ⟨_, _, rfl, rfl, rfl, HI.out⟩
          · have f29 := at_slot hz (hf 3 29 _ (by kernel_rfl) rfl) (by omega)
            refine wpOpIn_step rfl fun K hK => ?_
            go_simp
            exact hK _ _ ⟨_, _, rfl, rfl, rfl, HI.out⟩
          · refine wpOpIn_step rfl fun K hK => ?_
            go_simp
            exact hK _ _ ⟨_, _, rfl, rfl, rfl, HI.out⟩
          · refine wpOpIn_step rfl fun K hK => ?_
            go_simp
            exact hK _ _ ⟨_, _, rfl, rfl, rfl, HI.out⟩
          · have f31 := at_slot hz (hf 5 31 _ (by kernel_rfl) rfl) (by omega)
            have f32 := at_slot hz (hf 6 32 _ (by kernel_rfl) rfl) (by omega)
            refine wpOpIn_step rfl fun K hK => ?_
            go_simp
            exact hK _ _ ⟨_, _, rfl, rfl, rfl, HI.out⟩
          · have f33 := at_slot hz (hf 7 33 _ (by kernel_rfl) rfl) (by omega)
            refine wpOpIn_step rfl fun K hK => ?_
            go_simp
            exact hK _ _ ⟨_, _, rfl, rfl, rfl, HI.out⟩
          · have f30 := at_slot hz (hf 4 30 _ (by kernel_rfl) rfl) (by omega)
            have f34 := at_slot hz (hf 8 34 _ (by kernel_rfl) rfl) (by omega)
            refine wpOpIn_step rfl fun K hK => ?_
            go_simp
            exact hK _ _ ⟨_, _, rfl, rfl, rfl, HI.out⟩
          · have f35 := at_slot hz (hf 9 35 _ (by kernel_rfl) rfl) (by omega)
            refine wpOpIn_step rfl fun K hK => ?_
            go_simp
            exact hK _ _ ⟨_, _, rfl, rfl, rfl, HI.out⟩
          · refine wpOpIn_step rfl fun K hK => ?_
            go_simp
            exact hK _ _ ⟨_, _, rfl, rfl, rfl, HI.out⟩
          · have f28 := at_slot hz (hf 2 28 _ (by kernel_rfl) rfl) (by omega)
            have f36 := at_slot hz (hf 10 36 _ (by kernel_rfl) rfl) (by omega)
            have f37 := at_slot hz (hf 11 37 _ (by kernel_rfl) rfl) (by omega)
            refine wpOpIn_step rfl fun K hK => ?_
            go_simp
            refine (HC.out _ hkl w).mono ?_
            rintro e w' ⟨rfl, hb'⟩
            exact hK _ _ ⟨_, _, rfl, rfl, rfl, HI.out.trans (hb'.mono HI.out.size)⟩
          · have f26 := at_slot hz (hf 0 26 _ (by kernel_rfl) rfl) (by omega)
            have f38 := at_slot hz (hf 12 38 _ (by kernel_rfl) rfl) (by omega)
            refine wpOpIn_step rfl fun K hK => ?_
            go_simp
            refine (Both_any _ _ _ _ w).mono ?_
            rintro e w' ⟨rfl, hb'⟩
            exact hK _ _ ⟨_, _, rfl, rfl, rfl, HI.out.trans (hb'.mono HI.out.size)⟩
        · intro a w hd hz hold hf hI
          replace hI : Below wr.heap.size wr w := hI
          have s7 := at_slot hz (hold 7 (by kernel_rfl)) (by omega)
          have f39 := at_slot hz (hf 13 39 _ (by kernel_rfl) rfl) (by omega)
          have hs := HS.out.below hI
          have z0 := hs.frozen 0
          have z1 := hs.frozen 1
          obtain ⟨p0, p1⟩ := hs.cell
          have HS5 := Lib.hid hs
          have HB5 := Lib.hid (HB.out.trans (hI.mono HB.out.size))
          clear hI hs hold
          refine wpOpIn_step rfl fun K hK => ?_
          go_simp
          exact hK _ _ ⟨hd, rfl, HS5.out.set _ _, (HB5.out.setCell hp _).setCell hp _⟩
        · intro w hI
          replace hI : SpanAt w p (bU r (sel sh l) d (k + 1)) (bV r (sel sh l) d (k + 1)) ∧ Below W2.heap.size W2 w := hI
          have HI := Lib.hid hI
          clear hI
          simp only [List.filterMap_cons, List.filterMap_nil, List.foldl_cons, List.foldl_nil, List.setIfInBounds_toArray, List.set_cons_succ, List.set_cons_zero]
          gi_wp2
          go_roundw
          case rel => exact ⟨k + 1, by omega, by omega, by go_num, HI.out.2, HI.out.1⟩
          case measure => simp [intOf]; omega
      · obtain rfl : k = m := by omega
        have hq := HS1.out.below HB.out
        have z0 := hq.frozen 0
        have z1 := hq.frozen 1
        obtain ⟨q0, q1⟩ := hq.cell
        obtain ⟨p0, p1⟩ := HS.out.cell
        have HQ := Lib.hid hq
        clear hq
        gi_wp2
        refine bodyPost_ret (v := spanV _ _) (results_spanI rfl rfl (HQ.out.set _ _)) rfl ⟨rfl, ?_⟩
        exact (HBW.out.setCell (by simp) _).setCell (by simp) _
end Go.Proofs.YtlabfeofejemjaaGreat
end
section
namespace Go.Proofs.YtlabfeofejemjaaGreat
open Go.RowKit
theorem reachU_own {r : Rl} {x : Sh} : reachU r x x.d = wideU r x := by unfold reachU; rw [show x.d - x.d = 0 by omega]; simp
theorem reachV_own {r : Rl} {x : Sh} : reachV r x x.d = wideV r x := by unfold reachV; rw [show x.d - x.d = 0 by omega]; simp
theorem fits_iff {r : Rl} {sh : Nat → Sh} {n : Nat} (hok : CardOk r sh n) : (∀ i, i < n → bU r sh (sh i).d n ≤ bV r sh (sh i).d n) ↔ AllAgree r sh n := by
  constructor
  · intro h i j hij hj
    have h1 := h j hj
    rw [bU_le] at h1
    have h2 := (le_bV n).1 (h1.2 i (by omega))
    have h3 := (le_bV n).1 (h1.2 j hj)
    have a1 := h2.2 j hj
    have a2 := h3.2 i (by omega)
    rw [reachV_own] at a1
    rw [reachU_own] at a2
    have a3 := reach_bounds hok.rule (hok.each i (by omega)) (hok.each j hj).d0 (hok.each j hj).d1
    have a4 := wide_bounds hok.rule (hok.each j hj)
    exact agree_iff.2 ⟨a1, a2, a3.2.1, a4.2.1⟩
  · intro h i hi
    exact fit_bound hok h (hok.each i hi).d0 (hok.each i hi).d1 n (Nat.le_refl _)
def SaysProp (p : Prop) (W : World) (e : Ending) (w' : World) : Prop := ∃ g : Bool, e = .returned (.bool g) ∧ (g = true ↔ p) ∧ Below W.heap.size W w'
theorem FitsOf_any (r : Rl) (A : Option Addr) (n c : Nat) (sh : Nat → Sh) (LA : Option Addr) (m lc : Nat) (l : Nat → Nat) (W : World) (hc : n ≤ c) (hm : m ≤ 8) (hmc : m ≤ lc) (hok : Hid (CardOk r sh n)) (hsh : Hid (ShotsAt W A n sh)) (hl : Hid (∀ k, k < m → l k < n)) (hi : Hid (IntsAt W LA m fun k => (l k : Int))) :
    CallsIn Fc 0 Tryz.prog 26 #[cardV r A n c, .slice LA m lc] W (SaysProp (AllAgree r (sel sh l) m) W) := by
  have hn := hok.out.count
  have hsel : CardOk r (sel sh l) m := ⟨hok.out.rule, hm, fun k hk => hok.out.each _ (hl.out k hk)⟩
  have hiff := fits_iff hsel
  have HF := Lib.hid hiff
  clear hsel hiff
  generalize hP : AllAgree r (sel sh l) m = PP at *
  clear hP
  have hcall := fun k (hk : k < m) w (hb : Below W.heap.size W w) => SpanAt_any r A n c sh LA m lc l (sh (l k)).d w hc (by omega) (by omega) hmc (hok.out.each _ (hl.out k hk)).d0 (hok.out.each _ (hl.out k hk)).d1 hok (Lib.hid (hsh.out.below hb)) hl (Lib.hid (hi.out.below hb))
  have HC := Lib.hid hcall
  clear hcall
  obtain ⟨B, hB⟩ : ∃ B : Obj, B = .cells #[.int .i64 r.ls, .int .i64 r.ms, .int .i64 r.wd, .int .i64 r.lt, .slice A n c] 26 := ⟨_, rfl⟩
  gi_enter Tryz.func26, Tryz.ntmps26
  gi_wp2
  rw [← hB]
  gi_loopw [5] (fun iv wr => ∃ k : Nat, k ≤ m ∧ iv = .int .i64 k ∧ Below (W.heap.size + 1) (W.alloc B) wr ∧ ∀ i, i < k → bU r (sel sh l) (sel sh l i).d m ≤ bV r (sel sh l) (sel sh l i).d m) (fun iv _ => m - (intOf iv).toNat)
  case atStart => exact ⟨0, Nat.zero_le _, rfl, Below.refl _ _, fun i h => by omega⟩
  case round =>
    obtain ⟨k, hk, rfl, hb, hall⟩ := hrel
    have HALL := Lib.hid hall
    have HBW : Hid (Below W.heap.size W wr) := Lib.hid (((Below.refl W.heap.size W).alloc (Nat.le_refl _) _).trans (hb.mono (by omega)))
    have HB := Lib.hid hb
    have hsz : W.heap.size + 1 ≤ wr.heap.size := by have := hb.size; simpa using this
    clear hb hall
    by_cases hlt : k < m
    · have hkl := hl.out k hlt
      obtain ⟨b, o, rfl, hy⟩ := hsh.out (l k) hkl
      obtain ⟨bl, ol, rfl, hq⟩ := hi.out k hlt
      have HY := Lib.hid hy
      have HQ := Lib.hid hq
      clear hy hq
      gi_wp2
      refine wpIn_region_O 12 13 6 [some (13, cardV r (some ⟨b, o, none⟩) n c), some (14, .slice (some ⟨bl, ol, none⟩) m lc), some (15, .pointer (some ⟨W.heap.size, 4, none⟩)), some (16, .slice (some ⟨b, o, none⟩) n c), some (17, .slice (some ⟨bl, ol, none⟩) m lc), some (18, .int .i64 k), some (19, .pointer (some ⟨bl, ol + k, none⟩)), some (20, .int .i64 (l k)), some (21, .pointer (some ⟨b, o + l k * 5, none⟩)), some (22, .pointer (some ⟨b, o + l k * 5, none⟩)), some (23, .int .i64 (sh (l k)).d), some (24, spanV (bU r (sel sh l) (sh (l k)).d m) (bV r (sel sh l) (sh (l k)).d m)), none, none]
        (I := fun w => Below wr.heap.size wr w) (lo := wr.heap.size) (z := 30) (u1 := bU r (sel sh l) (sh (l k)).d m) (v1 := bV r (sel sh l) (sh (l k)).d m) (by kernel_rfl) (by kernel_rfl) (by decide) (by decide) (by decide) rfl rfl rfl (by kernel_rfl) (by kernel_rfl) (by omega) (by kernel_rfl) rfl rfl
        (fun w h => h.size) (fun w x h => h.alloc h.size _) (fun w p j x h hp => h.setCell hp _) (Below.refl _ _).drew ?_ ?_ ?_ ?_
      · intro j a w hj hj1 hj2 hd hz hold hf hI
        have HI := Lib.hid hI
        have hcb := HB.out.trans (hI.mono hsz)
        rw [hB] at hcb
        obtain ⟨c0, c1, c2, c3, c4⟩ := box_cells hcb
        have hbw := HBW.out.trans (hI.mono HBW.out.size)
        obtain ⟨x0, x1, x2, x3, x4⟩ := HY.out.below hbw
        have q0 := Below.old hbw HQ.out
        have HBK := Lib.hid hbw
        clear hI hbw hcb
        have s1 := at_slot hz (hold 1 (by kernel_rfl) (by omega)) (by omega)
        have s2 := at_slot hz (hold 2 (by kernel_rfl) (by omega)) (by omega)
        have s5 := at_slot hz (hold 5 (by kernel_rfl) (by omega)) (by omega)
        clear hold
        have hjs : j = 0 ∨ j = 1 ∨ j = 2 ∨ j = 3 ∨ j = 4 ∨ j = 5 ∨ j = 6 ∨ j = 7 ∨ j = 8 ∨ j = 9 ∨ j = 10 ∨ j = 11 := by have : j < 14 := hj; omega
        rcases hjs with rfl | rfl | rfl | rfl | rfl | rfl | rfl | rfl | rfl | rfl | rfl | rfl
        · refine wpOpIn_step rfl fun K hK => ?_
          go_simp
          exact hK _ _ ⟨_, _, rfl, rfl, rfl, HI.out, Below.refl _ _⟩
        · refine wpOpIn_step rfl fun K hK => ?_
          go_simp
          exact hK _ _ ⟨_, _, rfl, rfl, rfl, HI.out, Below.refl _ _⟩
        · refine wpOpIn_step rfl fun K hK => ?_
          go_simp
          exact hK _ _ ⟨_, _, rfl, rfl, rfl, HI.out, Below.refl _ _⟩
        · have f15 := at_slot hz (hf 2 15 _ (by kernel_rfl) rfl) (by omega)
          refine wpOpIn_step rfl fun K hK => ?_
          go_simp
          exact hK _ _ ⟨_, _, rfl, rfl, rfl, HI.out, Below.refl _ _⟩
        · refine wpOpIn_step rfl fun K hK => ?_
          go_simp
          exact hK _ _ ⟨_, _, rfl, rfl, rfl, HI.out, Below.refl _ _⟩
        · refine wpOpIn_step rfl fun K hK => ?_
          go_simp
          exact hK _ _ ⟨_, _, rfl, rfl, rfl, HI.out, Below.refl _ _⟩
        · have f17 := at_slot hz (hf 4 17 _ (by kernel_rfl) rfl) (by omega)
          have f18 := at_slot hz (hf 5 18 _ (by kernel_rfl) rfl) (by omega)
          refine wpOpIn_step rfl fun K hK => ?_
          go_simp
          exact hK _ _ ⟨_, _, rfl, rfl, rfl, HI.out, Below.refl _ _⟩
        · have f19 := at_slot hz (hf 6 19 _ (by kernel_rfl) rfl) (by omega)
          refine wpOpIn_step rfl fun K hK => ?_
          go_simp
          exact hK _ _ ⟨_, _, rfl, rfl, rfl, HI.out, Below.refl _ _⟩
        · have f16 := at_slot hz (hf 3 16 _ (by kernel_rfl) rfl) (by omega)
          have f20 := at_slot hz (hf 7 20 _ (by kernel_rfl) rfl) (by omega)
          refine wpOpIn_step rfl fun K hK => ?_
          go_simp
          exact hK _ _ ⟨_, _, rfl, rfl, rfl, HI.out, Below.refl _ _⟩
        · have f21 := at_slot hz (hf 8 21 _ (by kernel_rfl) rfl) (by omega)
          refine wpOpIn_step rfl fun K hK => ?_
          go_simp
          exact hK _ _ ⟨_, _, rfl, rfl, rfl, HI.out, Below.refl _ _⟩
        · have f22 := at_slot hz (hf 9 22 _ (by kernel_rfl) rfl) (by omega)
          refine wpOpIn_step rfl fun K hK => ?_
          go_simp
          exact hK _ _ ⟨_, _, rfl, rfl, rfl, HI.out, Below.refl _ _⟩
        · have f13 := at_slot hz (hf 0 13 _ (by kernel_rfl) rfl) (by omega)
          have f14 := at_slot hz (hf 1 14 _ (by kernel_rfl) rfl) (by omega)
          have f23 := at_slot hz (hf 10 23 _ (by kernel_rfl) rfl) (by omega)
          refine wpOpIn_step rfl fun K hK => ?_
          go_simp
          refine (HC.out k hlt w HBK.out).mono ?_
          rintro e w' ⟨rfl, hb'⟩
          exact hK _ _ ⟨_, _, rfl, rfl, rfl, HI.out.trans (hb'.mono HI.out.size), hb'⟩
      · intro a w hd hz
        refine wpOpIn_step rfl fun K hK => ?_
        go_simp
        exact hK _ _ ⟨rfl, rfl, rfl⟩
      · intro a w p u v hd hz hp hs hf
        have f6 := at_slot hz hp (by omega)
        have f24 := at_slot hz (hf 11 24 _ (by kernel_rfl) rfl) (by omega)
        have z0 := hs.frozen 0
        have z1 := hs.frozen 1
        obtain ⟨y0, y1⟩ := hs.cell
        refine wpOpIn_step rfl fun K hK => ?_
        go_simp
        exact hK _ _ ⟨hd, rfl, rfl⟩
      · intro w4 p hI hp hs
        have HB4 := Lib.hid (HB.out.trans (hI.mono hsz))
        obtain ⟨y0, y1⟩ := hs.cell
        clear hI hs
        simp only [List.filterMap_cons, List.filterMap_nil, List.foldl_cons, List.foldl_nil, List.setIfInBounds_toArray, List.set_cons_succ, List.set_cons_zero]
        have hno : ¬ (bU r (sel sh l) (sh (l k)).d m ≤ bV r (sel sh l) (sh (l k)).d m) → ¬ PP := fun h hp => h (HF.out.2 hp k hlt)
        have hnx : bU r (sel sh l) (sh (l k)).d m ≤ bV r (sel sh l) (sh (l k)).d m → ∀ i, i < k + 1 → bU r (sel sh l) (sel sh l i).d m ≤ bV r (sel sh l) (sel sh l i).d m := fun h i hi => by
          rcases Nat.lt_succ_iff_lt_or_eq.1 hi with h' | rfl
          · exact HALL.out i h'
          · exact h
        have HNO := Lib.hid hno
        have HNX := Lib.hid hnx
        clear hno hnx
        generalize bU r (sel sh l) (sh (l k)).d m = U at *
        generalize bV r (sel sh l) (sh (l k)).d m = V at *
        by_cases hle : U > V
        · have hnp := HNO.out (Int.not_le.2 hle)
          have HNP := Lib.hid hnp
          clear hnp
          gi_wp2
          go_ret
          exact ⟨false, rfl, ⟨fun h => (by cases h), fun h => absurd h HNP.out⟩, ((Below.refl W.heap.size W).alloc (Nat.le_refl _) _).trans (HB4.out.mono (by omega))⟩
        · have hn2 := HNX.out (Int.not_lt.1 hle)
          have HN2 := Lib.hid hn2
          clear hn2
          gi_wp2
          go_roundw
          case rel => exact ⟨k + 1, by omega, by go_num, HB4.out, HN2.out⟩
          case measure => simp [intOf]; omega
    · obtain rfl : k = m := by omega
      have hp := HF.out.1 HALL.out
      have HP := Lib.hid hp
      clear hp
      gi_wp2
      go_ret
      exact ⟨true, rfl, ⟨fun _ => HP.out, fun _ => rfl⟩, HBW.out⟩
theorem Fair_any (r : Rl) (A : Option Addr) (n c : Nat) (sh : Nat → Sh) (W : World) (hc : n ≤ c) (hsh : Hid (ShotsAt W A n sh)) : CallsIn Fc 0 Tryz.prog 25 #[cardV r A n c] W (SaysProp (CardOk r sh n) W) := by
  have hB1 : ∀ x, Below W.heap.size W (W.alloc x) := fun x => (Below.refl _ _).alloc (Nat.le_refl _) _
  have HB1 := Lib.hid hB1
  clear hB1
  gi_enter Tryz.func25, Tryz.ntmps25
  by_cases hn : (n : Int) ≤ 20
  · have hcall := fun w (hb : Below W.heap.size W w) => CheckCard_any r A n c sh w (by omega) hc (Lib.hid (hsh.out.below hb))
    have hz := cardZ_ok (r := r) (sh := sh) (n := n)
    generalize cardZ r sh n = z at *
    have HC := Lib.hid hcall
    have HZ := Lib.hid hz
    clear hcall hz
    by_cases h0 : z = 0
    · have hp := HZ.out.1 h0
      subst h0
      have HP := Lib.hid hp
      clear hp
      gi_wp2_with (gi_at_call 12; refine (HC.out _ (HB1.out _)).mono ?_; rintro e w' ⟨rfl, hb⟩; have HB := Lib.hid ((HB1.out _).trans (hb.mono (HB1.out _).size)); clear hb)
      go_ret
      exact ⟨true, rfl, ⟨fun _ => HP.out, fun _ => rfl⟩, HB.out⟩
    · have hp : ¬ CardOk r sh n := fun h => h0 (HZ.out.2 h)
      have HP := Lib.hid hp
      clear hp
      gi_wp2_with (gi_at_call 12; refine (HC.out _ (HB1.out _)).mono ?_; rintro e w' ⟨rfl, hb⟩; have HB := Lib.hid ((HB1.out _).trans (hb.mono (HB1.out _).size)); clear hb)
      go_ret
      exact ⟨false, by simp [h0], ⟨fun h => (by cases h), fun h => absurd h HP.out⟩, HB.out⟩
  · have hp : ¬ CardOk r sh n := fun h => by have := h.count; omega
    have HP := Lib.hid hp
    clear hp
    gi_wp2
    go_ret
    exact ⟨false, rfl, ⟨fun h => (by cases h), fun h => absurd h HP.out⟩, HB1.out _⟩
end Go.Proofs.YtlabfeofejemjaaGreat
end
section
namespace Go.Proofs.YtlabfeofejemjaaGreat
open Go.RowKit
theorem PicksAt.at {w : World} {A : Option Addr} {n : Nat} {p : Nat → Int} (h : PicksAt w A n p) (k : Nat) : 0 ≤ choiceZ n p k ∧ choiceZ n p k ≤ 65535 := choice_le h k
end Go.Proofs.YtlabfeofejemjaaGreat
end
section
namespace Go.Proofs.YtlabfeofejemjaaGreat
open Go.ConcR (DC0)
open Go.RowKit
open Go.RowKit Go.Cx Go.Conc
section
variable {F : Fence} {n : Nat} {P : Program} {Post : Act → World → Prop} {a : Act} {w : World} {b : Frame} {k : List Item} {cs : List Frame}
def Through (Post : Act → World → Prop) : Exit → Act → World → Prop
  | .normal, a, w => Post a w
  | _, _, _ => False
abbrev Comes (F : Fence) (P : Program) (b : Frame) (cs : List Frame) (a : Act) (k : List Item) (w : World) (a' : Act) (k' : List Item) (w' : World) : Prop :=
  StepsIn (Machine.fenced P F) P (lone (b.atR a k) cs w) (lone (b.atR a' k') cs w')
theorem comes_code {c : Code} (h : c.wpIn F n P (Through Post) a w) (hro : b.roundOf = F.round) (hb : F.fn b.fn) (hr : F.room (cs.length + 1 + n)) :
    ∃ a' w', Post a' w' ∧ Comes F P b cs a (.code c :: k) w a' k w' := by
  obtain ⟨e, a', w', hp, harr⟩ := h b k cs hro hb hr
  cases e with
  | normal => exact ⟨a', w', hp, harr⟩
  | _ => exact hp.elim
theorem comes_seq {x y : Code} (hb : F.fn b.fn) (hr : F.room (cs.length + 1 + n)) : Comes F P b cs a (.code (.seq x y) :: k) w a (.code x :: .code y :: k) w :=
  .one (fenced_calm hb hr rfl) stepR_seq
theorem comes_cond {c : Operand} {x y : Code} {t : Bool} (hc : a.eval c = .bool t) (hb : F.fn b.fn) (hr : F.room (cs.length + 1 + n)) : Comes F P b cs a (.code (.cond c x y) :: k) w a (.code (if t then x else y) :: k) w :=
  .one (fenced_calm hb hr rfl) (stepR_cond hc)
theorem comes_region {id : Nat} {ops : Array Oper} (hb : F.fn b.fn) (hr : F.room (cs.length + 1 + n)) : Comes F P b cs a (.code (.region id ops false) :: k) w a (.inRegion ops (List.range ops.size) :: k) w :=
  .one (fenced_calm hb hr rfl) stepR_region
def reckons : Op → Bool
  | .move _ | .assign _ | .pick _ _ _ | .binOp _ _ _ _ _ | .load _ _ => true
  | _ => false
theorem reckons_about {o : Oper} (h : reckons o.op = true) (P : Program) (w : World) (ρ : Operand → Value) : o.about P w ρ = none := by
  unfold Oper.about
  cases hop : o.op <;> simp_all [reckons]
theorem run_value {s : Sem Value} {P : Program} {w : World} : (∃ v w', (do let v ← s; pure (Next.value v) : Sem Next).run P w = .ok (.value v) w') ∨ ∃ x w', (do let v ← s; pure (Next.value v) : Sem Next).run P w = .halt x w' := by
  rw [Sem.run_bind]
  cases s.run P w with
  | ok v w' => exact .inl ⟨v, w', rfl⟩
  | halt x w' => exact .inr ⟨x, w', rfl⟩
theorem reckons_run {o : Oper} (h : reckons o.op = true) (P : Program) (w : World) (ρ : Operand → Value) : (∃ v w', (execOp ρ o).run P w = .ok (.value v) w') ∨ ∃ x w', (execOp ρ o).run P w = .halt x w' := by
  cases hop : o.op <;> simp only [hop, reckons] at h <;> try (cases h)
  all_goals unfold execOp; simp only [hop]
  case move x => exact .inl ⟨_, _, rfl⟩
  case assign x => exact .inl ⟨_, _, rfl⟩
  case pick c x y =>
    rw [Sem.run_bind]
    cases (asBool (ρ c)).run P w with
    | ok v w' => exact .inl ⟨_, w', rfl⟩
    | halt x w' => exact .inr ⟨x, w', rfl⟩
  case binOp op t x y u => exact run_value
  case load t x => exact run_value
theorem comes_pre {ops : Array Oper} (l : List Oper) : ∀ (i : Nat) (rest : List Nat) (a : Act) (w : World), (∀ j, j < l.length → ops[i + j]? = l[j]?) → (l.all fun o => reckons o.op) = true →
    wpListIn F n P ops (Through Post) l a w → b.roundOf = F.round → F.fn b.fn → F.room (cs.length + 1 + n) →
    ∃ a' w', Post a' w' ∧ Comes F P b cs a (.inRegion ops (List.range' i l.length ++ rest) :: k) w a' (.inRegion ops rest :: k) w' := by
  induction l with
  | nil => exact fun i rest a w _ _ h _ _ _ => ⟨a, w, h, .refl _⟩
  | cons o l ih =>
    intro i rest a w hops hall h hro hb hr
    have ho : ops[i]? = some o := by simpa using hops 0 (by simp)
    have hops' : ∀ j, j < l.length → ops[i + 1 + j]? = l[j]? := fun j hj => by
      have := hops (j + 1) (by simp; omega)
      simpa [Nat.add_assoc, Nat.add_comm 1 j] using this
    simp only [List.all_cons, Bool.and_eq_true] at hall
    have hab : ∀ f, o.about P w a.eval = some f → F.fn f := fun f hf => by rw [reckons_about hall.1] at hf; cases hf
    have h0 : (lone (b.atR a (.inRegion ops (i :: (List.range' (i + 1) l.length ++ rest)) :: k)) cs w).fenced P F := fenced_oper hb hr ho hab
    have hfin : ∀ v, (b.atR a (.inRegion ops (i :: (List.range' (i + 1) l.length ++ rest)) :: k)).finish v = b.atR (a.put o.dst v) (.inRegion ops (List.range' (i + 1) l.length ++ rest) :: k) := by
      intro v; rw [Frame.finish_atR, ho]; rfl
    simp only [wpListIn] at h
    rw [List.length_cons, List.range'_succ, List.cons_append]
    by_cases hw : Region.wanted o (yielded ops a.tmps) = true
    · rw [if_pos hw] at h
      have h2 := h.2
      have hsem : o.semAt F.round a.eval = execOp a.eval o := by
        refine Oper.semAt_eq _ _ _ fun c hc => ?_
        rw [hc] at hall
        exact absurd hall.1 (by simp [reckons])
      rw [hsem] at h2
      rcases reckons_run hall.1 P w a.eval with ⟨v, w1, hrun⟩ | ⟨x, w1, hrun⟩
      · rw [hrun] at h2
        obtain ⟨a', w', hp, hs⟩ := ih (i + 1) rest _ _ hops' hall.2 h2 hro hb hr
        refine ⟨a', w', hp, .head h0 (step_lone_go ?_) hs⟩
        rw [stepGR_op (P := P) ho hw, hro, hsem, ← hfin]
        simp [stepG.apply, hrun]
      · rw [hrun] at h2
        cases x with
        | panic v => exact h2.elim
        | _ => exact h2.elim
    · rw [if_neg hw] at h
      obtain ⟨a', w', hp, hs⟩ := ih (i + 1) rest _ _ hops' hall.2 h.2 hro hb hr
      have hk := stepR_op_skip (P := P) (b := b) (a := a) (k := k) (cs := cs) (w := w) (ops := ops) (i := i) (rest := List.range' (i + 1) l.length ++ rest) (by simp [ho]; simpa using hw)
      simp only [ho, Option.bind_some] at hk
      exact ⟨a', w', hp, .head h0 hk hs⟩
end
section
variable {F : Fence} {n : Nat} {P : Program} {b : Frame} {cs : List Frame} {S : Act → List Item → World → Prop} {a : Act} {w : World} {k : List Item}
def Reach (F : Fence) (P : Program) (b : Frame) (cs : List Frame) (S : Act → List Item → World → Prop) (a : Act) (k : List Item) (w : World) : Prop :=
  ∃ a' k' w', S a' k' w' ∧ Comes F P b cs a k w a' k' w'
theorem Reach.here (h : S a k w) : Reach F P b cs S a k w := ⟨a, k, w, h, .refl _⟩
theorem reach_seq {x y : Code} (hb : F.fn b.fn) (hr : F.room (cs.length + 1 + n)) (h : Reach F P b cs S a (.code x :: .code y :: k) w) : Reach F P b cs S a (.code (.seq x y) :: k) w := by
  obtain ⟨a', k', w', h1, h2⟩ := h
  exact ⟨a', k', w', h1, (comes_seq hb hr).trans h2⟩
theorem reach_code {c : Code} (hro : b.roundOf = F.round) (hb : F.fn b.fn) (hr : F.room (cs.length + 1 + n))
    (h : ∀ R : Act → World → Prop, (∀ a' w', Reach F P b cs S a' k w' → R a' w') → c.wpIn F n P (Through R) a w) : Reach F P b cs S a (.code c :: k) w := by
  obtain ⟨a1, w1, ⟨a', k', w', h1, h2⟩, h3⟩ := comes_code (h (fun a' w' => Reach F P b cs S a' k w') fun a' w' h => h) hro hb hr
  exact ⟨a', k', w', h1, h3.trans h2⟩
theorem reach_cond {c : Operand} {x y : Code} (t : Bool) (hc : a.eval c = .bool t) (hb : F.fn b.fn) (hr : F.room (cs.length + 1 + n)) (h : Reach F P b cs S a (.code (if t then x else y) :: k) w) : Reach F P b cs S a (.code (.cond c x y) :: k) w := by
  obtain ⟨a', k', w', h1, h2⟩ := h
  exact ⟨a', k', w', h1, (comes_cond hc hb hr).trans h2⟩
theorem reach_skip (hb : F.fn b.fn) (hr : F.room (cs.length + 1 + n)) (hro : b.roundOf = F.round) (h : Reach F P b cs S a k w) : Reach F P b cs S a (.code .skip :: k) w :=
  reach_code (n := n) hro hb hr fun R hR => by
    gi_wp2
    exact hR _ _ h
theorem reach_region {id : Nat} {ops : Array Oper} (hb : F.fn b.fn) (hr : F.room (cs.length + 1 + n)) (h : Reach F P b cs S a (.inRegion ops (List.range ops.size) :: k) w) : Reach F P b cs S a (.code (.region id ops false) :: k) w := by
  obtain ⟨a', k', w', h1, h2⟩ := h
  exact ⟨a', k', w', h1, (comes_region hb hr).trans h2⟩
end
theorem put_same {a : Act} {d : Nat} {v : Value} (h : d < a.tmps.size) : (a.put (some d) v).tmps.getD d undef = v := by
  simp [Act.put, h]
theorem put_far {a : Act} {d e : Nat} {v : Value} (h : d ≠ e) : (a.put (some d) v).tmps.getD e undef = a.tmps.getD e undef := by
  simp [Act.put, h]
theorem put_size {a : Act} {d : Nat} {v : Value} : (a.put (some d) v).tmps.size = a.tmps.size := by simp [Act.put]
theorem put_defers {a : Act} {d : Nat} {v : Value} : (a.put (some d) v).defers = a.defers := rfl
abbrev lawFr (f : FuncId) : Frame := { (default : Frame) with fn := f, kind := .normal, roundOf := none }
structure EarlyAt (S : FuncId) (ops : Array Oper) (i j d r : Nat) : Prop where
  o : ∃ o, ops[i]? = some o ∧ o.op = .call { callee := .value (.func S), args := #[], argTypes := #[] } ∧ o.guard = none ∧ o.dst = some d
  p : ∃ o, ops[j]? = some o ∧ o.op = .assign (.tmp d) ∧ o.guard = none ∧ o.dst = some r
structure LateAt (S : FuncId) (ops : Array Oper) (i j1 j2 g c d e r : Nat) : Prop where
  o : ∃ o, ops[i]? = some o ∧ o.op = .call { callee := .value (.func S), args := #[], argTypes := #[] } ∧ o.guard = some (g, true) ∧ o.dst = some d
  g : (ops[g]?).bind (·.dst) = some c
  p : ∃ o, ops[j1]? = some o ∧ o.op = .pick (.tmp c) (.tmp d) (.const (.bool false)) ∧ o.guard = none ∧ o.dst = some e
  q : ∃ o, ops[j2]? = some o ∧ o.op = .assign (.tmp e) ∧ o.guard = none ∧ o.dst = some r
  ne : d ≠ c
inductive AtCallG (S : FuncId) (r z : Nat) : Act → List Item → Prop where
  | early (a : Act) (k : List Item) (ops : Array Oper) (i j d : Nat) (h : EarlyAt S ops i j d r) (hdz : d < z) (hd : a.defers = []) (hs : a.tmps.size = z) : AtCallG S r z a (.inRegion ops [i, j] :: .code .ret :: k)
  | late (a : Act) (k : List Item) (ops : Array Oper) (i j1 j2 g c d e : Nat) (h : LateAt S ops i j1 j2 g c d e r) (hdz : d < z) (hez : e < z) (hd : a.defers = []) (hs : a.tmps.size = z) (ht : a.tmps.getD c undef = .bool true) (hcz : c < z) : AtCallG S r z a (.inRegion ops [i, j1, j2] :: .code .ret :: k)
section
variable {P : Program} {S f : FuncId} {r z : Nat}
theorem call_step {a : Act} {k : List Item} (hS : ∃ fn, P.funcs[S]? = some fn ∧ (fn.name == "runtime.NumGoroutine") = false ∧ fn.body.isNone = false) (h : AtCallG S r z a k) (w : World) :
    stepG P true (G ((lawFr f).at a k) []) w = .go (G (Frame.enter P S #[] .normal) [(lawFr f).at a k]) w #[] := by
  obtain ⟨fn, hf, hn, hb⟩ := hS
  cases h with
  | early k ops i j d h hdz hd hs =>
    obtain ⟨o, ho, hop, hg, hdst⟩ := h.o
    have hw : Region.wanted o (yielded ops a.tmps) = true := by simp only [Region.wanted, hg]
    rw [stepG_enter ho hw (by intro h; cases h) (run_call_body hop hf hn hb)]
    have : listed P (lawFr f).fn a o w = #[] := by unfold listed; rw [events_call_body hop hf hn hb]; exact seen_none _ _
    rw [this]
    simp only [List.map_toArray, List.map_nil]
  | late k ops i j1 j2 g c d e h hdz hez hd hs ht hcz =>
    obtain ⟨o, ho, hop, hg, hdst⟩ := h.o
    have hw : Region.wanted o (yielded ops a.tmps) = true := by
      simp only [Region.wanted, hg]
      have hgc : a.tmps[c]? = some (.bool true) := by
        rw [Array.getD_eq_getD_getElem?, Array.getElem?_eq_getElem (by omega)] at ht
        rw [Array.getElem?_eq_getElem (by omega)]
        simpa using ht
      unfold yielded
      rw [h.g]
      simp [hgc]
    rw [stepG_enter ho hw (by intro h; cases h) (run_call_body hop hf hn hb)]
    have : listed P (lawFr f).fn a o w = #[] := by unfold listed; rw [events_call_body hop hf hn hb]; exact seen_none _ _
    rw [this]
    simp only [List.map_toArray, List.map_nil]
theorem goes_oneG {R : World → World → Prop} {Stop : Goroutine → World → Prop} {n : Nat} {g g' : Goroutine} {w : World} (hs : g.status = .running) (h : ∀ w1, stepG P true g w1 = .go g' w1 #[]) (hk : ∀ w1, R w w1 → Goes P true R DC0 Stop n g' w1) :
    Goes P true R DC0 Stop (n + 1) g w := Goes.step hs fun w1 h1 => by
  rw [h w1]
  exact ⟨⟨rfl, rfl⟩, hk w1 h1⟩
theorem step_assignG {a : Act} {k : List Item} {ops : Array Oper} {i : Nat} {rest : List Nat} {o : Oper} {x : Operand} (ho : ops[i]? = some o) (hg : o.guard = none) (hop : o.op = .assign x) (w : World) :
    stepG P true (G ((lawFr f).at a (.inRegion ops (i :: rest) :: k)) []) w = .go (G ((lawFr f).at (a.put o.dst (a.eval x)) (.inRegion ops rest :: k)) []) w #[] := by
  have hr : (execOp a.eval o).run P w = .ok (.value (a.eval x)) w := by unfold execOp; simp [hop]
  rw [stepG_value ho (by simp only [Region.wanted, hg]) (by intro h; cases h) hr]
  have : listed P (lawFr f).fn a o w = #[] := by
    unfold listed
    rw [show (execOp a.eval o).events P w #[] = #[] by unfold execOp; simp [hop]]
    exact seen_none _ _
  rw [this]
theorem step_pickG {a : Act} {k : List Item} {ops : Array Oper} {i : Nat} {rest : List Nat} {o : Oper} {c x y : Operand} (ho : ops[i]? = some o) (hg : o.guard = none) (hop : o.op = .pick c x y) (hc : a.eval c = .bool true) (w : World) :
    stepG P true (G ((lawFr f).at a (.inRegion ops (i :: rest) :: k)) []) w = .go (G ((lawFr f).at (a.put o.dst (a.eval x)) (.inRegion ops rest :: k)) []) w #[] := by
  have hr : (execOp a.eval o).run P w = .ok (.value (a.eval x)) w := by unfold execOp; simp [hop, hc, asBool]
  rw [stepG_value ho (by simp only [Region.wanted, hg]) (by intro h; cases h) hr]
  have : listed P (lawFr f).fn a o w = #[] := by
    unfold listed
    rw [show (execOp a.eval o).events P w #[] = #[] by unfold execOp; simp [hop, hc, asBool]]
    exact seen_none _ _
  rw [this]
theorem step_doneG {F : FuncId → Prop} {fl : Func} (hF : FenceOk P F) (hin : F f) (hfl : P.funcs[f]? = some fl) (hres : fl.results = #[.tmp r]) {a : Act} {k : List Item} (hd : a.defers = []) (h4 : a.tmps.getD r undef = .bool true) (w : World) :
    stepG P true (G { (lawFr f).at a (.code .ret :: k) with mode := .returning } []) w = .ended (.done (.bool true)) w #[] := by
  obtain ⟨fn, c, hk⟩ := hF f hin
  have hfn : fn = fl := Option.some.inj (hk.at_.symm.trans hfl)
  have h1 : (results fn a.tmps).run P w = .ok (.bool true) w := by
    rw [results_tmp (t := r) (by rw [hfn]; exact hres) a.tmps P w, h4]
  have h2 : (results fn a.tmps).events P w #[] = #[] := events_results_tmp (t := r) (by rw [hfn]; exact hres) _ _
  have e1 : ∀ (fr : Frame) (z : World), fr.kind = .normal → fr.fn = f → doReturn P true fr [] none (.bool true) z = .ended (.done (.bool true)) z := fun fr z h3 h4 => by simp [doReturn, h3, h4, hk.ini]
  simp only [G, stepG, unwind, Frame.at, hd, hk.at_, Sem.runT_eq, h1, h2]
  rw [e1 _ _ rfl rfl]
  simp [GStep.after, seen_none]
theorem after_retG {F : FuncId → Prop} {fl : Func} (hF : FenceOk P F) (hin : F f) (hfl : P.funcs[f]? = some fl) (hres : fl.results = #[.tmp r]) {a : Act} {k : List Item} {ops : Array Oper} {w w' : World} (he : Env (OldL w) w w') (hd : a.defers = []) (h4 : a.tmps.getD r undef = .bool true) :
    Goes P true (fun w0 w1 => Env (OldL w) w0 w1) DC0 (AtRet P (fun v w1 => v = .bool true ∧ Env (OldL w) w w1)) 2 (G ((lawFr f).at a (.inRegion ops [] :: .code .ret :: k)) []) w' := by
  refine goes_oneG rfl (fun w1 => stepG_region_end) fun w1 h1 => goes_oneG rfl (fun w1 => stepG_ret') fun w2 h2 => Goes.stop fun w3 h3 => ?_
  exact ⟨rfl, _, step_doneG hF hin hfl hres hd h4 w3, rfl, ((he.trans h1).trans h2).trans h3⟩
theorem after_callG {F : FuncId → Prop} {fl : Func} (hF : FenceOk P F) (hin : F f) (hfl : P.funcs[f]? = some fl) (hres : fl.results = #[.tmp r]) (hrz : r < z) {a : Act} {k : List Item} (h : AtCallG S r z a k) {w w' : World} (he : Env (OldL w) w w') :
    Goes P true (fun w0 w1 => Env (OldL w) w0 w1) DC0 (AtRet P (fun v w1 => v = .bool true ∧ Env (OldL w) w w1)) 4 (G (((lawFr f).at a k).finish (.bool true)) []) w' := by
  cases h with
  | early k ops i j d h hdz hd hs =>
    obtain ⟨o, ho, hop, hg, hdst⟩ := h.o
    obtain ⟨o2, ho2, hop2, hg2, hdst2⟩ := h.p
    rw [Frame.finish_at, ho]
    simp only [Option.bind_some, hdst]
    refine goes_oneG (g' := G ((lawFr f).at ((a.put (some d) (.bool true)).put (some r) (.bool true)) (.inRegion ops [] :: .code .ret :: k)) []) rfl (fun w1 => ?_) fun w1 h1 => Goes.more (after_retG hF hin hfl hres (a := (a.put (some d) (.bool true)).put (some r) (.bool true)) (ops := ops) (k := k) (he.trans h1) (by rw [put_defers, put_defers, hd]) (put_same (by rw [put_size]; omega)))
    have h := step_assignG (P := P) (f := f) (a := a.put (some d) (.bool true)) (k := .code .ret :: k) (ops := ops) (i := j) (rest := []) (x := .tmp d) ho2 hg2 hop2 w1
    rw [h, hdst2, show (a.put (some d) (.bool true)).eval (.tmp d) = .bool true from put_same (by omega)]
  | late k ops i j1 j2 g c d e h hdz hez hd hs ht hcz =>
    obtain ⟨o, ho, hop, hg, hdst⟩ := h.o
    obtain ⟨o2, ho2, hop2, hg2, hdst2⟩ := h.p
    obtain ⟨o3, ho3, hop3, hg3, hdst3⟩ := h.q
    rw [Frame.finish_at, ho]
    simp only [Option.bind_some, hdst]
    refine goes_oneG (g' := G ((lawFr f).at ((a.put (some d) (.bool true)).put (some e) (.bool true)) (.inRegion ops [j2] :: .code .ret :: k)) []) rfl (fun w1 => ?_) fun w1 h1 => ?_
    · have h := step_pickG (P := P) (f := f) (a := a.put (some d) (.bool true)) (k := .code .ret :: k) (ops := ops) (i := j1) (rest := [j2]) (c := .tmp c) (x := .tmp d) (y := .const (.bool false)) ho2 hg2 hop2 ((put_far h.ne).trans ht) w1
      rw [h, hdst2, show (a.put (some d) (.bool true)).eval (.tmp d) = .bool true from put_same (by omega)]
    · refine goes_oneG (g' := G ((lawFr f).at (((a.put (some d) (.bool true)).put (some e) (.bool true)).put (some r) (.bool true)) (.inRegion ops [] :: .code .ret :: k)) []) rfl (fun w2 => ?_) fun w2 h2 => after_retG hF hin hfl hres ((he.trans h1).trans h2) (by rw [put_defers, put_defers, put_defers, hd]) (put_same (by rw [put_size, put_size]; omega))
      have h := step_assignG (P := P) (f := f) (a := (a.put (some d) (.bool true)).put (some e) (.bool true)) (k := .code .ret :: k) (ops := ops) (i := j2) (rest := []) (x := .tmp e) ho3 hg3 hop3 w2
      rw [h, hdst3, show ((a.put (some d) (.bool true)).put (some e) (.bool true)).eval (.tmp e) = .bool true from put_same (by rw [put_size]; omega)]
end
def CallsFn (P : Program) (o : Op) : Prop := ∃ (f : FuncId) (args : Array Operand) (ats : Array TypeId) (fn : Func), o = .call { callee := .value (.func f), args, argTypes := ats } ∧ P.funcs[f]? = some fn ∧ (fn.name == "runtime.NumGoroutine") = false ∧ fn.body.isNone = false
section
variable {F : Fence} {n : Nat} {P : Program} {Post : Act → World → Prop} {a : Act} {w : World} {b : Frame} {k : List Item} {cs : List Frame}
theorem comes_call {ops : Array Oper} {i : Nat} {l : List Nat} {o : Oper} {S : FuncId} {args : Array Value} {w1 : World} {next : Act → World → Prop} (ho : ops[i]? = some o) (hw : Region.wanted o (yielded ops a.tmps) = true) (hro : b.roundOf = F.round) (hb : F.fn b.fn) (hr : F.room (cs.length + 1 + n))
    (hrun : (o.semAt F.round a.eval).run P w = .ok (.enter S args) w1) (h : o.wpIn F n P a w next (Through Post)) :
    ∃ v w2, next (a.put o.dst v) w2 ∧ Comes F P b cs a (.inRegion ops (i :: l) :: k) w (a.put o.dst v) (.inRegion ops l :: k) w2 := by
  obtain ⟨hab, h⟩ := h
  rw [hrun] at h
  simp only [Oper.uponIn] at h
  obtain ⟨hn, hF, h⟩ := h
  have h0 : (lone (b.atR a (.inRegion ops (i :: l) :: k)) cs w).fenced P F := fenced_oper hb hr ho hab
  have hg := stepGR_op (P := P) (b := b) (k := k) (cs := cs) (w := w) (rest := l) ho hw
  rw [hro] at hg
  have hroom : F.room ((b.atR a (.inRegion ops (i :: l) :: k) :: cs).length + 1 + (n - 1)) := Fence.room_enter hr hn
  obtain ⟨e, w2, fr, hR, hsteps, hfn, hleave⟩ := h (b.atR a (.inRegion ops (i :: l) :: k) :: cs) hroom
  have henter : step P (lone (b.atR a (.inRegion ops (i :: l) :: k)) cs w) = .next (lone (Frame.enter P S args .normal) (b.atR a (.inRegion ops (i :: l) :: k) :: cs) w1) :=
    step_lone_go (by rw [hg]; simp [stepG.apply, hrun, Frame.atR])
  cases e with
  | returned v =>
    refine ⟨v, w2, hR, .head h0 henter (StepsIn.trans hsteps (.one (fenced_leaving (hfn ▸ hF) hroom hleave) ?_))⟩
    have hfin : (b.atR a (.inRegion ops (i :: l) :: k)).finish v = b.atR (a.put o.dst v) (.inRegion ops l :: k) := by rw [Frame.finish_atR, ho]; rfl
    rw [← hfin]
    exact step_leave_returned hleave
  | panicked chain => exact hR.elim
  | outgrown => obtain ⟨_, _, hq⟩ := hR; exact hq.elim
theorem comes_list {ops : Array Oper} (l : List Oper) : ∀ (i : Nat) (rest : List Nat) (a : Act) (w : World), (∀ j, j < l.length → ops[i + j]? = l[j]?) → (∀ o ∈ l, reckons o.op = true ∨ CallsFn P o.op) →
    wpListIn F n P ops (Through Post) l a w → b.roundOf = F.round → F.fn b.fn → F.room (cs.length + 1 + n) →
    ∃ a' w', Post a' w' ∧ Comes F P b cs a (.inRegion ops (List.range' i l.length ++ rest) :: k) w a' (.inRegion ops rest :: k) w' := by
  induction l with
  | nil => exact fun i rest a w _ _ h _ _ _ => ⟨a, w, h, .refl _⟩
  | cons o l ih =>
    intro i rest a w hops hall h hro hb hr
    have ho : ops[i]? = some o := by simpa using hops 0 (by simp)
    have hops' : ∀ j, j < l.length → ops[i + 1 + j]? = l[j]? := fun j hj => by
      have := hops (j + 1) (by simp; omega)
      simpa [Nat.add_assoc, Nat.add_comm 1 j] using this
    have hall' : ∀ o ∈ l, reckons o.op = true ∨ CallsFn P o.op := fun o ho => hall o (List.mem_cons_of_mem _ ho)
    rw [List.length_cons, List.range'_succ, List.cons_append]
    simp only [wpListIn] at h
    by_cases hw : Region.wanted o (yielded ops a.tmps) = true
    · rw [if_pos hw] at h
      rcases hall o (List.mem_cons_self ..) with hrk | ⟨f, args, ats, fn, hop, hf, hname, hbody⟩
      · have h1 : wpListIn F n P ops (Through fun a w => wpListIn F n P ops (Through Post) l a w) [o] a w := by
          simp only [wpListIn]
          rw [if_pos hw]
          refine ⟨h.1, ?_⟩
          have h2 := h.2
          revert h2
          have hsem : o.semAt F.round a.eval = execOp a.eval o := Oper.semAt_eq _ _ _ fun c hc => by rw [hc] at hrk; exact absurd hrk (by simp [reckons])
          rw [hsem]
          rcases reckons_run hrk P w a.eval with ⟨v, w1, hrun⟩ | ⟨x, w1, hrun⟩
          · rw [hrun]; exact fun h => h
          · rw [hrun]; cases x <;> exact fun h => h
        obtain ⟨a1, w1, h2, h3⟩ := comes_pre (b := b) (cs := cs) (k := k) (ops := ops) [o] i (List.range' (i + 1) l.length ++ rest) a w (fun j hj => by simp at hj; subst hj; simpa using ho) (by simpa using hrk) h1 hro hb hr
        obtain ⟨a', w', hp, hs⟩ := ih (i + 1) rest a1 w1 hops' hall' h2 hro hb hr
        exact ⟨a', w', hp, StepsIn.trans (by simpa using h3) hs⟩
      · have hsem : o.semAt F.round a.eval = execOp a.eval o := Oper.semAt_eq _ _ _ fun c hc => by rw [hop] at hc; cases hc
        obtain ⟨v, w2, h2, h3⟩ := comes_call (l := List.range' (i + 1) l.length ++ rest) ho hw hro hb hr (by rw [hsem]; exact run_call_body hop hf hname hbody) h
        obtain ⟨a', w', hp, hs⟩ := ih (i + 1) rest _ w2 hops' hall' h2 hro hb hr
        exact ⟨a', w', hp, StepsIn.trans h3 hs⟩
    · rw [if_neg hw] at h
      obtain ⟨a', w', hp, hs⟩ := ih (i + 1) rest _ _ hops' hall' h.2 hro hb hr
      have hk := stepR_op_skip (P := P) (b := b) (a := a) (k := k) (cs := cs) (w := w) (ops := ops) (i := i) (rest := List.range' (i + 1) l.length ++ rest) (by simp [ho]; simpa using hw)
      simp only [ho, Option.bind_some] at hk
      exact ⟨a', w', hp, .head (fenced_oper hb hr ho h.1) hk hs⟩
theorem reach_list {S : Act → List Item → World → Prop} {ops : Array Oper} (t : Nat) (rest : List Nat) (hr2 : List.range ops.size = List.range' 0 (ops.toList.take t).length ++ rest) (hall : ∀ o ∈ ops.toList.take t, reckons o.op = true ∨ CallsFn P o.op) (hro : b.roundOf = F.round) (hb : F.fn b.fn) (hr : F.room (cs.length + 1 + n))
    (h : ∀ R : Act → World → Prop, (∀ a' w', Reach F P b cs S a' (.inRegion ops rest :: k) w' → R a' w') → wpListIn F n P ops (Through R) (ops.toList.take t) a w) : Reach F P b cs S a (.inRegion ops (List.range ops.size) :: k) w := by
  rw [hr2]
  obtain ⟨a1, w1, ⟨a', k', w', h1, h2⟩, h3⟩ := comes_list (b := b) (cs := cs) (k := k) (ops.toList.take t) 0 rest a w (fun j hj => by
    rw [Nat.zero_add, List.getElem?_take, if_pos (Nat.lt_of_lt_of_le hj (List.length_take_le ..))]
    simp) hall (h (fun a' w' => Reach F P b cs S a' (.inRegion ops rest :: k) w') fun a' w' h => h) hro hb hr
  exact ⟨a', k', w', h1, h3.trans h2⟩
end
end Go.Proofs.YtlabfeofejemjaaGreat
end
section
namespace Go.Proofs.YtlabfeofejemjaaGreat
open Go.RowKit
theorem mul_next (a k : Int) : (a + 1) * k = a * k + k := by rw [Int.add_mul]; omega
theorem reachU_step {r : Rl} (hr : RlOk r) (x : Sh) (d : Int) : reachU r x d + r.ls ≤ reachU r x (d + 1) ∧ reachU r x (d + 1) ≤ reachU r x d + r.ms := by
  have h1 := mul_next (d - x.d) r.ls
  have h2 := mul_next (d - x.d) r.ms
  rw [show d - x.d + 1 = d + 1 - x.d by omega] at h1 h2
  have hlm := hr.l1
  unfold reachU
  by_cases ha : d - x.d < 0
  · by_cases hb : d + 1 - x.d < 0
    · rw [if_pos ha, if_pos hb]; omega
    · have e : d - x.d = -1 := by omega
      rw [if_pos ha, if_neg hb, show d + 1 - x.d = 0 by omega, e]; omega
  · rw [if_neg ha, if_neg (by omega)]; omega
theorem reachV_step {r : Rl} (hr : RlOk r) (x : Sh) (d : Int) : reachV r x d + r.ls ≤ reachV r x (d + 1) ∧ reachV r x (d + 1) ≤ reachV r x d + r.ms := by
  have h1 := mul_next (d - x.d) r.ls
  have h2 := mul_next (d - x.d) r.ms
  rw [show d - x.d + 1 = d + 1 - x.d by omega] at h1 h2
  have hlm := hr.l1
  unfold reachV
  by_cases ha : d - x.d < 0
  · by_cases hb : d + 1 - x.d < 0
    · rw [if_pos ha, if_pos hb]; omega
    · have e : d - x.d = -1 := by omega
      rw [if_pos ha, if_neg hb, show d + 1 - x.d = 0 by omega, e]; omega
  · rw [if_neg ha, if_neg (by omega)]; omega
theorem b_range {r : Rl} {sh : Nat → Sh} {n : Nat} (hok : CardOk r sh n) (hn : n ≠ 0) {d : Int} (h0 : 0 ≤ d) (h1 : d ≤ 90) : -107892 ≤ bU r sh d n ∧ bV r sh d n ≤ 207891 := by
  have hb := reach_bounds hok.rule (hok.each 0 (by omega)) h0 h1
  have a := ((bU_le (r := r) (sh := sh) (d := d) n).1 (Int.le_refl _)).2 0 (by omega)
  have b := ((le_bV (r := r) (sh := sh) (d := d) n).1 (Int.le_refl _)).2 0 (by omega)
  omega
theorem bU_step {r : Rl} {sh : Nat → Sh} {n : Nat} (hok : CardOk r sh n) (hn : n ≠ 0) {d : Int} (h0 : 0 ≤ d) (h1 : d < 90) : bU r sh d n + r.ls ≤ bU r sh (d + 1) n ∧ bU r sh (d + 1) n ≤ bU r sh d n + r.ms := by
  have hr := hok.rule
  have hls := And.intro hr.l0 (And.intro hr.l1 hr.m1)
  have g0 := b_range hok hn h0 (by omega)
  have g1 := b_range hok hn (show 0 ≤ d + 1 by omega) (by omega)
  have A0 := ((bU_le (r := r) (sh := sh) (d := d) n).1 (Int.le_refl _)).2
  have A1 := ((bU_le (r := r) (sh := sh) (d := d + 1) n).1 (Int.le_refl _)).2
  constructor
  · have := (bU_le (r := r) (sh := sh) (d := d) (X := bU r sh (d + 1) n - r.ls) n).2 ⟨by omega, fun i hi => by
      have := reachU_step hr (sh i) d
      have := A1 i hi
      omega⟩
    omega
  · exact (bU_le n).2 ⟨by omega, fun i hi => by
      have := reachU_step hr (sh i) d
      have := A0 i hi
      omega⟩
theorem bV_step {r : Rl} {sh : Nat → Sh} {n : Nat} (hok : CardOk r sh n) (hn : n ≠ 0) {d : Int} (h0 : 0 ≤ d) (h1 : d < 90) : bV r sh d n + r.ls ≤ bV r sh (d + 1) n ∧ bV r sh (d + 1) n ≤ bV r sh d n + r.ms := by
  have hr := hok.rule
  have hls := And.intro hr.l0 (And.intro hr.l1 hr.m1)
  have g0 := b_range hok hn h0 (by omega)
  have g1 := b_range hok hn (show 0 ≤ d + 1 by omega) (by omega)
  have A0 := ((le_bV (r := r) (sh := sh) (d := d) n).1 (Int.le_refl _)).2
  have A1 := ((le_bV (r := r) (sh := sh) (d := d + 1) n).1 (Int.le_refl _)).2
  constructor
  · exact (le_bV n).2 ⟨by omega, fun i hi => by
      have := reachV_step hr (sh i) d
      have := A0 i hi
      omega⟩
  · have := (le_bV (r := r) (sh := sh) (d := d) (X := bV r sh (d + 1) n - r.ms) n).2 ⟨by omega, fun i hi => by
      have := reachV_step hr (sh i) d
      have := A1 i hi
      omega⟩
    omega
def atK (s k : Nat) : Nat := if s + k ≤ 90 then s + k else 90 - k
def Marked (r : Rl) (sh : Nat → Sh) (n s k : Nat) (M : Nat → Int) : Prop := ∀ j, j < k → bU r sh (atK s j : Nat) n ≤ M (atK s j) ∧ M (atK s j) ≤ bV r sh (atK s j : Nat) n
theorem atK_hit {s d : Nat} (hs : s ≤ 90) (hd : d ≤ 90) : ∃ j, j < 91 ∧ atK s j = d := by
  by_cases h : s ≤ d
  · exact ⟨d - s, by omega, by unfold atK; rw [if_pos (by omega)]; omega⟩
  · exact ⟨90 - d, by omega, by unfold atK; rw [if_neg (by omega)]; omega⟩
theorem atK_inj {s j k : Nat} (hs : s ≤ 90) (hj : j ≤ 90) (hk : k ≤ 90) (h : atK s j = atK s k) : j = k := by
  unfold atK at h; split at h <;> split at h <;> omega
theorem Marked.zero {r : Rl} {sh : Nat → Sh} {n s : Nat} {M : Nat → Int} : Marked r sh n s 0 M := fun j hj => by omega
theorem Marked.next {r : Rl} {sh : Nat → Sh} {n s k : Nat} {M : Nat → Int} (h : Marked r sh n s k M) (hs : s ≤ 90) (hk : k ≤ 90) {v : Int} (hv : bU r sh (atK s k : Nat) n ≤ v ∧ v ≤ bV r sh (atK s k : Nat) n) : Marked r sh n s (k + 1) (fun i => if i = atK s k then v else M i) := fun j hj => by
  by_cases e : j = k
  · subst e; simpa using hv
  · have hne : atK s j ≠ atK s k := fun h' => e (atK_inj hs (by omega) hk h')
    simp only [hne, if_false]
    exact h j (by omega)
theorem Marked.wide {r : Rl} {sh : Nat → Sh} {n s : Nat} {M : Nat → Int} (h : Marked r sh n s 91 M) (hok : CardOk r sh n) (hs : s ≤ 90) {i : Nat} (hi : i < n) : wideU r (sh i) ≤ M (sh i).d.toNat ∧ M (sh i).d.toNat ≤ wideV r (sh i) := by
  have hx := hok.each i hi
  have h0 := And.intro hx.d0 hx.d1
  obtain ⟨j, hj, ej⟩ := atK_hit (s := s) (d := (sh i).d.toNat) hs (by omega)
  have a := h j hj
  rw [ej, show (((sh i).d.toNat : Nat) : Int) = (sh i).d by omega] at a
  have u := ((bU_le (r := r) (sh := sh) (d := (sh i).d) n).1 (Int.le_refl _)).2 i hi
  have v := ((le_bV (r := r) (sh := sh) (d := (sh i).d) n).1 (Int.le_refl _)).2 i hi
  rw [reachU_own] at u
  rw [reachV_own] at v
  omega
end Go.Proofs.YtlabfeofejemjaaGreat
end
section
namespace Go.Proofs.YtlabfeofejemjaaGreat
open Go.RowKit
inductive RoleG where
  | val (d : Nat) (v : Value)
  | any (d : Nat)
  | st
def RoleG.slot : RoleG → Option Nat
  | .val d _ => some d
  | .any d => some d
  | .st => none
def nvG (R : List RoleG) (i : Nat) : Bool := match R[i]? with
  | some (.any _) => true
  | some .st => true
  | _ => false
def outsG (V : Nat → Value) : List RoleG → Nat → List (Nat × Value)
  | [], _ => []
  | .val d v :: R, i => (d, v) :: outsG V R (i + 1)
  | .any d :: R, i => (d, V i) :: outsG V R (i + 1)
  | .st :: R, i => outsG V R (i + 1)
def updB (L : Nat → Bool) (j : Nat) : Nat → Bool := fun i => if i = j then true else L i
def updV (V : Nat → Value) (j : Nat) (v : Value) : Nat → Value := fun i => if i = j then v else V i
section
variable {F : Fence} {n : Nat} {P : Program} {ops : Array Oper} {Q : Exit → Act → World → Prop}
def slotV (R : List RoleG) (a : Act) (i : Nat) : Value := match R[i]? with
  | some (.any d) => a.eval (.tmp d)
  | _ => undef
structure RG (ops : Array Oper) (R : List RoleG) (I : (Nat → Bool) → (Nat → Value) → World → Prop) (z : Nat) (a0 : Act) (listed : Array Bool) (a : Act) (w : World) : Prop where
  defers : a.defers = []
  size : a.tmps.size = z
  old : ∀ s, (∀ ρ ∈ R, ρ.slot ≠ some s) → a.eval (.tmp s) = a0.eval (.tmp s)
  val : ∀ (j d : Nat) (v : Value), R[j]? = some (.val d v) → listed.getD j false = true → a.eval (.tmp d) = v
  inv : I (fun i => listed.getD i false && nvG R i) (slotV R a) w
theorem outsG_mem {V : Nat → Value} {x : Nat × Value} : ∀ {R : List RoleG} {i : Nat}, x ∈ outsG V R i → ∃ k, R[k]? = some (.val x.1 x.2) ∨ (R[k]? = some (.any x.1) ∧ x.2 = V (i + k))
  | [], i, h => by cases h
  | .val d v :: R, i, h => by
    rcases List.mem_cons.1 h with rfl | h
    · exact ⟨0, .inl rfl⟩
    · obtain ⟨k, h⟩ := outsG_mem h
      exact ⟨k + 1, by simpa [Nat.add_assoc, Nat.add_comm 1] using h⟩
  | .any d :: R, i, h => by
    rcases List.mem_cons.1 h with rfl | h
    · exact ⟨0, .inr ⟨rfl, rfl⟩⟩
    · obtain ⟨k, h⟩ := outsG_mem h
      exact ⟨k + 1, by simpa [Nat.add_assoc, Nat.add_comm 1] using h⟩
  | .st :: R, i, h => by
    obtain ⟨k, h⟩ := outsG_mem (R := R) (i := i + 1) h
    exact ⟨k + 1, by simpa [Nat.add_assoc, Nat.add_comm 1] using h⟩
theorem outsG_has {V : Nat → Value} : ∀ {R : List RoleG} {i k d : Nat}, (R[k]?.bind RoleG.slot) = some d → ∃ v, (d, v) ∈ outsG V R i
  | [], i, k, d, h => by simp at h
  | .val e v :: R, i, 0, d, h => by
    simp [RoleG.slot] at h
    exact ⟨v, by subst h; exact List.mem_cons_self ..⟩
  | .any e :: R, i, 0, d, h => by
    simp [RoleG.slot] at h
    exact ⟨V i, by subst h; exact List.mem_cons_self ..⟩
  | .st :: R, i, 0, d, h => by simp [RoleG.slot] at h
  | .val e v :: R, i, k + 1, d, h => by
    obtain ⟨u, hu⟩ := outsG_has (R := R) (i := i + 1) (k := k) (d := d) (by simpa using h)
    exact ⟨u, List.mem_cons_of_mem _ hu⟩
  | .any e :: R, i, k + 1, d, h => by
    obtain ⟨u, hu⟩ := outsG_has (R := R) (i := i + 1) (k := k) (d := d) (by simpa using h)
    exact ⟨u, List.mem_cons_of_mem _ hu⟩
  | .st :: R, i, k + 1, d, h => by
    obtain ⟨u, hu⟩ := outsG_has (R := R) (i := i + 1) (k := k) (d := d) (by simpa using h)
    exact ⟨u, hu⟩
theorem wpIn_region_G (R : List RoleG) {I : (Nat → Bool) → (Nat → Value) → World → Prop} {z : Nat} {a0 : Act} {id : Nat} {w : World} (hm : P.follows .mixedOrders = true) (hb : backB .any ops = true) (hlen : R.length = ops.size) (hnd : rowDst (R.map RoleG.slot) z z z = true) (hd : a0.defers = []) (hz : a0.tmps.size = z)
    (h0 : ∀ V, I (fun _ => false) V { w with drawn := w.drawn + 1 })
    (hJ : ∀ j L V a w, j < ops.size → (nvG R j = true → L j = false) → (∀ k, depB ops j k = true → nvG R k = true → L k = true) → a.defers = [] → a.tmps.size = z → (∀ s, R.all (fun ρ => ρ.slot != some s) = true → a.eval (.tmp s) = a0.eval (.tmp s)) →
      (∀ k d v, depB ops j k = true → R[k]? = some (.val d v) → a.eval (.tmp d) = v) → (∀ k d, R[k]? = some (.any d) → a.eval (.tmp d) = V k) → I L V w →
      wpOpIn F n P ops Q j (fun a' w' => a'.defers = [] ∧ match R[j]? with
        | some (.val d v) => a'.tmps = a.tmps.setIfInBounds d v ∧ I L V w'
        | some (.any d) => ∃ v, a'.tmps = a.tmps.setIfInBounds d v ∧ I (updB L j) (updV V j v) w'
        | _ => a'.tmps = a.tmps ∧ I (updB L j) V w') a w)
    (hE : ∀ L V w, (∀ i, nvG R i = true → L i = true) → I L V w → Q .normal { tmps := (outsG V R 0).foldl (fun t x => t.setIfInBounds x.1 x.2) a0.tmps, defers := [] } w) : (Code.region id ops true).wpIn F n P Q a0 w := by
  have hK : ∀ {j : Nat} {ρ : RoleG}, R[j]? = some ρ → (R.map RoleG.slot)[j]? = some ρ.slot := fun h => by rw [List.getElem?_map, h]; rfl
  have hkey : ∀ {j d : Nat} {ρ : RoleG}, R[j]? = some ρ → ρ.slot = some d → d < z ∧ ∀ i ρ', i ≠ j → R[i]? = some ρ' → ρ'.slot ≠ some d := fun {j d ρ} h e => by
    have h' := hK h
    rw [e] at h'
    obtain ⟨_, _, q3, q4⟩ := rowDst_use hnd h'
    exact ⟨q3, fun i ρ' hi h' e => q4 i hi (by rw [hK h', e])⟩
  have evs : ∀ (a a' : Act) (d : Nat) (v : Value), a'.tmps = a.tmps.setIfInBounds d v → (∀ s, s ≠ d → a'.eval (.tmp s) = a.eval (.tmp s)) ∧ (d < a.tmps.size → a'.eval (.tmp d) = v) := fun a a' d v h => by
    constructor
    · intro s hs
      simp only [Act.eval, h]
      simp [Ne.symm hs]
    · intro hd
      simp only [Act.eval, h]
      simp [hd]
  have same : ∀ (a a' : Act), a'.tmps = a.tmps → ∀ s, a'.eval (.tmp s) = a.eval (.tmp s) := fun a a' h s => by simp only [Act.eval, h]
  have hlist : ∀ {listed : Array Bool} {i : Nat}, i ∈ Region.ready .any ops listed → i < ops.size := fun hi => by
    obtain ⟨_, o, h3, _⟩ := mem_ready.1 hi
    exact (Array.getElem?_eq_some_iff.1 h3).1
  refine wpIn_region_J (J := RG ops R I z a0) hm hb ?_ (fun listed a w i hj hi => ?_) fun listed a w hj hall => ?_
  · have hno : ∀ i, (Array.replicate ops.size false).getD i false = false := fun i => by
      rw [Array.getD_eq_getD_getElem?]
      rcases Nat.lt_or_ge i ops.size with h | h <;> simp [h]
    refine ⟨hd, hz, fun _ _ => rfl, fun j d v _ hl => (by rw [hno j] at hl; cases hl), ?_⟩
    have e : (fun i => (Array.replicate ops.size false).getD i false && nvG R i) = fun _ => false := by
      funext i
      rw [hno i]
      rfl
    rw [e]
    exact h0 _
  · have his := hlist hi
    have hnot := not_yet hi
    refine wpOpIn_mono (fun a' w' h => ?_) (hJ i (fun i => listed.getD i false && nvG R i) (slotV R a) a w his (fun _ => by simp [hnot]) (fun k hk hnv => by simp [dep hi hk, hnv]) hj.defers hj.size (fun s hs => hj.old s fun ρ hρ => by simpa using List.all_eq_true.1 hs ρ hρ) (fun k d v hk e => hj.val k d v e (dep hi hk)) (fun k d e => by simp [slotV, e]) hj.inv)
    obtain ⟨h1, h2⟩ := h
    obtain ⟨ρ, hρ⟩ : ∃ ρ, R[i]? = some ρ := ⟨R[i], by simp [hlen, his]⟩
    have hgd : ∀ k, (listed.setIfInBounds i true).getD k false = if k = i then true else listed.getD k false := fun k => by
      by_cases e : k = i
      · subst e; rw [set_self hi]; simp
      · rw [gset (fun e' => e e'.symm)]; simp [e]
    rw [hρ] at h2
    cases ρ with
    | val d v =>
      obtain ⟨h2, h3⟩ := h2
      obtain ⟨q1, q2⟩ := hkey hρ rfl
      obtain ⟨e1, e2⟩ := evs a a' d v h2
      have e2 := e2 (by rw [hj.size]; exact q1)
      refine ⟨h1, by rw [h2]; simpa using hj.size, fun s hs => ?_, fun k e u hk hl => ?_, ?_⟩
      · rw [e1 s fun e => hs _ (List.mem_iff_getElem?.2 ⟨i, hρ⟩) (by rw [e]; rfl)]; exact hj.old s hs
      · by_cases ek : k = i
        · subst ek; rw [hρ] at hk; cases hk; exact e2
        · rw [hgd k, if_neg ek] at hl
          have hne := q2 k _ ek hk
          rw [e1 e fun e' => hne (by rw [e']; rfl)]
          exact hj.val k e u hk hl
      · have eL : (fun k => (listed.setIfInBounds i true).getD k false && nvG R k) = fun k => listed.getD k false && nvG R k := by
          funext k
          rw [hgd k]
          by_cases ek : k = i
          · subst ek; simp [nvG, hρ]
          · simp [ek]
        have eV : slotV R a' = slotV R a := by
          funext k
          unfold slotV
          split
          · next d' hk =>
            have hne := q2 k _ (fun e => by subst e; rw [hρ] at hk; cases hk) hk
            exact e1 d' fun e' => hne (by rw [e']; rfl)
          · rfl
        rw [eL, eV]
        exact h3
    | any d =>
      obtain ⟨v, h2, h3⟩ := h2
      obtain ⟨q1, q2⟩ := hkey hρ rfl
      obtain ⟨e1, e2⟩ := evs a a' d v h2
      have e2 := e2 (by rw [hj.size]; exact q1)
      refine ⟨h1, by rw [h2]; simpa using hj.size, fun s hs => ?_, fun k e u hk hl => ?_, ?_⟩
      · rw [e1 s fun e => hs _ (List.mem_iff_getElem?.2 ⟨i, hρ⟩) (by rw [e]; rfl)]; exact hj.old s hs
      · have ek : k ≠ i := fun ek => by subst ek; rw [hρ] at hk; cases hk
        rw [hgd k, if_neg ek] at hl
        have hne := q2 k _ ek hk
        rw [e1 e fun e' => hne (by rw [e']; rfl)]
        exact hj.val k e u hk hl
      · have eL : (fun k => (listed.setIfInBounds i true).getD k false && nvG R k) = updB (fun k => listed.getD k false && nvG R k) i := by
          funext k
          rw [hgd k]
          unfold updB
          by_cases ek : k = i
          · subst ek; simp [nvG, hρ]
          · simp [ek]
        have eV : slotV R a' = updV (slotV R a) i v := by
          funext k
          unfold updV
          by_cases ek : k = i
          · subst ek; simp only [if_true]; unfold slotV; rw [hρ]; exact e2
          · rw [if_neg ek]
            unfold slotV
            split
            · next d' hk =>
              have hne := q2 k _ ek hk
              exact e1 d' fun e' => hne (by rw [e']; rfl)
            · rfl
        rw [eL, eV]
        exact h3
    | st =>
      obtain ⟨h2, h3⟩ := h2
      have e1 := same a a' h2
      refine ⟨h1, by rw [h2]; exact hj.size, fun s hs => by rw [e1]; exact hj.old s hs, fun k e u hk hl => ?_, ?_⟩
      · have ek : k ≠ i := fun ek => by subst ek; rw [hρ] at hk; cases hk
        rw [hgd k, if_neg ek] at hl
        rw [e1]
        exact hj.val k e u hk hl
      · have eL : (fun k => (listed.setIfInBounds i true).getD k false && nvG R k) = updB (fun k => listed.getD k false && nvG R k) i := by
          funext k
          rw [hgd k]
          unfold updB
          by_cases ek : k = i
          · subst ek; simp [nvG, hρ]
          · simp [ek]
        have eV : slotV R a' = slotV R a := by
          funext k
          unfold slotV
          split
          · exact e1 _
          · rfl
        rw [eL, eV]
        exact h3
  · have hin : ∀ i, nvG R i = true → i < ops.size := fun i h => by
      rcases Nat.lt_or_ge i R.length with h' | h'
      · omega
      · unfold nvG at h
        rw [List.getElem?_eq_none h'] at h
        cases h
    have h1 := hE _ _ w (fun i hi => by simp [hall i (hin i hi), hi]) hj.inv
    have e0 : (outsG (slotV R a) R 0).foldl (fun (t : Array Value) (x : Nat × Value) => t.setIfInBounds x.1 x.2) a0.tmps = a.tmps := by
      refine fold_set a _ a0.tmps (by rw [hz, hj.size]) (fun x hx => ?_) fun s hs => (hj.old s fun ρ hρ e => ?_).symm
      · obtain ⟨k, h | ⟨h, h2⟩⟩ := outsG_mem hx
        · have hk : k < ops.size := by
            rcases Nat.lt_or_ge k R.length with h' | h'
            · omega
            · rw [List.getElem?_eq_none h'] at h; cases h
          exact hj.val k _ _ h (hall k hk)
        · rw [h2, Nat.zero_add]
          simp [slotV, h]
      · obtain ⟨k, hk⟩ := List.mem_iff_getElem?.1 hρ
        obtain ⟨v, hv⟩ := outsG_has (V := slotV R a) (i := 0) (k := k) (d := s) (by rw [hk]; exact e)
        exact hs _ hv rfl
    rw [e0] at h1
    obtain ⟨t, d⟩ := a
    have := hj.defers
    simp only at this
    subst this
    exact h1
end
end Go.Proofs.YtlabfeofejemjaaGreat
end
