/- A part of the proof that ArrowPairs returns true for every input: no further condition. -/
import Derived.Test.YtnehjneldpinmaaGreatGp3
section
set_option linter.unusedVariables false
set_option linter.unusedSimpArgs false
namespace Go.Proofs.YtnehjneldpinmaaGreat
open Go.RowKit
theorem wrap_small (k : Nat) (h : k ≤ 100) : IntKind.wrap .i64 ((k : Int) + 1) = (k : Int) + 1 := by
  simp [IntKind.wrap, IntKind.signed, IntKind.bits]
  omega
set_option maxHeartbeats 4000000 in
set_option maxRecDepth 100000 in
theorem pairs_walk (rs rl rw many : Int) (A : Option Addr) (n c : Nat) (sh : Nat → Shaft) (bits : Int) (W : World) (hc : n ≤ c) (hsh : Hid (ShaftsAt W A n sh)) :
    A3r0.wpIn Fc 0 Tryz.prog (Through (P0 W)) { tmps := #[stockV rs rl rw many A n c, .int .u16 bits] ++ Array.replicate 100 undef, defers := [] } W := by
  have hB1 : ∀ x, Below W.heap.size W (W.alloc x) := fun x => (Below.refl _ _).alloc (Nat.le_refl _) _
  have HB1 := Lib.hid hB1
  clear hB1
  simp only [A3r0, A3, Tryz.f3, lft, rgt]
  simp only [List.size_toArray, List.length_cons, List.length_nil, Nat.reduceAdd, Nat.reduceSub, Array.replicate_succ, Array.replicate_zero, List.push_toArray, List.append_toArray, List.nil_append, List.cons_append]
  gi_wp2
  change P0 W _ _
  unfold P0
  simp only [A3r1, A3, Tryz.f3, lft, rgt]
  gi_wp2_with (first
    | (gi_at_call 4; refine (Fit_any _ _ _ _ _ _ _ sh _ hc (Lib.hid (hsh.out.below (HB1.out _)))).mono ?_; rintro e w2 ⟨fit, rfl, hfit, hb2⟩
       have e0 : w2.cell? ⟨W.heap.size, 0, none⟩ = some (.int .i64 rs) := Below.old hb2 (by go_simp)
       have e1 : w2.cell? ⟨W.heap.size, 1, none⟩ = some (.int .i64 rl) := Below.old hb2 (by go_simp)
       have e2 : w2.cell? ⟨W.heap.size, 2, none⟩ = some (.int .i64 rw) := Below.old hb2 (by go_simp)
       have e3 : w2.cell? ⟨W.heap.size, 3, none⟩ = some (.int .i64 many) := Below.old hb2 (by go_simp)
       have e4 : w2.cell? ⟨W.heap.size, 4, none⟩ = some (.slice A n c) := Below.old hb2 (by go_simp)
       have HB2 := Lib.hid ((HB1.out _).trans (hb2.mono (HB1.out _).size))
       clear hb2))
  change P1 W _ _
  refine ⟨fit, rfl, fun hf => ?_, rfl, rfl, HB2.out⟩
  subst hf
  have hst := Lib.hid (hfit rfl)
  clear hfit
  have hn := hst.out.count
  unfold PA
  simp only [A3c1, A3, Tryz.f3, lft, rgt]
  gi_wp2
  change PB W _ _
  unfold PB
  simp only [A3r3, A3, Tryz.f3, lft, rgt]
  gi_wp2_with (first
    | (gi_at_call 6; refine (Listed_any _ _ _ _ _ _ _ _ _ hn hc).mono ?_; rintro e w3 ⟨xs, LA, lc, rfl, h1, h2, h3, h4, h5, hb3⟩
       have e0 := Below.old hb3 e0
       have e1 := Below.old hb3 e1
       have e2 := Below.old hb3 e2
       have e3 := Below.old hb3 e3
       have e4 := Below.old hb3 e4
       have HB3 := Lib.hid (HB2.out.trans (hb3.mono HB2.out.size))
       have H3 := Lib.hid h3
       have H4 := Lib.hid h4
       have H5 := Lib.hid h5
       clear hb3 h3 h4 h5))
  have hl : ∀ k, k < xs.length → xs.getD k 0 < n := fun k hk => H4.out _ (by rw [List.getD_eq_getElem?_getD, List.getElem?_eq_getElem hk]; exact List.getElem_mem hk)
  have ha : ∀ j k, j < k → k < xs.length → xs.getD j 0 < xs.getD k 0 := fun j k hj hk => by
    have := List.pairwise_iff_getElem.1 H3.out j k (by omega) hk hj
    simpa [List.getD_eq_getElem?_getD, List.getElem?_eq_getElem hk, List.getElem?_eq_getElem (show j < xs.length by omega)] using this
  obtain ⟨l, hle⟩ : ∃ l : Nat → Nat, ∀ k, l k = xs.getD k 0 := ⟨_, fun _ => rfl⟩
  have HL : Hid (∀ k, k < xs.length → l k < n) := Lib.hid fun k hk => by rw [hle]; exact hl k hk
  have HA : Hid (∀ j k, j < k → k < xs.length → l j < l k) := Lib.hid fun j k hj hk => by rw [hle, hle]; exact ha j k hj hk
  have H5 : Hid (IntsAt w3 LA xs.length fun k => (l k : Int)) := Lib.hid (by rw [show (fun k => ((l k : Nat) : Int)) = fun k => ((xs.getD k 0 : Nat) : Int) from funext fun k => by rw [hle]]; exact H5.out)
  clear hl ha H3 H4 hle
  change PC W _ _
  unfold PC
  simp only [A3r4, A3, Tryz.f3, lft, rgt]
  generalize xs.length = m at *
  gi_wp2_with (first
    | (gi_at_call 7; refine (Match_any rs rl rw many A n c sh LA m lc l _ hc hst (Lib.hid (hsh.out.below HB3.out)) (by omega) h1 HL HA H5).mono ?_; rintro e w4 ⟨rfl, hb4⟩
       have e0 := Below.old hb4 e0
       have e1 := Below.old hb4 e1
       have e2 := Below.old hb4 e2
       have e3 := Below.old hb4 e3
       have e4 := Below.old hb4 e4
       have HB4 := Lib.hid (HB3.out.trans (hb4.mono HB3.out.size))
       have H6 := Lib.hid (H5.out.below hb4)
       clear hb4))
  change PD W _ _
  unfold PD
  simp only [A3r5, A3, Tryz.f3, lft, rgt]
  gi_wp2
  change PE W _ _
  unfold PE
  simp only [A3lp, A3, Tryz.f3, lft, rgt]
  generalize hR : PF W = R
  have HR := Lib.hid hR
  clear hR
  gi_wp2
  gi_loopw [8, 9, 10] (fun av nv iv wr => ∃ (i : Nat) (al no : Bool), i ≤ m ∧ iv = .int .i64 i ∧ av = .bool al ∧ nv = .bool no ∧ Gathered (fun x y => pairZ rs rl rw (sh x) (sh y)) l m i (i + 1) al no ∧ Below w4.heap.size w4 wr) (fun _ _ iv _ => m - (intOf iv).toNat)
  case atStart => exact ⟨0, true, false, by omega, rfl, rfl, rfl, Gathered.zero _ _ _, Below.refl _ _⟩
  case round =>
    obtain ⟨i, al, no, hi, rfl, rfl, rfl, hg, hb⟩ := hrel
    have e0 := Below.old hb e0
    have e1 := Below.old hb e1
    have e2 := Below.old hb e2
    have e3 := Below.old hb e3
    have e4 := Below.old hb e4
    have H7 := Lib.hid (H6.out.below hb)
    have HB5 := Lib.hid hb
    have HG := Lib.hid hg
    have HBW := Lib.hid (HB4.out.trans (hb.mono HB4.out.size))
    clear hb hg
    by_cases hlt : i < m
    · obtain ⟨b, o, rfl, hci⟩ := H7.out i hlt
      have hxi := HL.out i hlt
      have hilc : i + 1 ≤ lc := by omega
      have hilc2 : (i : Int) + 1 ≤ lc := by omega
      have hilc3 : (i : Int) ≤ lc := by omega
      have hilc4 : (0 : Int) ≤ (i : Int) + 1 := by omega
      have hi9 : i < 9 := by omega
      have hw := wrap_small i (by omega)
      have hilc5 : ¬ lc = i := by omega
      gi_wp2
      gi_region_with (first
        | (gi_at_call 7; refine (Match_one rs rl rw many A n c sh b (o + i) (lc - i) (l i) _ hc hst (Lib.hid (hsh.out.below HBW.out.drew)) hxi (by omega) hci).mono ?_; rintro e w5 ⟨rfl, hb5⟩
           have f0 : w5.cell? ⟨W.heap.size, 0, none⟩ = some (.int .i64 rs) := Below.old hb5 e0
           have f1 : w5.cell? ⟨W.heap.size, 1, none⟩ = some (.int .i64 rl) := Below.old hb5 e1
           have f2 : w5.cell? ⟨W.heap.size, 2, none⟩ = some (.int .i64 rw) := Below.old hb5 e2
           have f3 : w5.cell? ⟨W.heap.size, 3, none⟩ = some (.int .i64 many) := Below.old hb5 e3
           have f4 : w5.cell? ⟨W.heap.size, 4, none⟩ = some (.slice A n c) := Below.old hb5 e4
           have H8 := Lib.hid (IntsAt.below (W := wr.drew) hb5 H7.out)
           have HB6 := Lib.hid (HB5.out.drew.trans (hb5.mono HB5.out.size))
           have HBX := Lib.hid (HBW.out.drew.trans (hb5.mono HBW.out.size))
           clear hb5))
      all_goals
        clear e0 e1 e2 e3 e4 hci H7 HBW HB5
        gi_wp2
        rename_i wq0
        gi_loopw [8, 9, 13] (fun av nv kv wr => ∃ (k : Nat) (al no : Bool), i < k ∧ k ≤ m ∧ kv = .int .i64 k ∧ av = .bool al ∧ nv = .bool no ∧ Gathered (fun x y => pairZ rs rl rw (sh x) (sh y)) l m i k al no ∧ Below w5.heap.size w5 wr) (fun _ _ kv _ => m - (intOf kv).toNat)
        case atStart => exact ⟨i + 1, al, no, by omega, by omega, by go_num, rfl, rfl, HG.out, Below.refl _ _⟩
        case round =>
          obtain ⟨k, al, no, hik, hk, rfl, rfl, rfl, hg, hb⟩ := hrel
          have g0 := Below.old hb f0
          have g1 := Below.old hb f1
          have g2 := Below.old hb f2
          have g3 := Below.old hb f3
          have g4 := Below.old hb f4
          have H9 := Lib.hid (H8.out.below hb)
          have HB7 := Lib.hid hb
          have HGI := Lib.hid hg
          have HBY := Lib.hid (HBX.out.trans (hb.mono HBX.out.size))
          clear hb hg
          by_cases hlk : k < m
          · obtain ⟨b', o', e', hci⟩ := H9.out i hlt
            cases e'
            obtain ⟨b', o', e', hck⟩ := H9.out k hlk
            cases e'
            have hlb : b < wr.heap.size := World.block_lt_of_cell? wr _ hci
            have hl0 : W.heap.size < wr.heap.size := World.block_lt_of_cell? wr _ g0
            have hxk := HL.out k hlk
            have hik2 := HA.out i k hik hlk
            have hk9 : k < 9 := by omega
            have hwk := wrap_small k (by omega)
            gi_wp2
            gi_region_with (first
                | (gi_at_call 7; refine (Match_two rs rl rw many A n c sh wr.heap.size 2 (l i) (l k) _ hc hst (Lib.hid (hsh.out.below (HBY.out.alloc HBY.out.size _).drew)) hik2 hxk (Nat.le_refl _) (by go_simp) (by go_simp)).mono ?_; rintro e w6 ⟨x, rfl, hx1, hx2, hb6⟩
                   have HX1 := Lib.hid hx1
                   have HX2 := Lib.hid hx2
                   have HB8 := Lib.hid ((HB7.out.alloc HB7.out.size _).drew.trans (hb6.mono (HB7.out.alloc HB7.out.size _).drew.size))
                   clear hb6 hx1 hx2))
            all_goals (cases al <;> cases no)
            all_goals
              gi_wp2
              go_roundw
              case rel =>
                refine ⟨k + 1, _, _, by omega, by omega, by go_num, rfl, rfl, ?_, HB8.out⟩
                have := HGI.out.pair hik hlk HX1.out HX2.out
                simpa using this
              case measure => simp [intOf]; omega
          · gi_wp2
            go_roundw
            case rel => exact ⟨i + 1, al, no, by omega, by go_num, rfl, rfl, HGI.out.round (by omega), HB6.out.trans (HB7.out.mono HB6.out.size)⟩
            case measure => simp [intOf]; omega
    · gi_wp2
      obtain rfl : i = m := by omega
      change R _ _
      rw [← HR.out]
      exact pf_of _ _ _ _ _ _ _ _ _ _ _ _ _ _ _ _ _ _ _ _ _ _ _ _ _ _ _ _ _ _ _ _ _ _ _ _ _ _ _ _ _ _ _ _ _ _ _ _ _ _ _ _ _ _ _ _ _ _ _ _ _ _ _ _ _ _ _ _ _ _ _ _ _ _ _ _ _ _ _ _ _ _ _ _ _ _ _ _ _ _ _ _ _ _ _ _ _ _ _ _ _ _ _ HBW HG.out.cases
end Go.Proofs.YtnehjneldpinmaaGreat
end
