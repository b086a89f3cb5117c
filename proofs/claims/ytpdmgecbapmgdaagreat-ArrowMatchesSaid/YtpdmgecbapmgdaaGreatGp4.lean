/- A part of the proof that ArrowMatches returns true for every input: no further condition. -/
import Derived.Test.YtpdmgecbapmgdaaGreatGp3
import Derived.Stop.RegionWithIn
import Derived.Test.YtpdmgecbapmgdaaGreatCx9
import Derived.Conc.Own4
import Derived.Test.YtpdmgecbapmgdaaGreatGp2
set_option linter.unusedSimpArgs false
set_option linter.unusedVariables false
set_option maxHeartbeats 2000000
set_option maxRecDepth 100000
section
namespace Go.Proofs.YtpdmgecbapmgdaaGreat
open Go.RowKit
theorem indexFunc_no20 (A : Option Addr) (n m c : Nat) (sh : Nat → Shaft) (q : Nat) (t : ByteArray) (W : World) (hn : m ≤ 20) (hmn : m ≤ n) (hsh : Hid (ShaftsAt W A n sh)) (hq : Hid (W.cell? ⟨q, 0, none⟩ = some (.string t)))
    (hne : Hid (∀ k, k < m → ((sh k).name.toList == t.toList) = false)) :
    CallsIn Fc 0 Tryz.prog 172 #[.slice A m c, .func (.func 160) #[] #[ptr q]] W (SaysInt (-1) W) := by
  gi_enter Tryz.func172, Tryz.ntmps172
  gi_wp2
  gi_loopw [8] (fun i wr => ∃ k : Nat, k ≤ m ∧ i = .int .i64 k ∧ Below W.heap.size W wr) (fun i _ => m - (intOf i).toNat)
  case atStart => exact ⟨0, Nat.zero_le _, rfl, Below.refl _ _⟩
  case round =>
    obtain ⟨k, hk, rfl, hb⟩ := hrel
    by_cases hlt : k < m
    · obtain ⟨b, o, rfl, hx⟩ := hsh.out k (by omega)
      obtain ⟨e0, e1, e2, e3, e4, e5, e6⟩ := hx.below hb
      have HQ := Lib.hid (Below.old hb hq.out)
      gi_wp2_with (gi_at_call 160; refine (same_no _ _ t _ HQ.out (hne.out k hlt)).mono ?_; rintro e w' ⟨rfl, hb1⟩)
      go_roundw
      case rel => exact ⟨k + 1, by omega, by go_num, hb.trans (hb1.mono hb.size)⟩
      case measure => simp [intOf]; omega
    · gi_wp2
      go_ret
      exact ⟨rfl, hb⟩
theorem contains_no20 (A : Option Addr) (n m c : Nat) (sh : Nat → Shaft) (q : Nat) (t : ByteArray) (W : World) (hn : m ≤ 20) (hmn : m ≤ n) (hsh : Hid (ShaftsAt W A n sh)) (hq : Hid (W.cell? ⟨q, 0, none⟩ = some (.string t)))
    (hne : Hid (∀ k, k < m → ((sh k).name.toList == t.toList) = false)) :
    CallsIn Fc 0 Tryz.prog 161 #[.slice A m c, .func (.func 160) #[] #[ptr q]] W (SaysBool false W) := by
  gi_enter Tryz.func161, Tryz.ntmps161
  gi_wp2_with (gi_at_call 172; refine (indexFunc_no20 A n m c sh q t _ hn hmn hsh hq hne).mono ?_; rintro e w' ⟨rfl, hb1⟩)
  go_ret
  exact ⟨rfl, hb1⟩
theorem same_yes (x : Shaft) (q : Nat) (t : ByteArray) (w : World) (hq : w.cell? ⟨q, 0, none⟩ = some (.string t)) (hne : (x.name.toList == t.toList) = true) :
    CallsIn Fc 0 Tryz.prog 160 #[shaftV x, ptr q] w (SaysBool true w) := by
  have hql : q < w.heap.size := World.block_lt_of_cell? w _ hq
  gi_enter Tryz.func160, Tryz.ntmps160
  gi_wp2
  go_ret
  exact ⟨rfl, (Below.refl _ _).alloc (Nat.le_refl _) _⟩
theorem indexFunc_yes (A : Option Addr) (n m c j0 : Nat) (sh : Nat → Shaft) (q : Nat) (t : ByteArray) (W : World) (hn : m ≤ 20) (hmn : m ≤ n) (hsh : Hid (ShaftsAt W A n sh)) (hq : Hid (W.cell? ⟨q, 0, none⟩ = some (.string t)))
    (hj0 : j0 < m) (hy : Hid (((sh j0).name.toList == t.toList) = true)) (hne : Hid (∀ k, k < j0 → ((sh k).name.toList == t.toList) = false)) :
    CallsIn Fc 0 Tryz.prog 172 #[.slice A m c, .func (.func 160) #[] #[ptr q]] W (SaysInt j0 W) := by
  gi_enter Tryz.func172, Tryz.ntmps172
  gi_wp2
  gi_loopw [8] (fun i wr => ∃ k : Nat, k ≤ j0 ∧ i = .int .i64 k ∧ Below W.heap.size W wr) (fun i _ => m - (intOf i).toNat)
  case atStart => exact ⟨0, Nat.zero_le _, rfl, Below.refl _ _⟩
  case round =>
    obtain ⟨k, hk, rfl, hb⟩ := hrel
    have hkm : k < m := by omega
    obtain ⟨b, o, rfl, hx⟩ := hsh.out k (by omega)
    obtain ⟨e0, e1, e2, e3, e4, e5, e6⟩ := hx.below hb
    have HQ := Lib.hid (Below.old hb hq.out)
    by_cases hlt : k < j0
    · gi_wp2_with (gi_at_call 160; refine (same_no _ _ t _ HQ.out (hne.out k hlt)).mono ?_; rintro e w' ⟨rfl, hb1⟩)
      go_roundw
      case rel => exact ⟨k + 1, by omega, by go_num, hb.trans (hb1.mono hb.size)⟩
      case measure => simp [intOf]; omega
    · obtain rfl : k = j0 := by omega
      gi_wp2_with (gi_at_call 160; refine (same_yes _ _ t _ HQ.out hy.out).mono ?_; rintro e w' ⟨rfl, hb1⟩)
      go_ret
      exact ⟨rfl, hb.trans (hb1.mono hb.size)⟩
theorem contains_yes (A : Option Addr) (n m c j0 : Nat) (sh : Nat → Shaft) (q : Nat) (t : ByteArray) (W : World) (hn : m ≤ 20) (hmn : m ≤ n) (hsh : Hid (ShaftsAt W A n sh)) (hq : Hid (W.cell? ⟨q, 0, none⟩ = some (.string t)))
    (hj0 : j0 < m) (hy : Hid (((sh j0).name.toList == t.toList) = true)) (hne : Hid (∀ k, k < j0 → ((sh k).name.toList == t.toList) = false)) :
    CallsIn Fc 0 Tryz.prog 161 #[.slice A m c, .func (.func 160) #[] #[ptr q]] W (SaysBool true W) := by
  have h0 : (0 : Int) ≤ j0 := Int.natCast_nonneg _
  gi_enter Tryz.func161, Tryz.ntmps161
  gi_wp2_with (gi_at_call 172; refine (indexFunc_yes A n m c j0 sh q t _ hn hmn hsh hq hj0 hy hne).mono ?_; rintro e w' ⟨rfl, hb1⟩)
  go_ret
  exact ⟨rfl, hb1⟩
theorem checkShaft_spans (rs rl rw many : Int) (b o n c k : Nat) (sh : Nat → Shaft) (W : World) (hk : k < n) (hn : n ≤ 20) (hc : n ≤ c) (hsh : Hid (ShaftsAt W (some ⟨b, o, none⟩) n sh)) (hln : (sh k).name.size ≤ 200) (hnm : Hid (NameOk (sh k).name)) (hno : Hid (∀ j, j < k → ((sh j).name.toList == (sh k).name.toList) = false)) :
    CallsIn Fc 0 Tryz.prog 138 #[.agg #[.int .i64 rs, .int .i64 rl, .int .i64 rw, .int .i64 many, .slice (some ⟨b, o, none⟩) n c], .int .i64 k] W (SaysInt (firstZ (fun u => outZ (spanA (sh k) u) (spanB (sh k) u) 0 9999) 3) W) := by
  obtain ⟨i0, hi, hz0, hz1, hz2⟩ := info_parts i101
  have HI := Lib.hid hi
  have HZ0 := Lib.hid hz0
  have HZ1 := Lib.hid hz1
  have HZ2 := Lib.hid hz2
  clear hi hz0 hz1 hz2
  have hx : ShaftAt W b (o + k * 7) (sh k) := by
    obtain ⟨b', o', e, h⟩ := hsh.out k hk
    cases e; exact h
  have hbl := hx.lt
  obtain ⟨e0, e1, e2, e3, e4, e5, e6⟩ := hx
  gi_enter Tryz.func138, Tryz.ntmps138
  have hW2 : Below W.heap.size W ((W.alloc (.cells #[.int .i64 rs, .int .i64 rl, .int .i64 rw, .int .i64 many, .slice (some ⟨b, o, none⟩) n c] 99)).alloc
      (.cells #[.string (sh k).name, .int .i64 (sh k).s0, .int .i64 (sh k).s1, .int .i64 (sh k).l0, .int .i64 (sh k).l1, .int .i64 (sh k).w0, .int .i64 (sh k).w1] 65)) :=
    ((Below.refl _ _).alloc (Nat.le_refl _) _).alloc (by simp) _
  have HW2 := Lib.hid hW2
  clear hW2
  gi_wp2_with (first
    | (gi_at_call 159; refine (isName2_any _ _ hln).mono ?_; rintro e w' ⟨nb, rfl, hnb, rfl⟩; obtain rfl : nb = true := hnb.2 hnm.out; clear hnb)
    | (gi_at_call 161; refine (contains_no20 _ n k c sh _ (sh k).name _ (by omega) (by omega) (Lib.hid (hsh.out.below HW2.out)) (Lib.hid (by go_simp)) hno).mono ?_; rintro e w2 ⟨rfl, hb2⟩)
    | (gi_at_call 65; refine (measures_any _).mono ?_; rintro e w' ⟨rfl, rfl⟩))
  have p1 : w2.cell? ⟨W.heap.size + 1, 1, none⟩ = some (.int .i64 (sh k).s0) := Below.old hb2 (by go_simp)
  have p2 : w2.cell? ⟨W.heap.size + 1, 2, none⟩ = some (.int .i64 (sh k).s1) := Below.old hb2 (by go_simp)
  have p3 : w2.cell? ⟨W.heap.size + 1, 3, none⟩ = some (.int .i64 (sh k).l0) := Below.old hb2 (by go_simp)
  have p4 : w2.cell? ⟨W.heap.size + 1, 4, none⟩ = some (.int .i64 (sh k).l1) := Below.old hb2 (by go_simp)
  have p5 : w2.cell? ⟨W.heap.size + 1, 5, none⟩ = some (.int .i64 (sh k).w0) := Below.old hb2 (by go_simp)
  have p6 : w2.cell? ⟨W.heap.size + 1, 6, none⟩ = some (.int .i64 (sh k).w1) := Below.old hb2 (by go_simp)
  have hz2 : W.heap.size + 1 < w2.heap.size := by have := hb2.size; simp at this; omega
  have HB2 := Lib.hid hb2
  clear hb2
  gi_loopw [7, 30] (fun sl i wr => ∃ (j : Nat) (vs : List Value), j ≤ 3 ∧ i = .int .i64 j ∧ wr.ownsRow (w2.heap.size + 1) 101 1 sl j vs ∧ (∀ u, u < j → ∃ v, vs[u]? = some v ∧ Spn v (spanA (sh k) u) (spanB (sh k) u) 0 9999 wr) ∧
      Below (w2.heap.size + 1) (w2.alloc (.cells measuresV 119)) wr) (fun _ i _ => 3 - (intOf i).toNat)
  case atStart => exact ⟨0, [], by omega, rfl, ⟨rfl, .inl ⟨rfl, rfl⟩⟩, (fun j h => absurd h (by omega)), Below.refl _ _⟩
  case round =>
    obtain ⟨j, vs, hj, rfl, hown, hvs, hb⟩ := hrel
    have c1 : wr.cell? ⟨W.heap.size + 1, 1, none⟩ = some (.int .i64 (sh k).s0) := by rw [hb.cell (by simp; omega)]; go_simp
    have c2 : wr.cell? ⟨W.heap.size + 1, 2, none⟩ = some (.int .i64 (sh k).s1) := by rw [hb.cell (by simp; omega)]; go_simp
    have c3 : wr.cell? ⟨W.heap.size + 1, 3, none⟩ = some (.int .i64 (sh k).l0) := by rw [hb.cell (by simp; omega)]; go_simp
    have c4 : wr.cell? ⟨W.heap.size + 1, 4, none⟩ = some (.int .i64 (sh k).l1) := by rw [hb.cell (by simp; omega)]; go_simp
    have c5 : wr.cell? ⟨W.heap.size + 1, 5, none⟩ = some (.int .i64 (sh k).w0) := by rw [hb.cell (by simp; omega)]; go_simp
    have c6 : wr.cell? ⟨W.heap.size + 1, 6, none⟩ = some (.int .i64 (sh k).w1) := by rw [hb.cell (by simp; omega)]; go_simp
    have m0 : wr.cell? ⟨w2.heap.size, 0, none⟩ = some (.func (.func 105) #[] #[]) := by rw [hb.cell (by simp)]; simp [measuresV]
    have m1 : wr.cell? ⟨w2.heap.size, 1, none⟩ = some (.func (.func 106) #[] #[]) := by rw [hb.cell (by simp)]; simp [measuresV]
    have m2 : wr.cell? ⟨w2.heap.size, 2, none⟩ = some (.func (.func 107) #[] #[]) := by rw [hb.cell (by simp)]; simp [measuresV]
    have m3 : wr.cell? ⟨w2.heap.size, 3, none⟩ = some (.func (.func 108) #[] #[]) := by rw [hb.cell (by simp)]; simp [measuresV]
    have m4 : wr.cell? ⟨w2.heap.size, 4, none⟩ = some (.func (.func 109) #[] #[]) := by rw [hb.cell (by simp)]; simp [measuresV]
    have m5 : wr.cell? ⟨w2.heap.size, 5, none⟩ = some (.func (.func 110) #[] #[]) := by rw [hb.cell (by simp)]; simp [measuresV]
    have hz0 : w2.heap.size < wr.heap.size := by have := hb.size; simp at this; omega
    have hz1 : W.heap.size + 1 < wr.heap.size := by omega
    have HB := Lib.hid hb
    have HV := Lib.hid hvs
    have HO := Lib.hid hown
    clear hb hvs hown p1 p2 p3 p4 p5 p6
    by_cases hlt : j < 3
    · have h3 : j = 0 ∨ j = 1 ∨ j = 2 := by omega
      rcases h3 with rfl | rfl | rfl
      · gi_wp2_with (first
            | (gi_at_call 105; refine (span0_any _ _ _).mono ?_; rintro e w5 ⟨rfl, rfl⟩)
            | (gi_at_call 107; refine (span1_any _ _ _).mono ?_; rintro e w5 ⟨rfl, rfl⟩)
            | (gi_at_call 109; refine (span2_any _ _ _).mono ?_; rintro e w5 ⟨rfl, rfl⟩)
            | (gi_at_call 78; refine (spanLimits_any _ _ _ _ _).mono ?_; rintro e w3 ⟨lv, rfl, ⟨p, q, r, rfl, hp, hq, hr3⟩, hb3⟩)
            | (gi_at_builtin; refine wpListIn_append_own _ rfl _ _ 151 rfl (w2.heap.size + 1) 101 i0 .nilFunc 1 8 u151 HI.out HZ0.out HZ1.out HZ2.out rfl (by decide) _ _ _ rfl ((own_below ((HO.out).alloc _) hb3).alloc _) ⟨w3.heap.size, 0, none⟩ 1 1 [.func (.func 125) #[] #[ptr p, ptr q, ptr r]] rfl rfl (cell_one_new _ _ _) (by simp [Value.oneCell']) (by simp [maxLen]) (by decide) (by have := hb3.size; simp at *; omega) ?_; intro v' w4 hown4 hg4 hnil4))
        have hx := (own_below ((HO.out).alloc (.cells #[.func (.func 105) #[] #[], .func (.func 106) #[] #[]] 119)) hb3).alloc (.cells #[.func (.func 125) #[] #[ptr p, ptr q, ptr r]] 101)
        have hs3 := hb3.size
        simp at hs3
        go_roundw
        case rel =>
          refine ⟨0 + 1, vs ++ [.func (.func 125) #[] #[ptr p, ptr q, ptr r]], by omega, by first | rfl | go_num, hown4, vs_step HO.out.1 (fun j hj => ?_) ?_, ?_⟩
          · obtain ⟨v, h1, h2⟩ := HV.out j hj
            exact ⟨v, h1, (((h2.alloc _).below hb3).alloc _).grown hg4 (own_elem hx)⟩
          · exact (Spn.alloc ⟨p, q, r, rfl, hp, hq, hr3⟩ _).grown hg4 (own_elem hx)
          · exact ((((HB.out.alloc (by omega) _).trans (hb3.mono (by simp; omega))).alloc (by omega) _).grown hg4 (by simp; omega) (fun g hg => (hx.lt g hg).1))
        case measure => simp [intOf]
      · gi_wp2_with (first
            | (gi_at_call 105; refine (span0_any _ _ _).mono ?_; rintro e w5 ⟨rfl, rfl⟩)
            | (gi_at_call 107; refine (span1_any _ _ _).mono ?_; rintro e w5 ⟨rfl, rfl⟩)
            | (gi_at_call 109; refine (span2_any _ _ _).mono ?_; rintro e w5 ⟨rfl, rfl⟩)
            | (gi_at_call 78; refine (spanLimits_any _ _ _ _ _).mono ?_; rintro e w3 ⟨lv, rfl, ⟨p, q, r, rfl, hp, hq, hr3⟩, hb3⟩)
            | (gi_at_builtin; refine wpListIn_append_own _ rfl _ _ 151 rfl (w2.heap.size + 1) 101 i0 .nilFunc 1 8 u151 HI.out HZ0.out HZ1.out HZ2.out rfl (by decide) _ _ _ rfl ((own_below ((HO.out).alloc _) hb3).alloc _) ⟨w3.heap.size, 0, none⟩ 1 1 [.func (.func 125) #[] #[ptr p, ptr q, ptr r]] rfl rfl (cell_one_new _ _ _) (by simp [Value.oneCell']) (by simp [maxLen]) (by decide) (by have := hb3.size; simp at *; omega) ?_; intro v' w4 hown4 hg4 hnil4))
        have hx := (own_below ((HO.out).alloc (.cells #[.func (.func 107) #[] #[], .func (.func 108) #[] #[]] 119)) hb3).alloc (.cells #[.func (.func 125) #[] #[ptr p, ptr q, ptr r]] 101)
        have hs3 := hb3.size
        simp at hs3
        go_roundw
        case rel =>
          refine ⟨1 + 1, vs ++ [.func (.func 125) #[] #[ptr p, ptr q, ptr r]], by omega, by first | rfl | go_num, hown4, vs_step HO.out.1 (fun j hj => ?_) ?_, ?_⟩
          · obtain ⟨v, h1, h2⟩ := HV.out j hj
            exact ⟨v, h1, (((h2.alloc _).below hb3).alloc _).grown hg4 (own_elem hx)⟩
          · exact (Spn.alloc ⟨p, q, r, rfl, hp, hq, hr3⟩ _).grown hg4 (own_elem hx)
          · exact ((((HB.out.alloc (by omega) _).trans (hb3.mono (by simp; omega))).alloc (by omega) _).grown hg4 (by simp; omega) (fun g hg => (hx.lt g hg).1))
        case measure => simp [intOf]
      · gi_wp2_with (first
            | (gi_at_call 105; refine (span0_any _ _ _).mono ?_; rintro e w5 ⟨rfl, rfl⟩)
            | (gi_at_call 107; refine (span1_any _ _ _).mono ?_; rintro e w5 ⟨rfl, rfl⟩)
            | (gi_at_call 109; refine (span2_any _ _ _).mono ?_; rintro e w5 ⟨rfl, rfl⟩)
            | (gi_at_call 78; refine (spanLimits_any _ _ _ _ _).mono ?_; rintro e w3 ⟨lv, rfl, ⟨p, q, r, rfl, hp, hq, hr3⟩, hb3⟩)
            | (gi_at_builtin; refine wpListIn_append_own _ rfl _ _ 151 rfl (w2.heap.size + 1) 101 i0 .nilFunc 1 8 u151 HI.out HZ0.out HZ1.out HZ2.out rfl (by decide) _ _ _ rfl ((own_below ((HO.out).alloc _) hb3).alloc _) ⟨w3.heap.size, 0, none⟩ 1 1 [.func (.func 125) #[] #[ptr p, ptr q, ptr r]] rfl rfl (cell_one_new _ _ _) (by simp [Value.oneCell']) (by simp [maxLen]) (by decide) (by have := hb3.size; simp at *; omega) ?_; intro v' w4 hown4 hg4 hnil4))
        have hx := (own_below ((HO.out).alloc (.cells #[.func (.func 109) #[] #[], .func (.func 110) #[] #[]] 119)) hb3).alloc (.cells #[.func (.func 125) #[] #[ptr p, ptr q, ptr r]] 101)
        have hs3 := hb3.size
        simp at hs3
        go_roundw
        case rel =>
          refine ⟨2 + 1, vs ++ [.func (.func 125) #[] #[ptr p, ptr q, ptr r]], by omega, by first | rfl | go_num, hown4, vs_step HO.out.1 (fun j hj => ?_) ?_, ?_⟩
          · obtain ⟨v, h1, h2⟩ := HV.out j hj
            exact ⟨v, h1, (((h2.alloc _).below hb3).alloc _).grown hg4 (own_elem hx)⟩
          · exact (Spn.alloc ⟨p, q, r, rfl, hp, hq, hr3⟩ _).grown hg4 (own_elem hx)
          · exact ((((HB.out.alloc (by omega) _).trans (hb3.mono (by simp; omega))).alloc (by omega) _).grown hg4 (by simp; omega) (fun g hg => (hx.lt g hg).1))
        case measure => simp [intOf]
    · obtain rfl : j = 3 := by omega
      obtain ⟨g, cap, rfl, hg1, hg2⟩ := HO.out.form (by omega)
      have hB4 : Below W.heap.size W wr := (HW2.out.trans (HB2.out.mono (by simp; omega))).trans ((((Below.refl w2.heap.size w2).alloc (Nat.le_refl _) _).trans (HB.out.mono (by omega))).mono (by omega))
      have HB4 := Lib.hid hB4
      clear hB4
      gi_wp2_with (gi_at_call 55; refine (firstFoul_any g 3 cap (fun u => outZ (spanA (sh k) u) (spanB (sh k) u) 0 9999) wr (by omega) (Lib.hid fun u hu => ?_)).mono ?_)
      · obtain ⟨v, h1, h2⟩ := HV.out u hu
        exact ⟨v, by rw [HO.out.cellAt u (by omega)]; exact h1, h2.is⟩
      · rintro e w5 ⟨f, rfl, hf, hb5⟩
        subst hf
        gi_wp2
        go_ret
        exact ⟨rfl, HB4.out.trans (hb5.mono HB4.out.size)⟩
end Go.Proofs.YtpdmgecbapmgdaaGreat
end
section
namespace Go.Proofs.YtpdmgecbapmgdaaGreat
open Go.RowKit
theorem first_of {P : Nat → Prop} : ∀ k : Nat, (∃ j, j < k ∧ P j) → ∃ j, j < k ∧ P j ∧ ∀ i, i < j → ¬ P i
  | 0, ⟨j, h, _⟩ => by omega
  | k + 1, ⟨j, hj, hp⟩ => by
    by_cases h : ∃ j, j < k ∧ P j
    · obtain ⟨j0, h1, h2, h3⟩ := first_of k h
      exact ⟨j0, by omega, h2, h3⟩
    · have e : j = k := by
        rcases Nat.lt_succ_iff_lt_or_eq.1 hj with h' | h'
        · exact absurd ⟨j, h', hp⟩ h
        · exact h'
      subst e
      exact ⟨j, hj, hp, fun i hi h' => h ⟨i, hi, h'⟩⟩
abbrev sameN (sh : Nat → Shaft) (j k : Nat) : Bool := (sh j).name.toList == (sh k).name.toList
open Classical in
noncomputable def shaftZ (sh : Nat → Shaft) (k : Nat) : Int :=
  if NameOk (sh k).name then (if ∃ j, j < k ∧ sameN sh j k = true then 5 else firstZ (fun u => outZ (spanA (sh k) u) (spanB (sh k) u) 0 9999) 3) else 4
theorem checkShaft_any (rs rl rw many : Int) (b o n c k : Nat) (sh : Nat → Shaft) (W : World) (hk : k < n) (hn : n ≤ 20) (hc : n ≤ c) (hsh : Hid (ShaftsAt W (some ⟨b, o, none⟩) n sh)) (hln : (sh k).name.size ≤ 200) :
    CallsIn Fc 0 Tryz.prog 138 #[.agg #[.int .i64 rs, .int .i64 rl, .int .i64 rw, .int .i64 many, .slice (some ⟨b, o, none⟩) n c], .int .i64 k] W (SaysInt (shaftZ sh k) W) := by
  by_cases hnm : NameOk (sh k).name
  · by_cases htw : ∃ j, j < k ∧ sameN sh j k = true
    · have hz : shaftZ sh k = 5 := by simp only [shaftZ, if_pos hnm, if_pos htw]
      rw [hz]
      obtain ⟨j0, hj0, hy, hne⟩ := first_of k htw
      have HNM := Lib.hid hnm
      have HY : Hid (((sh j0).name.toList == (sh k).name.toList) = true) := Lib.hid hy
      have HNE : Hid (∀ i, i < j0 → ((sh i).name.toList == (sh k).name.toList) = false) := Lib.hid fun i hi => by
        have := hne i hi
        simpa [sameN] using this
      clear hnm htw hz hy hne
      have hx : ShaftAt W b (o + k * 7) (sh k) := by
        obtain ⟨b', o', e, h⟩ := hsh.out k hk
        cases e; exact h
      have hbl := hx.lt
      obtain ⟨e0, e1, e2, e3, e4, e5, e6⟩ := hx
      gi_enter Tryz.func138, Tryz.ntmps138
      have hW2 : Below W.heap.size W ((W.alloc (.cells #[.int .i64 rs, .int .i64 rl, .int .i64 rw, .int .i64 many, .slice (some ⟨b, o, none⟩) n c] 99)).alloc
          (.cells #[.string (sh k).name, .int .i64 (sh k).s0, .int .i64 (sh k).s1, .int .i64 (sh k).l0, .int .i64 (sh k).l1, .int .i64 (sh k).w0, .int .i64 (sh k).w1] 65)) :=
        ((Below.refl _ _).alloc (Nat.le_refl _) _).alloc (by simp) _
      have HW2 := Lib.hid hW2
      clear hW2
      gi_wp2_with (first
        | (gi_at_call 159; refine (isName2_any _ _ hln).mono ?_; rintro e w' ⟨nb, rfl, hnb, rfl⟩; obtain rfl : nb = true := hnb.2 HNM.out; clear hnb)
        | (gi_at_call 161; refine (contains_yes _ n k c j0 sh _ (sh k).name _ (by omega) (by omega) (Lib.hid (hsh.out.below HW2.out)) (Lib.hid (by go_simp)) hj0 HY HNE).mono ?_; rintro e w2 ⟨rfl, hb2⟩))
      go_ret
      exact ⟨rfl, HW2.out.trans (hb2.mono HW2.out.size)⟩
    · have hz : shaftZ sh k = firstZ (fun u => outZ (spanA (sh k) u) (spanB (sh k) u) 0 9999) 3 := by simp only [shaftZ, if_pos hnm, if_neg htw]
      rw [hz]
      exact checkShaft_spans rs rl rw many b o n c k sh W hk hn hc hsh hln (Lib.hid hnm) (Lib.hid fun j hj => by
        cases h : ((sh j).name.toList == (sh k).name.toList) with
        | false => rfl
        | true => exact absurd ⟨j, hj, h⟩ htw)
  · have hz : shaftZ sh k = 4 := by simp only [shaftZ, if_neg hnm]
    rw [hz]
    have HNM := Lib.hid hnm
    clear hnm hz
    have hx : ShaftAt W b (o + k * 7) (sh k) := by
      obtain ⟨b', o', e, h⟩ := hsh.out k hk
      cases e; exact h
    have hbl := hx.lt
    obtain ⟨e0, e1, e2, e3, e4, e5, e6⟩ := hx
    gi_enter Tryz.func138, Tryz.ntmps138
    gi_wp2_with (gi_at_call 159; refine (isName2_any _ _ hln).mono ?_; rintro e w' ⟨nb, rfl, hnb, rfl⟩; obtain rfl : nb = false := Bool.eq_false_iff.2 fun h => HNM.out (hnb.1 h); clear hnb)
    go_ret
    exact ⟨rfl, ((Below.refl _ _).alloc (Nat.le_refl _) _).alloc (by simp) _⟩
theorem checkShafts_any (rs rl rw many : Int) (A : Option Addr) (n c : Nat) (sh : Nat → Shaft) (W : World) (hn : n ≤ 20) (hc : n ≤ c) (hsh : Hid (ShaftsAt W A n sh)) (hln : Hid (∀ k, k < n → (sh k).name.size ≤ 200)) :
    CallsIn Fc 0 Tryz.prog 98 #[stockV rs rl rw many A n c] W (SaysInt (firstZ (shaftZ sh) n) W) := by
  gi_enter Tryz.func98, Tryz.ntmps98
  gi_wp2
  gi_loopw [9] (fun i wr => ∃ k : Nat, k ≤ n ∧ i = .int .i64 k ∧ Below W.heap.size W wr ∧ Below (W.heap.size + 1) (W.alloc (.cells #[.int .i64 rs, .int .i64 rl, .int .i64 rw, .int .i64 many, .slice A n c] 99)) wr ∧ ∀ j, j < k → shaftZ sh j = 0) (fun i _ => n - (intOf i).toNat)
  case atStart => exact ⟨0, Nat.zero_le _, rfl, (Below.refl _ _).alloc (Nat.le_refl _) _, Below.refl _ _, fun j h => by omega⟩
  case round =>
    obtain ⟨k, hk, rfl, hb, hb', hz⟩ := hrel
    by_cases hlt : k < n
    · obtain ⟨b, o, rfl, _⟩ := hsh.out k hlt
      have c0 : wr.cell? ⟨W.heap.size, 0, none⟩ = some (.int .i64 rs) := by rw [hb'.cell (by simp)]; go_simp
      have c1 : wr.cell? ⟨W.heap.size, 1, none⟩ = some (.int .i64 rl) := by rw [hb'.cell (by simp)]; go_simp
      have c2 : wr.cell? ⟨W.heap.size, 2, none⟩ = some (.int .i64 rw) := by rw [hb'.cell (by simp)]; go_simp
      have c3 : wr.cell? ⟨W.heap.size, 3, none⟩ = some (.int .i64 many) := by rw [hb'.cell (by simp)]; go_simp
      have c4 : wr.cell? ⟨W.heap.size, 4, none⟩ = some (.slice (some ⟨b, o, none⟩) n c) := by rw [hb'.cell (by simp)]; go_simp
      have HB := Lib.hid hb
      have HB' := Lib.hid hb'
      have HZ := Lib.hid hz
      clear hb hb' hz
      have hcall := checkShaft_any rs rl rw many b o n c k sh wr hlt hn hc (Lib.hid (hsh.out.below HB.out)) (hln.out k hlt)
      by_cases h0 : shaftZ sh k = 0
      · rw [h0] at hcall
        have HZ' : Hid (∀ j, j < k + 1 → shaftZ sh j = 0) := Lib.hid fun j hj => by
          rcases Nat.lt_succ_iff_lt_or_eq.1 hj with h | rfl
          · exact HZ.out j h
          · exact h0
        clear h0
        gi_wp2_with (gi_at_call 138; refine hcall.mono ?_; rintro e w' ⟨rfl, hb1⟩)
        go_roundw
        case rel => exact ⟨k + 1, by omega, by go_num, HB.out.trans (hb1.mono HB.out.size), HB'.out.trans (hb1.mono (by have := HB'.out.size; simpa using this)), HZ'.out⟩
        case measure => simp [intOf]; omega
      · have HF : Hid (firstZ (shaftZ sh) n = shaftZ sh k) := Lib.hid (firstZ_at HZ.out h0 hlt)
        generalize shaftZ sh k = z at *
        gi_wp2_with (gi_at_call 138; refine hcall.mono ?_; rintro e w' ⟨rfl, hb1⟩)
        go_ret
        exact ⟨congrArg (fun z => Ending.returned (Value.int .i64 z)) HF.out.symm, HB.out.trans (hb1.mono HB.out.size)⟩
    · have HF : Hid (firstZ (shaftZ sh) n = 0) := Lib.hid (firstZ_zero.2 fun j hj => hz j (by omega))
      gi_wp2
      go_ret
      exact ⟨congrArg (fun z => Ending.returned (Value.int .i64 z)) HF.out.symm, hb⟩
noncomputable def stockF (rs rl rw many : Int) (n : Nat) (sh : Nat → Shaft) (i : Nat) : Int := if i = 0 then ruleZ rs rl rw many else if i = 1 then (if n ≤ 9 then 0 else 2) else firstZ (shaftZ sh) n
noncomputable def stockZ (rs rl rw many : Int) (n : Nat) (sh : Nat → Shaft) : Int := firstZ (stockF rs rl rw many n sh) 3
theorem check_any (rs rl rw many : Int) (A : Option Addr) (n c : Nat) (sh : Nat → Shaft) (W : World) (hn : n ≤ 20) (hc : n ≤ c) (hsh : Hid (ShaftsAt W A n sh)) (hln : Hid (∀ k, k < n → (sh k).name.size ≤ 200)) :
    CallsIn Fc 0 Tryz.prog 56 #[stockV rs rl rw many A n c] W (SaysInt (stockZ rs rl rw many n sh) W) := by
  have hB1 : ∀ x, Below W.heap.size W ((W.alloc (.cells #[.int .i64 rs, .int .i64 rl, .int .i64 rw, .int .i64 many, .slice A n c] 99)).alloc x) := fun x => ((Below.refl _ _).alloc (Nat.le_refl _) _).alloc (by simp) _
  have HB1 := Lib.hid hB1
  clear hB1
  gi_enter Tryz.func56, Tryz.ntmps56
  gi_wp2_with (gi_at_call 55; refine (firstFoul_any _ 3 _ (stockF rs rl rw many n sh) _ (by omega) (Lib.hid fun u hu => ?_)).mono ?_)
  · have h3 : u = 0 ∨ u = 1 ∨ u = 2 := by omega
    rcases h3 with rfl | rfl | rfl
    · exact ⟨.func (.func 96) #[stockV rs rl rw many A n c] #[], by go_simp, .inl ⟨96, _, .inl rfl, rfl, fun w' hb => checkRule_any rs rl rw many A n c w'⟩⟩
    · exact ⟨.func (.func 97) #[stockV rs rl rw many A n c] #[], by go_simp, .inl ⟨97, _, .inr (.inl rfl), rfl, fun w' hb => checkCount_any rs rl rw many A n c w' hn⟩⟩
    · exact ⟨.func (.func 98) #[stockV rs rl rw many A n c] #[], by go_simp, .inl ⟨98, _, .inr (.inr (.inl rfl)), rfl, fun w' hb => checkShafts_any rs rl rw many A n c sh w' hn hc (Lib.hid ((hsh.out.below (HB1.out _)).below hb)) hln⟩⟩
  · rintro e w5 ⟨f, rfl, hf, hb5⟩
    subst hf
    gi_wp2
    go_ret
    exact ⟨rfl, (HB1.out _).trans (hb5.mono (HB1.out _).size)⟩
end Go.Proofs.YtpdmgecbapmgdaaGreat
end
section
namespace Go.Proofs.YtpdmgecbapmgdaaGreat
open Go.RowKit
section
variable {rs rl rw many : Int} {n k : Nat} {sh : Nat → Shaft} {z : Int}
theorem stock_rule (h : ¬ RuleOk rs rl rw many) : stockZ rs rl rw many n sh = 1 := by
  have h1 : ruleZ rs rl rw many = 1 := by
    rcases ruleZ_one rs rl rw many with e | e
    · exact absurd (ruleZ_zero.1 e) h
    · exact e
  have h2 : stockF rs rl rw many n sh 0 = 1 := by simp only [stockF, if_true, h1]
  exact (firstZ_at (F := stockF rs rl rw many n sh) (k := 0) (fun j hj => by omega) (by rw [h2]; decide) (by omega)).trans h2
theorem stockF_zero (h : RuleOk rs rl rw many) : stockF rs rl rw many n sh 0 = 0 := by simp only [stockF, if_true]; exact ruleZ_zero.2 h
theorem stock_count (h : RuleOk rs rl rw many) (hn : 9 < n) : stockZ rs rl rw many n sh = 2 := by
  have h2 : stockF rs rl rw many n sh 1 = 2 := by simp only [stockF]; rw [if_neg (by decide), if_pos trivial, if_neg (by omega)]
  refine (firstZ_at (F := stockF rs rl rw many n sh) (k := 1) (fun j hj => ?_) (by rw [h2]; decide) (by omega)).trans h2
  obtain rfl : j = 0 := by omega
  exact stockF_zero h
theorem stockF_one (hn : n ≤ 9) : stockF rs rl rw many n sh 1 = 0 := by simp only [stockF]; rw [if_neg (by decide), if_pos trivial, if_pos hn]
theorem stockF_two : stockF rs rl rw many n sh 2 = firstZ (shaftZ sh) n := by simp only [stockF]; rw [if_neg (by decide), if_neg (by decide)]
theorem stock_of (h : RuleOk rs rl rw many) (hn : n ≤ 9) : stockZ rs rl rw many n sh = firstZ (shaftZ sh) n := by
  show firstZ (stockF rs rl rw many n sh) 3 = _
  simp only [firstZ]
  rw [stockF_zero h, stockF_one hn, stockF_two]
  simp
theorem stock_shaft (h : RuleOk rs rl rw many) (hn : n ≤ 9) (hk : k < n) (hz : ∀ j, j < k → shaftZ sh j = 0) (he : shaftZ sh k = z) (h0 : z ≠ 0) : stockZ rs rl rw many n sh = z := by
  rw [stock_of h hn, firstZ_at hz (by rw [he]; exact h0) hk, he]
theorem stock_fair (h : RuleOk rs rl rw many) (hn : n ≤ 9) (hz : ∀ j, j < n → shaftZ sh j = 0) : stockZ rs rl rw many n sh = 0 := by
  rw [stock_of h hn]
  exact firstZ_zero.2 hz
theorem shaftZ_name (h : ¬ NameOk (sh k).name) : shaftZ sh k = 4 := by simp only [shaftZ, if_neg h]
theorem shaftZ_twice {j : Nat} (h : NameOk (sh k).name) (hj : j < k) (he : ((sh j).name.toList == (sh k).name.toList) = true) : shaftZ sh k = 5 := by
  simp only [shaftZ, if_pos h]
  rw [if_pos ⟨j, hj, he⟩]
theorem no_twice (hne : ∀ j, j < k → ((sh j).name.toList == (sh k).name.toList) = false) : ¬ ∃ j, j < k ∧ sameN sh j k = true := fun ⟨j, hj, h⟩ => by
  have := hne j hj
  simp only [sameN] at h
  rw [h] at this
  cases this
theorem out_one (a b l m : Int) : outZ a b l m = 0 ∨ outZ a b l m = 1 := by
  unfold outZ
  split
  · exact .inl rfl
  · exact .inr rfl
theorem shaftZ_span {u : Nat} (h : NameOk (sh k).name) (hne : ∀ j, j < k → ((sh j).name.toList == (sh k).name.toList) = false) (hu : u < 3) (ho : outZ (spanA (sh k) u) (spanB (sh k) u) 0 9999 ≠ 0) : shaftZ sh k = 1 := by
  simp only [shaftZ, if_pos h]
  rw [if_neg (no_twice hne)]
  rcases firstZ_one (F := fun u => outZ (spanA (sh k) u) (spanB (sh k) u) 0 9999) (fun u => out_one ..) 3 with e | e
  · exact absurd (firstZ_zero.1 e u hu) ho
  · exact e
theorem shaftZ_fair (h : NameOk (sh k).name) (hne : ∀ j, j < k → ((sh j).name.toList == (sh k).name.toList) = false) (h0 : outZ (sh k).s0 (sh k).s1 0 9999 = 0) (h1 : outZ (sh k).l0 (sh k).l1 0 9999 = 0) (h2 : outZ (sh k).w0 (sh k).w1 0 9999 = 0) : shaftZ sh k = 0 := by
  simp only [shaftZ, if_pos h]
  rw [if_neg (no_twice hne)]
  refine firstZ_zero.2 fun u hu => ?_
  have h3 : u = 0 ∨ u = 1 ∨ u = 2 := by omega
  rcases h3 with rfl | rfl | rfl
  · exact h0
  · exact h1
  · exact h2
theorem in_of {a b : Int} (h : insideB a b 0 9999 = true) : outZ a b 0 9999 = 0 := by
  simp [insideB, inB] at h
  exact if_pos (by omega)
theorem out_of {a b : Int} (h : insideB a b 0 9999 = false) : outZ a b 0 9999 ≠ 0 := by
  unfold outZ
  rw [if_neg fun h' => ?_]
  · decide
  · have h2 : insideB a b 0 9999 = true := by simp [insideB, inB]; omega
    rw [h] at h2
    cases h2
end
theorem isName_if (s : ByteArray) (w : World) (hs : s.size ≤ maxLen) : CallsIn Fc 0 Tryz.prog 63 #[.string s] w (SaysIf (NameOk s) w) := by
  unfold maxLen at hs
  cases h1 : inB s.size 1 12 with
  | false =>
    have HN : Hid (¬ NameOk s) := Lib.hid fun h => by
      have := h.least
      have := h.most
      have h2 : inB s.size 1 12 = true := by simp [inB]; omega
      rw [h1] at h2
      cases h2
    gi_enter Tryz.func63, Tryz.ntmps63
    gi_wp2_with (gi_at_call 62; refine (in_any _ _ _ _).mono ?_; rintro e w' ⟨rfl, rfl⟩)
    go_ret
    exact ⟨false, rfl, ⟨fun h => absurd h (by decide), fun h => absurd h HN.out⟩, rfl⟩
  | true =>
    have hb : 1 ≤ s.size ∧ s.size ≤ 12 := by simp [inB] at h1; omega
    obtain ⟨hb1, hb2⟩ := hb
    have h0 : 0 < s.size := by omega
    cases h2 : letterB s[0] with
    | false =>
      have HN : Hid (¬ NameOk s) := Lib.hid fun h => by
        have h3 := h.first h0
        rw [h2] at h3
        cases h3
      gi_enter Tryz.func63, Tryz.ntmps63
      gi_wp2_with (first
        | (gi_at_call 62; refine (in_any _ _ _ _).mono ?_; rintro e w' ⟨rfl, rfl⟩)
        | (gi_at_call 103; refine (letter_any _ _).mono ?_; rintro e w' ⟨rfl, rfl⟩))
      go_ret
      exact ⟨false, rfl, ⟨fun h => absurd h (by decide), fun h => absurd h HN.out⟩, rfl⟩
    | true =>
      gi_enter Tryz.func63, Tryz.ntmps63
      gi_wp2_with (first
        | (gi_at_call 62; refine (in_any _ _ _ _).mono ?_; rintro e w' ⟨rfl, rfl⟩)
        | (gi_at_call 103; refine (letter_any _ _).mono ?_; rintro e w' ⟨rfl, rfl⟩))
      gi_loop [3] (fun i => ∃ k : Nat, k ≤ s.size ∧ i = .int .i64 k ∧ ∀ (j : Nat) (h : j < s.size), j < k → letterB s[j] = true ∨ digitB s[j] = true) (fun i => s.size - (intOf i).toNat)
      case atStart => exact ⟨0, Nat.zero_le _, rfl, fun j h hj => by omega⟩
      case round =>
        obtain ⟨k, hk, rfl, hall⟩ := hrel
        have HA := Lib.hid hall
        clear hall
        by_cases hlt : k < s.size
        · cases h3 : letterB s[k] with
          | true =>
            gi_wp2_with (first
              | (gi_at_call 103; refine (letter_any _ _).mono ?_; rintro e w' ⟨rfl, rfl⟩)
              | (gi_at_call 104; refine (digit_any _ _).mono ?_; rintro e w' ⟨rfl, rfl⟩))
            go_round
            case rel => exact ⟨k + 1, by omega, by go_num, fun j h hj => by
              rcases Nat.lt_succ_iff_lt_or_eq.1 hj with hj | rfl
              · exact HA.out j h hj
              · exact .inl h3⟩
            case measure => simp [intOf]; omega
          | false =>
            cases h4 : digitB s[k] with
            | true =>
              gi_wp2_with (first
                | (gi_at_call 103; refine (letter_any _ _).mono ?_; rintro e w' ⟨rfl, rfl⟩)
                | (gi_at_call 104; refine (digit_any _ _).mono ?_; rintro e w' ⟨rfl, rfl⟩))
              go_round
              case rel => exact ⟨k + 1, by omega, by go_num, fun j h hj => by
                rcases Nat.lt_succ_iff_lt_or_eq.1 hj with hj | rfl
                · exact HA.out j h hj
                · exact .inr h4⟩
              case measure => simp [intOf]; omega
            | false =>
              have HN : Hid (¬ NameOk s) := Lib.hid fun h => by
                rcases h.rest k hlt with h5 | h5
                · rw [h3] at h5; cases h5
                · rw [h4] at h5; cases h5
              gi_wp2_with (first
                | (gi_at_call 103; refine (letter_any _ _).mono ?_; rintro e w' ⟨rfl, rfl⟩)
                | (gi_at_call 104; refine (digit_any _ _).mono ?_; rintro e w' ⟨rfl, rfl⟩))
              go_ret
              exact ⟨false, rfl, ⟨fun h => absurd h (by decide), fun h => absurd h HN.out⟩, rfl⟩
        · gi_wp2
          go_ret
          exact ⟨true, rfl, ⟨fun _ => ⟨hb1, hb2, fun _ => h2, fun i h => HA.out i h (by omega)⟩, fun _ => rfl⟩, rfl⟩
theorem CheckStock_exact (rs rl rw many : Int) (A : Option Addr) (n c : Nat) (sh : Nat → Shaft) (W : World) (hc : n ≤ c) (hsh : Hid (ShaftsAt W A n sh)) (hnm : Hid (∀ k, k < n → (sh k).name.size ≤ 100)) :
    CallsIn Fc 0 Tryz.prog 18 #[stockV rs rl rw many A n c] W (SaysInt (stockZ rs rl rw many n sh) W) := by
  have hB2 : ∀ x y, Below W.heap.size W ((W.alloc x).alloc y) := fun x y => ((Below.refl _ _).alloc (Nat.le_refl _) _).alloc (by simp) _
  have HB2 := Lib.hid hB2
  clear hB2
  gi_enter Tryz.func18, Tryz.ntmps18
  cases h1 : inB rs 0 9999 with
  | false =>
    have HS : Hid (stockZ rs rl rw many n sh = 1) := Lib.hid (stock_rule fun h => by have q1 := h.s0; have q2 := h.s1; have q3 := h.l0; have q4 := h.l1; have q5 := h.w0; have q6 := h.w1; have q7 := h.m0; have q8 := h.m1; simp [inB] at h1; omega)
    gi_wp2_with (gi_at_call 62; refine (in_any _ _ _ _).mono ?_; rintro e w' ⟨rfl, rfl⟩)
    go_ret
    exact ⟨congrArg (fun z => Ending.returned (Value.int .i64 z)) (HS.out).symm, HB2.out _ _⟩
  | true =>
  cases h2 : inB rl 0 9999 with
  | false =>
    have HS : Hid (stockZ rs rl rw many n sh = 1) := Lib.hid (stock_rule fun h => by have q1 := h.s0; have q2 := h.s1; have q3 := h.l0; have q4 := h.l1; have q5 := h.w0; have q6 := h.w1; have q7 := h.m0; have q8 := h.m1; simp [inB] at h2; omega)
    gi_wp2_with (gi_at_call 62; refine (in_any _ _ _ _).mono ?_; rintro e w' ⟨rfl, rfl⟩)
    go_ret
    exact ⟨congrArg (fun z => Ending.returned (Value.int .i64 z)) (HS.out).symm, HB2.out _ _⟩
  | true =>
  cases h3 : inB rw 0 9999 with
  | false =>
    have HS : Hid (stockZ rs rl rw many n sh = 1) := Lib.hid (stock_rule fun h => by have q1 := h.s0; have q2 := h.s1; have q3 := h.l0; have q4 := h.l1; have q5 := h.w0; have q6 := h.w1; have q7 := h.m0; have q8 := h.m1; simp [inB] at h3; omega)
    gi_wp2_with (gi_at_call 62; refine (in_any _ _ _ _).mono ?_; rintro e w' ⟨rfl, rfl⟩)
    go_ret
    exact ⟨congrArg (fun z => Ending.returned (Value.int .i64 z)) (HS.out).symm, HB2.out _ _⟩
  | true =>
  cases h4 : inB many 2 4 with
  | false =>
    have HS : Hid (stockZ rs rl rw many n sh = 1) := Lib.hid (stock_rule fun h => by have q1 := h.s0; have q2 := h.s1; have q3 := h.l0; have q4 := h.l1; have q5 := h.w0; have q6 := h.w1; have q7 := h.m0; have q8 := h.m1; simp [inB] at h4; omega)
    gi_wp2_with (gi_at_call 62; refine (in_any _ _ _ _).mono ?_; rintro e w' ⟨rfl, rfl⟩)
    go_ret
    exact ⟨congrArg (fun z => Ending.returned (Value.int .i64 z)) (HS.out).symm, HB2.out _ _⟩
  | true =>
  have HRU : Hid (RuleOk rs rl rw many) := Lib.hid (by
    simp [inB] at h1 h2 h3 h4
    exact ⟨h1.1, h1.2, h2.1, h2.2, h3.1, h3.2, h4.1, h4.2⟩)
  by_cases hn : (n : Int) > 9
  · have HS : Hid (stockZ rs rl rw many n sh = 2) := Lib.hid (stock_count HRU.out (by omega))
    gi_wp2_with (gi_at_call 62; refine (in_any _ _ _ _).mono ?_; rintro e w' ⟨rfl, rfl⟩)
    go_ret
    exact ⟨congrArg (fun z => Ending.returned (Value.int .i64 z)) (HS.out).symm, HB2.out _ _⟩
  · have hn9 : n ≤ 9 := by omega
    gi_wp2_with (gi_at_call 62; refine (in_any _ _ _ _).mono ?_; rintro e w' ⟨rfl, rfl⟩)
    clear h1 h2 h3 h4
    gi_loopw [4] (fun i wr => ∃ k : Nat, k ≤ n ∧ i = .int .i64 k ∧ wr.cell? ⟨W.heap.size, 4, none⟩ = some (.slice A n c) ∧ Below W.heap.size W wr ∧ ∀ j, j < k → shaftZ sh j = 0) (fun i _ => n - (intOf i).toNat)
    case atStart => exact ⟨0, by omega, rfl, by go_simp, HB2.out _ _, fun j h => by omega⟩
    case round =>
      obtain ⟨k, hk, rfl, c4, hb, hok⟩ := hrel
      rename World => wq
      have HB := Lib.hid hb
      have HOK := Lib.hid hok
      have hs := hb.size
      have hsz : W.heap.size < wq.heap.size := World.block_lt_of_cell? wq _ c4
      clear hb hok
      by_cases hlt : k < n
      · obtain ⟨b, o, rfl, hx⟩ := hsh.out k hlt
        obtain ⟨x0, x1, x2, x3, x4, x5, x6⟩ := hx.below HB.out
        have hlb : b < wq.heap.size := World.block_lt_of_cell? wq _ x0
        gi_wp2_with (gi_at_call 63; refine (isName_if _ _ (by have := hnm.out k hlt; simp [maxLen]; omega)).mono ?_; rintro e w' ⟨nb, rfl, hnb, rfl⟩; have HNB := Lib.hid hnb; clear hnb; cases nb)
        · have HNN : Hid (¬ NameOk (sh k).name) := Lib.hid fun h => absurd (HNB.out.2 h) (by decide)
          go_ret
          exact ⟨congrArg (fun z => Ending.returned (Value.int .i64 z)) (stock_shaft HRU.out hn9 hlt HOK.out (shaftZ_name HNN.out) (by decide)).symm, HB.out.alloc (by omega) _⟩
        · have HNK : Hid (NameOk (sh k).name) := Lib.hid (by first | exact HNB.out.1 rfl | exact HNB.out.1 trivial)
          clear HNB hx
          gi_loopw [6] (fun i wi => ∃ j : Nat, j ≤ k ∧ i = .int .i64 j ∧ Below (wq.heap.size + 1) (wq.alloc (.cells #[.string (sh k).name, .int .i64 (sh k).s0, .int .i64 (sh k).s1, .int .i64 (sh k).l0, .int .i64 (sh k).l1, .int .i64 (sh k).w0, .int .i64 (sh k).w1] 65)) wi ∧ ∀ t, t < j → ((sh t).name.toList == (sh k).name.toList) = false) (fun i _ => k - (intOf i).toNat)
          case atStart => exact ⟨0, by omega, rfl, Below.refl _ _, fun t h => by omega⟩
          case round =>
            clear x0 x1 x2 x3 x4 x5 x6
            obtain ⟨j, hj, rfl, hbi, hne⟩ := hrel
            have d4 : wr.cell? ⟨W.heap.size, 4, none⟩ = some (.slice (some ⟨b, o, none⟩) n c) := by rw [hbi.cell (by simp; omega)]; go_simp
            have y0 : wr.cell? ⟨wq.heap.size, 0, none⟩ = some (.string (sh k).name) := by rw [hbi.cell (by simp)]; go_simp
            have hsi := hbi.size
            simp at hsi
            have HNE := Lib.hid hne
            have hbw : Below W.heap.size W wr := (HB.out.alloc (by omega) _).trans (hbi.mono (by omega))
            have HBW := Lib.hid hbw
            have HBI := Lib.hid hbi
            clear hbi hbw hne c4
            by_cases hlj : j < k
            · obtain ⟨b', o', e', hxj⟩ := hsh.out j (by omega)
              cases e'
              have z0 := (hxj.below HBW.out).h0
              clear hxj
              cases he : ((sh j).name.toList == (sh k).name.toList) with
              | true =>
                have HE := Lib.hid he
                gi_wp2
                gi_region_with fail
                all_goals
                  gi_wp2
                  go_ret
                  exact ⟨congrArg (fun z => Ending.returned (Value.int .i64 z)) (stock_shaft HRU.out hn9 hlt HOK.out (shaftZ_twice HNK.out hlj HE.out) (by decide)).symm, HBW.out.drew⟩
              | false =>
                gi_wp2
                gi_region_with fail
                all_goals
                  gi_wp2
                  go_roundw
                  case rel => exact ⟨j + 1, by omega, by go_num, HBI.out.drew, fun t ht => by
                    rcases Nat.lt_succ_iff_lt_or_eq.1 ht with ht | rfl
                    · exact HNE.out t ht
                    · exact he⟩
                  case measure => simp [intOf]; omega
            · obtain rfl : j = k := by omega
              have y1 : wr.cell? ⟨wq.heap.size, 1, none⟩ = some (.int .i64 (sh j).s0) := by rw [HBI.out.cell (by simp)]; go_simp
              have y2 : wr.cell? ⟨wq.heap.size, 2, none⟩ = some (.int .i64 (sh j).s1) := by rw [HBI.out.cell (by simp)]; go_simp
              have y3 : wr.cell? ⟨wq.heap.size, 3, none⟩ = some (.int .i64 (sh j).l0) := by rw [HBI.out.cell (by simp)]; go_simp
              have y4 : wr.cell? ⟨wq.heap.size, 4, none⟩ = some (.int .i64 (sh j).l1) := by rw [HBI.out.cell (by simp)]; go_simp
              have y5 : wr.cell? ⟨wq.heap.size, 5, none⟩ = some (.int .i64 (sh j).w0) := by rw [HBI.out.cell (by simp)]; go_simp
              have y6 : wr.cell? ⟨wq.heap.size, 6, none⟩ = some (.int .i64 (sh j).w1) := by rw [HBI.out.cell (by simp)]; go_simp
              cases q1 : insideB (sh j).s0 (sh j).s1 0 9999 with
              | false =>
                have HQ : Hid (outZ (spanA (sh j) 0) (spanB (sh j) 0) 0 9999 ≠ 0) := Lib.hid (out_of q1)
                gi_wp2_with (gi_at_call 64; refine (inside_any _ _ _ _ _).mono ?_; rintro e w2 ⟨rfl, hb2⟩; (have d4 := Below.old hb2 d4); (have y3 := Below.old hb2 y3); (have y4 := Below.old hb2 y4); (have y5 := Below.old hb2 y5); (have y6 := Below.old hb2 y6); have HBW := Lib.hid (HBW.out.trans (hb2.mono HBW.out.size)); clear hb2)
                go_ret
                exact ⟨congrArg (fun z => Ending.returned (Value.int .i64 z)) (stock_shaft HRU.out hn9 hlt HOK.out (shaftZ_span HNK.out HNE.out (u := 0) (by omega) HQ.out) (by decide)).symm, HBW.out⟩
              | true =>
              cases q2 : insideB (sh j).l0 (sh j).l1 0 9999 with
              | false =>
                have HQ : Hid (outZ (spanA (sh j) 1) (spanB (sh j) 1) 0 9999 ≠ 0) := Lib.hid (out_of q2)
                gi_wp2_with (gi_at_call 64; refine (inside_any _ _ _ _ _).mono ?_; rintro e w2 ⟨rfl, hb2⟩; (have d4 := Below.old hb2 d4); (have y3 := Below.old hb2 y3); (have y4 := Below.old hb2 y4); (have y5 := Below.old hb2 y5); (have y6 := Below.old hb2 y6); have HBW := Lib.hid (HBW.out.trans (hb2.mono HBW.out.size)); clear hb2)
                go_ret
                exact ⟨congrArg (fun z => Ending.returned (Value.int .i64 z)) (stock_shaft HRU.out hn9 hlt HOK.out (shaftZ_span HNK.out HNE.out (u := 1) (by omega) HQ.out) (by decide)).symm, HBW.out⟩
              | true =>
              cases q3 : insideB (sh j).w0 (sh j).w1 0 9999 with
              | false =>
                have HQ : Hid (outZ (spanA (sh j) 2) (spanB (sh j) 2) 0 9999 ≠ 0) := Lib.hid (out_of q3)
                gi_wp2_with (gi_at_call 64; refine (inside_any _ _ _ _ _).mono ?_; rintro e w2 ⟨rfl, hb2⟩; (have d4 := Below.old hb2 d4); (have y3 := Below.old hb2 y3); (have y4 := Below.old hb2 y4); (have y5 := Below.old hb2 y5); (have y6 := Below.old hb2 y6); have HBW := Lib.hid (HBW.out.trans (hb2.mono HBW.out.size)); clear hb2)
                go_ret
                exact ⟨congrArg (fun z => Ending.returned (Value.int .i64 z)) (stock_shaft HRU.out hn9 hlt HOK.out (shaftZ_span HNK.out HNE.out (u := 2) (by omega) HQ.out) (by decide)).symm, HBW.out⟩
              | true =>
                gi_wp2_with (gi_at_call 64; refine (inside_any _ _ _ _ _).mono ?_; rintro e w2 ⟨rfl, hb2⟩; (have d4 := Below.old hb2 d4); (have y3 := Below.old hb2 y3); (have y4 := Below.old hb2 y4); (have y5 := Below.old hb2 y5); (have y6 := Below.old hb2 y6); have HBW := Lib.hid (HBW.out.trans (hb2.mono HBW.out.size)); clear hb2)
                go_roundw
                case rel =>
                  refine ⟨j + 1, by omega, by go_num, d4, HBW.out, fun t ht => ?_⟩
                  rcases Nat.lt_succ_iff_lt_or_eq.1 ht with ht | rfl
                  · exact HOK.out t ht
                  · exact shaftZ_fair HNK.out HNE.out (in_of q1) (in_of q2) (in_of q3)
                case measure => simp [intOf]; omega
      · obtain rfl : k = n := by omega
        gi_wp2
        go_ret
        exact ⟨congrArg (fun z => Ending.returned (Value.int .i64 z)) (stock_fair HRU.out hn9 HOK.out).symm, HB.out⟩
end Go.Proofs.YtpdmgecbapmgdaaGreat
end
section
namespace Go.Proofs.YtpdmgecbapmgdaaGreat
open Go.RowKit
def hasZ (n : Nat) (k : Int) : Int := if 0 ≤ k ∧ k < n then 0 else 6
theorem has_any (rs rl rw many : Int) (A : Option Addr) (n c : Nat) (i : Int) (W : World) (hn : n ≤ 20) :
    CallsIn Fc 0 Tryz.prog 100 #[stockV rs rl rw many A n c, .int .i64 i] W (SaysBool (decide (0 ≤ i ∧ i < n)) W) := by
  gi_enter Tryz.func100, Tryz.ntmps100
  by_cases h0 : 0 ≤ i
  · by_cases h1 : i < n
    · rw [decide_eq_true (⟨h0, h1⟩ : 0 ≤ i ∧ i < n)]
      gi_wp2
      go_ret
      exact ⟨rfl, (Below.refl _ _).alloc (Nat.le_refl _) _⟩
    · rw [decide_eq_false (fun h : 0 ≤ i ∧ i < n => h1 h.2)]
      gi_wp2
      go_ret
      exact ⟨rfl, (Below.refl _ _).alloc (Nat.le_refl _) _⟩
  · rw [decide_eq_false (fun h : 0 ≤ i ∧ i < n => h0 h.1)]
    gi_wp2
    go_ret
    exact ⟨rfl, (Below.refl _ _).alloc (Nat.le_refl _) _⟩
structure OneBoxI (w : World) (sp ip : Nat) (rs rl rw many : Int) (A : Option Addr) (n c : Nat) (k : Int) : Prop where
  i : w.cell? ⟨ip, 0, none⟩ = some (.int .i64 k)
  c0 : w.cell? ⟨sp, 0, none⟩ = some (.int .i64 rs)
  c1 : w.cell? ⟨sp, 1, none⟩ = some (.int .i64 rl)
  c2 : w.cell? ⟨sp, 2, none⟩ = some (.int .i64 rw)
  c3 : w.cell? ⟨sp, 3, none⟩ = some (.int .i64 many)
  c4 : w.cell? ⟨sp, 4, none⟩ = some (.slice A n c)
theorem OneBoxI.below {W w : World} (h : Below W.heap.size W w) {sp ip : Nat} {rs rl rw many : Int} {A : Option Addr} {n c : Nat} {k : Int} (hx : OneBoxI W sp ip rs rl rw many A n c k) : OneBoxI w sp ip rs rl rw many A n c k :=
  ⟨Below.old h hx.i, Below.old h hx.c0, Below.old h hx.c1, Below.old h hx.c2, Below.old h hx.c3, Below.old h hx.c4⟩
theorem hasShaft1_any (sp ip : Nat) (rs rl rw many : Int) (A : Option Addr) (n c : Nat) (k : Int) (W : World) (hn : n ≤ 20) (hbox : OneBoxI W sp ip rs rl rw many A n c k) :
    CallsIn Fc 0 Tryz.prog 123 #[ptr sp, ptr ip] W (SaysInt (hasZ n k) W) := by
  obtain ⟨d, d0, d1, d2, d3, d4⟩ := hbox
  by_cases h : 0 ≤ k ∧ k < n
  · rw [show hasZ n k = 0 from if_pos h]
    have hd := decide_eq_true h
    have HD := Lib.hid hd
    clear h hd
    gi_enter Tryz.func123, Tryz.ntmps123
    gi_wp2_with (gi_at_call 100; refine (has_any _ _ _ _ _ _ _ _ _ hn).mono ?_; rintro e w' ⟨rfl, hb1⟩; rw [HD.out])
    go_ret
    exact ⟨rfl, hb1⟩
  · rw [show hasZ n k = 6 from if_neg h]
    have hd := decide_eq_false h
    have HD := Lib.hid hd
    clear h hd
    gi_enter Tryz.func123, Tryz.ntmps123
    gi_wp2_with (gi_at_call 100; refine (has_any _ _ _ _ _ _ _ _ _ hn).mono ?_; rintro e w' ⟨rfl, hb1⟩; rw [HD.out])
    go_ret
    exact ⟨rfl, hb1⟩
theorem OneBoxI.is {w : World} {sp ip : Nat} {rs rl rw many : Int} {A : Option Addr} {n c : Nat} {k : Int} (h : OneBoxI w sp ip rs rl rw many A n c k) (hn : n ≤ 20) : CheckIs (.func (.func 123) #[] #[ptr sp, ptr ip]) (hasZ n k) w :=
  .inr (.inl ⟨sp, ip, rfl, fun w' hb => hasShaft1_any sp ip rs rl rw many A n c k w' hn (h.below hb)⟩)
end Go.Proofs.YtpdmgecbapmgdaaGreat
end
section
namespace Go.Proofs.YtpdmgecbapmgdaaGreat
open Go.RowKit
section
variable {F : Fence} {n : Nat} {P : Program} {Post : Act → World → Prop} {a : Act} {w : World} {b : Frame} {k : List Item} {cs : List Frame}
def Through (Post : Act → World → Prop) : Exit → Act → World → Prop
  | .normal, a, w => Post a w
  | _, _, _ => False
abbrev Comes (F : Fence) (P : Program) (b : Frame) (cs : List Frame) (a : Act) (k : List Item) (w : World) (a' : Act) (k' : List Item) (w' : World) : Prop :=
  StepsIn (Machine.fenced P F) P (lone (b.atR a k) cs w) (lone (b.atR a' k') cs w')
theorem comes_code {c : Code} (h : c.wpIn F n P (Through Post) a w) (hro : b.roundOf = F.round) (hb : F.fn b.fn) (hr : F.room (cs.length + 1 + n)) :
    ∃ a' w', Post a' w' ∧ Comes F P b cs a (.code c :: k) w a' k w' := by
  obtain ⟨e, a', w', hp, harr⟩ := h b k cs hro hb hr
  cases e with
  | normal => exact ⟨a', w', hp, harr⟩
  | _ => exact hp.elim
theorem comes_seq {x y : Code} (hb : F.fn b.fn) (hr : F.room (cs.length + 1 + n)) : Comes F P b cs a (.code (.seq x y) :: k) w a (.code x :: .code y :: k) w :=
  .one (fenced_calm hb hr rfl) stepR_seq
theorem comes_cond {c : Operand} {x y : Code} {t : Bool} (hc : a.eval c = .bool t) (hb : F.fn b.fn) (hr : F.room (cs.length + 1 + n)) : Comes F P b cs a (.code (.cond c x y) :: k) w a (.code (if t then x else y) :: k) w :=
  .one (fenced_calm hb hr rfl) (stepR_cond hc)
theorem comes_region {id : Nat} {ops : Array Oper} (hb : F.fn b.fn) (hr : F.room (cs.length + 1 + n)) : Comes F P b cs a (.code (.region id ops false) :: k) w a (.inRegion ops (List.range ops.size) :: k) w :=
  .one (fenced_calm hb hr rfl) stepR_region
def reckons : Op → Bool
  | .move _ | .assign _ | .pick _ _ _ | .binOp _ _ _ _ _ | .load _ _ => true
  | _ => false
theorem reckons_about {o : Oper} (h : reckons o.op = true) (P : Program) (w : World) (ρ : Operand → Value) : o.about P w ρ = none := by
  unfold Oper.about
  cases hop : o.op <;> simp_all [reckons]
theorem run_value {s : Sem Value} {P : Program} {w : World} : (∃ v w', (do let v ← s; pure (Next.value v) : Sem Next).run P w = .ok (.value v) w') ∨ ∃ x w', (do let v ← s; pure (Next.value v) : Sem Next).run P w = .halt x w' := by
  rw [Sem.run_bind]
  cases s.run P w with
  | ok v w' => exact .inl ⟨v, w', rfl⟩
  | halt x w' => exact .inr ⟨x, w', rfl⟩
theorem reckons_run {o : Oper} (h : reckons o.op = true) (P : Program) (w : World) (ρ : Operand → Value) : (∃ v w', (execOp ρ o).run P w = .ok (.value v) w') ∨ ∃ x w', (execOp ρ o).run P w = .halt x w' := by
  cases hop : o.op <;> simp only [hop, reckons] at h <;> try (cases h)
  all_goals unfold execOp; simp only [hop]
  case move x => exact .inl ⟨_, _, rfl⟩
  case assign x => exact .inl ⟨_, _, rfl⟩
  case pick c x y =>
    rw [Sem.run_bind]
    cases (asBool (ρ c)).run P w with
    | ok v w' => exact .inl ⟨_, w', rfl⟩
    | halt x w' => exact .inr ⟨x, w', rfl⟩
  case binOp op t x y u => exact run_value
  case load t x => exact run_value
theorem comes_pre {ops : Array Oper} (l : List Oper) : ∀ (i : Nat) (rest : List Nat) (a : Act) (w : World), (∀ j, j < l.length → ops[i + j]? = l[j]?) → (l.all fun o => reckons o.op) = true →
    wpListIn F n P ops (Through Post) l a w → b.roundOf = F.round → F.fn b.fn → F.room (cs.length + 1 + n) →
    ∃ a' w', Post a' w' ∧ Comes F P b cs a (.inRegion ops (List.range' i l.length ++ rest) :: k) w a' (.inRegion ops rest :: k) w' := by
  induction l with
  | nil => exact fun i rest a w _ _ h _ _ _ => ⟨a, w, h, .refl _⟩
  | cons o l ih =>
    intro i rest a w hops hall h hro hb hr
    have ho : ops[i]? = some o := by simpa using hops 0 (by simp)
    have hops' : ∀ j, j < l.length → ops[i + 1 + j]? = l[j]? := fun j hj => by
      have := hops (j + 1) (by simp; omega)
      simpa [Nat.add_assoc, Nat.add_comm 1 j] using this
    simp only [List.all_cons, Bool.and_eq_true] at hall
    have hab : ∀ f, o.about P w a.eval = some f → F.fn f := fun f hf => by rw [reckons_about hall.1] at hf; cases hf
    have h0 : (lone (b.atR a (.inRegion ops (i :: (List.range' (i + 1) l.length ++ rest)) :: k)) cs w).fenced P F := fenced_oper hb hr ho hab
    have hfin : ∀ v, (b.atR a (.inRegion ops (i :: (List.range' (i + 1) l.length ++ rest)) :: k)).finish v = b.atR (a.put o.dst v) (.inRegion ops (List.range' (i + 1) l.length ++ rest) :: k) := by
      intro v; rw [Frame.finish_atR, ho]; rfl
    simp only [wpListIn] at h
    rw [List.length_cons, List.range'_succ, List.cons_append]
    by_cases hw : Region.wanted o (yielded ops a.tmps) = true
    · rw [if_pos hw] at h
      have h2 := h.2
      have hsem : o.semAt F.round a.eval = execOp a.eval o := by
        refine Oper.semAt_eq _ _ _ fun c hc => ?_
        rw [hc] at hall
        exact absurd hall.1 (by simp [reckons])
      rw [hsem] at h2
      rcases reckons_run hall.1 P w a.eval with ⟨v, w1, hrun⟩ | ⟨x, w1, hrun⟩
      · rw [hrun] at h2
        obtain ⟨a', w', hp, hs⟩ := ih (i + 1) rest _ _ hops' hall.2 h2 hro hb hr
        refine ⟨a', w', hp, .head h0 (step_lone_go ?_) hs⟩
        rw [stepGR_op (P := P) ho hw, hro, hsem, ← hfin]
        simp [stepG.apply, hrun]
      · rw [hrun] at h2
        cases x with
        | panic v => exact h2.elim
        | _ => exact h2.elim
    · rw [if_neg hw] at h
      obtain ⟨a', w', hp, hs⟩ := ih (i + 1) rest _ _ hops' hall.2 h.2 hro hb hr
      have hk := stepR_op_skip (P := P) (b := b) (a := a) (k := k) (cs := cs) (w := w) (ops := ops) (i := i) (rest := List.range' (i + 1) l.length ++ rest) (by simp [ho]; simpa using hw)
      simp only [ho, Option.bind_some] at hk
      exact ⟨a', w', hp, .head h0 hk hs⟩
end
end Go.Proofs.YtpdmgecbapmgdaaGreat
end
section
namespace Go.Proofs.YtpdmgecbapmgdaaGreat
open Go.RowKit Go.Cx Go.Conc
open Go.ConcR (DC0)
section
variable {F : Fence} {n : Nat} {P : Program} {b : Frame} {cs : List Frame} {S : Act → List Item → World → Prop} {a : Act} {w : World} {k : List Item}
def Reach (F : Fence) (P : Program) (b : Frame) (cs : List Frame) (S : Act → List Item → World → Prop) (a : Act) (k : List Item) (w : World) : Prop :=
  ∃ a' k' w', S a' k' w' ∧ Comes F P b cs a k w a' k' w'
theorem Reach.here (h : S a k w) : Reach F P b cs S a k w := ⟨a, k, w, h, .refl _⟩
theorem reach_seq {x y : Code} (hb : F.fn b.fn) (hr : F.room (cs.length + 1 + n)) (h : Reach F P b cs S a (.code x :: .code y :: k) w) : Reach F P b cs S a (.code (.seq x y) :: k) w := by
  obtain ⟨a', k', w', h1, h2⟩ := h
  exact ⟨a', k', w', h1, (comes_seq hb hr).trans h2⟩
theorem reach_code {c : Code} (hro : b.roundOf = F.round) (hb : F.fn b.fn) (hr : F.room (cs.length + 1 + n))
    (h : ∀ R : Act → World → Prop, (∀ a' w', Reach F P b cs S a' k w' → R a' w') → c.wpIn F n P (Through R) a w) : Reach F P b cs S a (.code c :: k) w := by
  obtain ⟨a1, w1, ⟨a', k', w', h1, h2⟩, h3⟩ := comes_code (h (fun a' w' => Reach F P b cs S a' k w') fun a' w' h => h) hro hb hr
  exact ⟨a', k', w', h1, h3.trans h2⟩
theorem reach_cond {c : Operand} {x y : Code} (t : Bool) (hc : a.eval c = .bool t) (hb : F.fn b.fn) (hr : F.room (cs.length + 1 + n)) (h : Reach F P b cs S a (.code (if t then x else y) :: k) w) : Reach F P b cs S a (.code (.cond c x y) :: k) w := by
  obtain ⟨a', k', w', h1, h2⟩ := h
  exact ⟨a', k', w', h1, (comes_cond hc hb hr).trans h2⟩
theorem reach_skip (hb : F.fn b.fn) (hr : F.room (cs.length + 1 + n)) (hro : b.roundOf = F.round) (h : Reach F P b cs S a k w) : Reach F P b cs S a (.code .skip :: k) w :=
  reach_code (n := n) hro hb hr fun R hR => by
    gi_wp2
    exact hR _ _ h
theorem reach_region {id : Nat} {ops : Array Oper} (hb : F.fn b.fn) (hr : F.room (cs.length + 1 + n)) (h : Reach F P b cs S a (.inRegion ops (List.range ops.size) :: k) w) : Reach F P b cs S a (.code (.region id ops false) :: k) w := by
  obtain ⟨a', k', w', h1, h2⟩ := h
  exact ⟨a', k', w', h1, (comes_region hb hr).trans h2⟩
end
theorem put_same {a : Act} {d : Nat} {v : Value} (h : d < a.tmps.size) : (a.put (some d) v).tmps.getD d undef = v := by
  simp [Act.put, h]
theorem put_far {a : Act} {d e : Nat} {v : Value} (h : d ≠ e) : (a.put (some d) v).tmps.getD e undef = a.tmps.getD e undef := by
  simp [Act.put, h]
theorem put_size {a : Act} {d : Nat} {v : Value} : (a.put (some d) v).tmps.size = a.tmps.size := by simp [Act.put]
theorem put_defers {a : Act} {d : Nat} {v : Value} : (a.put (some d) v).defers = a.defers := rfl
abbrev lawFr (f : FuncId) : Frame := { (default : Frame) with fn := f, kind := .normal, roundOf := none }
structure EarlyAt (S : FuncId) (ops : Array Oper) (i j d r : Nat) : Prop where
  o : ∃ o, ops[i]? = some o ∧ o.op = .call { callee := .value (.func S), args := #[], argTypes := #[] } ∧ o.guard = none ∧ o.dst = some d
  p : ∃ o, ops[j]? = some o ∧ o.op = .assign (.tmp d) ∧ o.guard = none ∧ o.dst = some r
structure LateAt (S : FuncId) (ops : Array Oper) (i j1 j2 g c d e r : Nat) : Prop where
  o : ∃ o, ops[i]? = some o ∧ o.op = .call { callee := .value (.func S), args := #[], argTypes := #[] } ∧ o.guard = some (g, true) ∧ o.dst = some d
  g : (ops[g]?).bind (·.dst) = some c
  p : ∃ o, ops[j1]? = some o ∧ o.op = .pick (.tmp c) (.tmp d) (.const (.bool false)) ∧ o.guard = none ∧ o.dst = some e
  q : ∃ o, ops[j2]? = some o ∧ o.op = .assign (.tmp e) ∧ o.guard = none ∧ o.dst = some r
  ne : d ≠ c
inductive AtCallG (S : FuncId) (r z : Nat) : Act → List Item → Prop where
  | early (a : Act) (k : List Item) (ops : Array Oper) (i j d : Nat) (h : EarlyAt S ops i j d r) (hdz : d < z) (hd : a.defers = []) (hs : a.tmps.size = z) : AtCallG S r z a (.inRegion ops [i, j] :: .code .ret :: k)
  | late (a : Act) (k : List Item) (ops : Array Oper) (i j1 j2 g c d e : Nat) (h : LateAt S ops i j1 j2 g c d e r) (hdz : d < z) (hez : e < z) (hd : a.defers = []) (hs : a.tmps.size = z) (ht : a.tmps.getD c undef = .bool true) (hcz : c < z) : AtCallG S r z a (.inRegion ops [i, j1, j2] :: .code .ret :: k)
section
variable {P : Program} {S f : FuncId} {r z : Nat}
theorem call_step {a : Act} {k : List Item} (hS : ∃ fn, P.funcs[S]? = some fn ∧ (fn.name == "runtime.NumGoroutine") = false ∧ fn.body.isNone = false) (h : AtCallG S r z a k) (w : World) :
    stepG P true (G ((lawFr f).at a k) []) w = .go (G (Frame.enter P S #[] .normal) [(lawFr f).at a k]) w #[] := by
  obtain ⟨fn, hf, hn, hb⟩ := hS
  cases h with
  | early k ops i j d h hdz hd hs =>
    obtain ⟨o, ho, hop, hg, hdst⟩ := h.o
    have hw : Region.wanted o (yielded ops a.tmps) = true := by simp only [Region.wanted, hg]
    rw [stepG_enter ho hw (by intro h; cases h) (run_call_body hop hf hn hb)]
    have : listed P (lawFr f).fn a o w = #[] := by unfold listed; rw [events_call_body hop hf hn hb]; exact seen_none _ _
    rw [this]
    simp only [List.map_toArray, List.map_nil]
  | late k ops i j1 j2 g c d e h hdz hez hd hs ht hcz =>
    obtain ⟨o, ho, hop, hg, hdst⟩ := h.o
    have hw : Region.wanted o (yielded ops a.tmps) = true := by
      simp only [Region.wanted, hg]
      have hgc : a.tmps[c]? = some (.bool true) := by
        rw [Array.getD_eq_getD_getElem?, Array.getElem?_eq_getElem (by omega)] at ht
        rw [Array.getElem?_eq_getElem (by omega)]
        simpa using ht
      unfold yielded
      rw [h.g]
      simp [hgc]
    rw [stepG_enter ho hw (by intro h; cases h) (run_call_body hop hf hn hb)]
    have : listed P (lawFr f).fn a o w = #[] := by unfold listed; rw [events_call_body hop hf hn hb]; exact seen_none _ _
    rw [this]
    simp only [List.map_toArray, List.map_nil]
theorem goes_oneG {R : World → World → Prop} {Stop : Goroutine → World → Prop} {n : Nat} {g g' : Goroutine} {w : World} (hs : g.status = .running) (h : ∀ w1, stepG P true g w1 = .go g' w1 #[]) (hk : ∀ w1, R w w1 → Goes P true R DC0 Stop n g' w1) :
    Goes P true R DC0 Stop (n + 1) g w := Goes.step hs fun w1 h1 => by
  rw [h w1]
  exact ⟨⟨rfl, rfl⟩, hk w1 h1⟩
theorem step_assignG {a : Act} {k : List Item} {ops : Array Oper} {i : Nat} {rest : List Nat} {o : Oper} {x : Operand} (ho : ops[i]? = some o) (hg : o.guard = none) (hop : o.op = .assign x) (w : World) :
    stepG P true (G ((lawFr f).at a (.inRegion ops (i :: rest) :: k)) []) w = .go (G ((lawFr f).at (a.put o.dst (a.eval x)) (.inRegion ops rest :: k)) []) w #[] := by
  have hr : (execOp a.eval o).run P w = .ok (.value (a.eval x)) w := by unfold execOp; simp [hop]
  rw [stepG_value ho (by simp only [Region.wanted, hg]) (by intro h; cases h) hr]
  have : listed P (lawFr f).fn a o w = #[] := by
    unfold listed
    rw [show (execOp a.eval o).events P w #[] = #[] by unfold execOp; simp [hop]]
    exact seen_none _ _
  rw [this]
theorem step_pickG {a : Act} {k : List Item} {ops : Array Oper} {i : Nat} {rest : List Nat} {o : Oper} {c x y : Operand} (ho : ops[i]? = some o) (hg : o.guard = none) (hop : o.op = .pick c x y) (hc : a.eval c = .bool true) (w : World) :
    stepG P true (G ((lawFr f).at a (.inRegion ops (i :: rest) :: k)) []) w = .go (G ((lawFr f).at (a.put o.dst (a.eval x)) (.inRegion ops rest :: k)) []) w #[] := by
  have hr : (execOp a.eval o).run P w = .ok (.value (a.eval x)) w := by unfold execOp; simp [hop, hc, asBool]
  rw [stepG_value ho (by simp only [Region.wanted, hg]) (by intro h; cases h) hr]
  have : listed P (lawFr f).fn a o w = #[] := by
    unfold listed
    rw [show (execOp a.eval o).events P w #[] = #[] by unfold execOp; simp [hop, hc, asBool]]
    exact seen_none _ _
  rw [this]
theorem step_doneG {F : FuncId → Prop} {fl : Func} (hF : FenceOk P F) (hin : F f) (hfl : P.funcs[f]? = some fl) (hres : fl.results = #[.tmp r]) {a : Act} {k : List Item} (hd : a.defers = []) (h4 : a.tmps.getD r undef = .bool true) (w : World) :
    stepG P true (G { (lawFr f).at a (.code .ret :: k) with mode := .returning } []) w = .ended (.done (.bool true)) w #[] := by
  obtain ⟨fn, c, hk⟩ := hF f hin
  have hfn : fn = fl := Option.some.inj (hk.at_.symm.trans hfl)
  have h1 : (results fn a.tmps).run P w = .ok (.bool true) w := by
    rw [results_tmp (t := r) (by rw [hfn]; exact hres) a.tmps P w, h4]
  have h2 : (results fn a.tmps).events P w #[] = #[] := events_results_tmp (t := r) (by rw [hfn]; exact hres) _ _
  have e1 : ∀ (fr : Frame) (z : World), fr.kind = .normal → fr.fn = f → doReturn P true fr [] none (.bool true) z = .ended (.done (.bool true)) z := fun fr z h3 h4 => by simp [doReturn, h3, h4, hk.ini]
  simp only [G, stepG, unwind, Frame.at, hd, hk.at_, Sem.runT_eq, h1, h2]
  rw [e1 _ _ rfl rfl]
  simp [GStep.after, seen_none]
theorem after_retG {F : FuncId → Prop} {fl : Func} (hF : FenceOk P F) (hin : F f) (hfl : P.funcs[f]? = some fl) (hres : fl.results = #[.tmp r]) {a : Act} {k : List Item} {ops : Array Oper} {w w' : World} (he : Env (OldL w) w w') (hd : a.defers = []) (h4 : a.tmps.getD r undef = .bool true) :
    Goes P true (fun w0 w1 => Env (OldL w) w0 w1) DC0 (AtRet P (fun v w1 => v = .bool true ∧ Env (OldL w) w w1)) 2 (G ((lawFr f).at a (.inRegion ops [] :: .code .ret :: k)) []) w' := by
  refine goes_oneG rfl (fun w1 => stepG_region_end) fun w1 h1 => goes_oneG rfl (fun w1 => stepG_ret') fun w2 h2 => Goes.stop fun w3 h3 => ?_
  exact ⟨rfl, _, step_doneG hF hin hfl hres hd h4 w3, rfl, ((he.trans h1).trans h2).trans h3⟩
theorem after_callG {F : FuncId → Prop} {fl : Func} (hF : FenceOk P F) (hin : F f) (hfl : P.funcs[f]? = some fl) (hres : fl.results = #[.tmp r]) (hrz : r < z) {a : Act} {k : List Item} (h : AtCallG S r z a k) {w w' : World} (he : Env (OldL w) w w') :
    Goes P true (fun w0 w1 => Env (OldL w) w0 w1) DC0 (AtRet P (fun v w1 => v = .bool true ∧ Env (OldL w) w w1)) 4 (G (((lawFr f).at a k).finish (.bool true)) []) w' := by
  cases h with
  | early k ops i j d h hdz hd hs =>
    obtain ⟨o, ho, hop, hg, hdst⟩ := h.o
    obtain ⟨o2, ho2, hop2, hg2, hdst2⟩ := h.p
    rw [Frame.finish_at, ho]
    simp only [Option.bind_some, hdst]
    refine goes_oneG (g' := G ((lawFr f).at ((a.put (some d) (.bool true)).put (some r) (.bool true)) (.inRegion ops [] :: .code .ret :: k)) []) rfl (fun w1 => ?_) fun w1 h1 => Goes.more (after_retG hF hin hfl hres (a := (a.put (some d) (.bool true)).put (some r) (.bool true)) (ops := ops) (k := k) (he.trans h1) (by rw [put_defers, put_defers, hd]) (put_same (by rw [put_size]; omega)))
    have h := step_assignG (P := P) (f := f) (a := a.put (some d) (.bool true)) (k := .code .ret :: k) (ops := ops) (i := j) (rest := []) (x := .tmp d) ho2 hg2 hop2 w1
    rw [h, hdst2, show (a.put (some d) (.bool true)).eval (.tmp d) = .bool true from put_same (by omega)]
  | late k ops i j1 j2 g c d e h hdz hez hd hs ht hcz =>
    obtain ⟨o, ho, hop, hg, hdst⟩ := h.o
    obtain ⟨o2, ho2, hop2, hg2, hdst2⟩ := h.p
    obtain ⟨o3, ho3, hop3, hg3, hdst3⟩ := h.q
    rw [Frame.finish_at, ho]
    simp only [Option.bind_some, hdst]
    refine goes_oneG (g' := G ((lawFr f).at ((a.put (some d) (.bool true)).put (some e) (.bool true)) (.inRegion ops [j2] :: .code .ret :: k)) []) rfl (fun w1 => ?_) fun w1 h1 => ?_
    · have h := step_pickG (P := P) (f := f) (a := a.put (some d) (.bool true)) (k := .code .ret :: k) (ops := ops) (i := j1) (rest := [j2]) (c := .tmp c) (x := .tmp d) (y := .const (.bool false)) ho2 hg2 hop2 ((put_far h.ne).trans ht) w1
      rw [h, hdst2, show (a.put (some d) (.bool true)).eval (.tmp d) = .bool true from put_same (by omega)]
    · refine goes_oneG (g' := G ((lawFr f).at (((a.put (some d) (.bool true)).put (some e) (.bool true)).put (some r) (.bool true)) (.inRegion ops [] :: .code .ret :: k)) []) rfl (fun w2 => ?_) fun w2 h2 => after_retG hF hin hfl hres ((he.trans h1).trans h2) (by rw [put_defers, put_defers, put_defers, hd]) (put_same (by rw [put_size, put_size]; omega))
      have h := step_assignG (P := P) (f := f) (a := (a.put (some d) (.bool true)).put (some e) (.bool true)) (k := .code .ret :: k) (ops := ops) (i := j2) (rest := []) (x := .tmp e) ho3 hg3 hop3 w2
      rw [h, hdst3, show ((a.put (some d) (.bool true)).put (some e) (.bool true)).eval (.tmp e) = .bool true from put_same (by rw [put_size]; omega)]
end
end Go.Proofs.YtpdmgecbapmgdaaGreat
end
section
namespace Go.Proofs.YtpdmgecbapmgdaaGreat
open Go.RowKit
theorem box_cells {W w : World} {rs rl rw many : Int} {A : Option Addr} {n c : Nat} (h : Below (W.heap.size + 1) (W.alloc (.cells #[.int .i64 rs, .int .i64 rl, .int .i64 rw, .int .i64 many, .slice A n c] 26)) w) :
    w.cell? ⟨W.heap.size, 0, none⟩ = some (.int .i64 rs) ∧ w.cell? ⟨W.heap.size, 1, none⟩ = some (.int .i64 rl) ∧ w.cell? ⟨W.heap.size, 2, none⟩ = some (.int .i64 rw) ∧ w.cell? ⟨W.heap.size, 3, none⟩ = some (.int .i64 many) ∧ w.cell? ⟨W.heap.size, 4, none⟩ = some (.slice A n c) := by
  refine ⟨?_, ?_, ?_, ?_, ?_⟩ <;> (rw [h.cell (by simp)]; go_simp)
end Go.Proofs.YtpdmgecbapmgdaaGreat
end
section
namespace Go.Proofs.YtpdmgecbapmgdaaGreat
open Go.RowKit
section
variable (sh : Nat → Shaft) (l : Nat → Nat)
def topZ (y : Nat) : Nat → Int
  | 0 => 0
  | i + 1 => max (topZ y i) (spanA (sh (l i)) y)
end
def closeZ (sh : Nat → Shaft) (l : Nat → Nat) (m y j : Nat) : Int := min (topZ sh l y m) (spanB (sh j) y)
def doneP (l : Nat → Nat) (m x i j y : Nat) : Prop := (y < x ∧ ∃ t, t < m ∧ l t = j) ∨ (y = x ∧ ∃ t, t < i ∧ l t = j)
structure CloAt (sh : Nat → Shaft) (l : Nat → Nat) (m n x i : Nat) (sh' : Nat → Shaft) : Prop where
  name : ∀ j, j < n → (sh' j).name = (sh j).name
  yes : ∀ j, j < n → ∀ y, y < 3 → doneP l m x i j y → spanA (sh' j) y = closeZ sh l m y j ∧ spanB (sh' j) y = closeZ sh l m y j
  no : ∀ j, j < n → ∀ y, y < 3 → ¬ doneP l m x i j y → spanA (sh' j) y = spanA (sh j) y ∧ spanB (sh' j) y = spanB (sh j) y
theorem CloAt.zero (sh : Nat → Shaft) (l : Nat → Nat) (m n : Nat) : CloAt sh l m n 0 0 sh :=
  ⟨fun _ _ => rfl, fun j _ y _ h => by rcases h with ⟨h, _⟩ | ⟨_, t, h, _⟩ <;> omega, fun _ _ _ _ _ => ⟨rfl, rfl⟩⟩
theorem CloAt.next {sh sh' : Nat → Shaft} {l : Nat → Nat} {m n x i : Nat} (h : CloAt sh l m n x i sh') (hx : x < 3) : CloAt sh l m n x (i + 1) (putSh sh' (l i) x (closeZ sh l m x (l i)) (closeZ sh l m x (l i))) where
  name := fun j hj => by rw [putSh_name]; exact h.name j hj
  yes := fun j hj y hy hd => by
    rw [putSh_A hx hy, putSh_B hx hy]
    by_cases e : j = l i ∧ y = x
    · rw [if_pos e, if_pos e]
      obtain ⟨rfl, rfl⟩ := e
      exact ⟨rfl, rfl⟩
    · rw [if_neg e, if_neg e]
      refine h.yes j hj y hy ?_
      rcases hd with hd | ⟨h1, t, h2, h3⟩
      · exact .inl hd
      · refine .inr ⟨h1, t, ?_, h3⟩
        rcases Nat.lt_succ_iff_lt_or_eq.1 h2 with h2 | rfl
        · exact h2
        · exact absurd ⟨h3.symm, h1⟩ e
  no := fun j hj y hy hd => by
    rw [putSh_A hx hy, putSh_B hx hy]
    have e : ¬ (j = l i ∧ y = x) := fun e => hd (.inr ⟨e.2, i, by omega, e.1.symm⟩)
    rw [if_neg e, if_neg e]
    refine h.no j hj y hy fun hd' => hd ?_
    rcases hd' with hd' | ⟨h1, t, h2, h3⟩
    · exact .inl hd'
    · exact .inr ⟨h1, t, by omega, h3⟩
theorem CloAt.turn {sh sh' : Nat → Shaft} {l : Nat → Nat} {m n x : Nat} (h : CloAt sh l m n x m sh') : CloAt sh l m n (x + 1) 0 sh' where
  name := h.name
  yes := fun j hj y hy hd => h.yes j hj y hy (by
    rcases hd with ⟨h1, h2⟩ | ⟨_, t, h2, _⟩
    · rcases Nat.lt_succ_iff_lt_or_eq.1 h1 with h1 | h1
      · exact .inl ⟨h1, h2⟩
      · exact .inr ⟨h1, h2⟩
    · omega)
  no := fun j hj y hy hd => h.no j hj y hy fun hd' => hd (by
    rcases hd' with ⟨h1, h2⟩ | ⟨h1, h2⟩
    · exact .inl ⟨by omega, h2⟩
    · exact .inl ⟨by omega, h2⟩)
structure CloMem (W w : World) (rs rl rw many : Int) (b o n c : Nat) (A' : Option Addr) (c' : Nat) (sh' : Nat → Shaft) : Prop where
  hb : Below W.heap.size W w
  hz : W.heap.size + 3 ≤ w.heap.size
  b0 : w.heap[W.heap.size]? = some (.cells #[.int .i64 rs, .int .i64 rl, .int .i64 rw, .int .i64 many, .slice (some ⟨b, o, none⟩) n c] 26 (0, 0))
  b1 : w.heap[W.heap.size + 1]? = some (.cells #[.int .i64 0, .int .i64 0, .int .i64 0, .int .i64 0, .slice none 0 0] 26 (0, 0))
  b2 : w.heap[W.heap.size + 1 + 1]? = some (.cells #[.int .i64 rs, .int .i64 rl, .int .i64 rw, .int .i64 many, .slice A' n c'] 26 (0, 0))
  hc : n ≤ c'
  row : ShaftsAt w A' n sh'
theorem CloMem.below {W w w' : World} {rs rl rw many : Int} {b o n c : Nat} {A' : Option Addr} {c' : Nat} {sh' : Nat → Shaft} (h : CloMem W w rs rl rw many b o n c A' c' sh') (hb : Below w.heap.size w w') : CloMem W w' rs rl rw many b o n c A' c' sh' where
  hb := h.hb.trans (hb.mono h.hb.size)
  hz := Nat.le_trans h.hz hb.size
  b0 := by rw [hb.block _ (by have := h.hz; omega)]; exact h.b0
  b1 := by rw [hb.block _ (by have := h.hz; omega)]; exact h.b1
  b2 := by rw [hb.block _ (by have := h.hz; omega)]; exact h.b2
  hc := h.hc
  row := h.row.below hb
theorem shafts_far' {w : World} {A : Option Addr} {n p j : Nat} {sh : Nat → Shaft} (h : ShaftsAt w A n sh) (hp : ∀ b o, A = some ⟨b, o, none⟩ → p ≠ b) (x : Value) : ShaftsAt (w.setCell ⟨p, j, none⟩ x) A n sh := by
  intro k hk
  obtain ⟨b', o', e, hx⟩ := h k hk
  have ne : ∀ i, (⟨b', i, none⟩ : Addr) ≠ ⟨p, j, none⟩ := fun i e' => by simp only [Addr.mk.injEq] at e'; exact hp _ _ e e'.1.symm
  refine ⟨b', o', e, shaft_of fun i hi => ?_⟩
  rw [World.cell?_setCell_other _ _ _ _ (by first | exact ne _ | exact (ne _).symm)]
  exact shaft_get hx i hi
theorem shafts_box {w : World} {A : Option Addr} {n q k : Nat} {sh : Nat → Shaft} {i0 i1 i2 i3 : Int} {v : Value} (h : ShaftsAt w A n sh) (hk : k < n) (hv : ∀ s, v ≠ .string s) (hq : w.heap[q]? = some (.cells #[.int .i64 i0, .int .i64 i1, .int .i64 i2, .int .i64 i3, v] 26 (0, 0))) : ∀ b o, A = some ⟨b, o, none⟩ → q ≠ b := by
  rintro b o rfl rfl
  obtain ⟨b', o', e, hx⟩ := h k hk
  cases e
  have h0 := hx.h0
  simp only [World.cell?, hq] at h0
  generalize o + k * 7 = t at h0
  match t, h0 with
  | 0, h0 => simp at h0
  | 1, h0 => simp at h0
  | 2, h0 => simp at h0
  | 3, h0 => simp at h0
  | 4, h0 => simp at h0; exact hv _ h0
  | t + 5, h0 => simp at h0
theorem CloMem.store {W w : World} {rs rl rw many : Int} {b o n c k : Nat} {A' A9 : Option Addr} {c' c9 : Nat} {sh' sh9 : Nat → Shaft} (h : CloMem W w rs rl rw many b o n c A' c' sh') (hk : k < n) (hc9 : n ≤ c9) (hr : ShaftsAt w A9 n sh9) :
    CloMem W (((((w.setCell ⟨W.heap.size + 1 + 1, 0, none⟩ (.int .i64 rs)).setCell ⟨W.heap.size + 1 + 1, 1, none⟩ (.int .i64 rl)).setCell ⟨W.heap.size + 1 + 1, 2, none⟩ (.int .i64 rw)).setCell ⟨W.heap.size + 1 + 1, 3, none⟩ (.int .i64 many)).setCell ⟨W.heap.size + 1 + 1, 4, none⟩ (.slice A9 n c9)) rs rl rw many b o n c A9 c9 sh9 := by
  have hne := shafts_box hr hk (fun s => by simp) h.b2
  have l2 : W.heap.size ≤ W.heap.size + 1 + 1 := by omega
  have hz := h.hz
  exact {
    hb := ((((h.hb.setCell l2 _).setCell l2 _).setCell l2 _).setCell l2 _).setCell l2 _
    hz := by simpa [World.setCell] using hz
    b0 := by simp [World.setCell, Array.getElem?_modify, h.b0, show ¬ W.heap.size + 1 + 1 = W.heap.size by omega]
    b1 := by simp [World.setCell, Array.getElem?_modify, h.b1, show ¬ W.heap.size + 1 + 1 = W.heap.size + 1 by omega]
    b2 := by simp [World.setCell, Array.getElem?_modify, h.b2]
    hc := hc9
    row := shafts_far' (shafts_far' (shafts_far' (shafts_far' (shafts_far' hr hne _) hne _) hne _) hne _) hne _ }
theorem CloMem.box {W w : World} {rs rl rw many : Int} {b o n c : Nat} {A' : Option Addr} {c' : Nat} {sh' : Nat → Shaft} (h : CloMem W w rs rl rw many b o n c A' c' sh') :
    w.cell? ⟨W.heap.size, 0, none⟩ = some (.int .i64 rs) ∧ w.cell? ⟨W.heap.size, 4, none⟩ = some (.slice (some ⟨b, o, none⟩) n c) ∧ w.cell? ⟨W.heap.size + 1 + 1, 0, none⟩ = some (.int .i64 rs) ∧ w.cell? ⟨W.heap.size + 1 + 1, 1, none⟩ = some (.int .i64 rl) ∧ w.cell? ⟨W.heap.size + 1 + 1, 2, none⟩ = some (.int .i64 rw) ∧ w.cell? ⟨W.heap.size + 1 + 1, 3, none⟩ = some (.int .i64 many) ∧ w.cell? ⟨W.heap.size + 1 + 1, 4, none⟩ = some (.slice A' n c') :=
  ⟨by simp [World.cell?, h.b0], by simp [World.cell?, h.b0], by simp [World.cell?, h.b2], by simp [World.cell?, h.b2], by simp [World.cell?, h.b2], by simp [World.cell?, h.b2], by simp [World.cell?, h.b2]⟩
theorem CloMem.res {W w : World} {rs rl rw many : Int} {b o n c : Nat} {A' : Option Addr} {c' : Nat} {sh' : Nat → Shaft} (h : CloMem W w rs rl rw many b o n c A' c' sh') :
    w.cell? ⟨W.heap.size + 1, 0, none⟩ = some (.int .i64 0) ∧ w.cell? ⟨W.heap.size + 1, 1, none⟩ = some (.int .i64 0) ∧ w.cell? ⟨W.heap.size + 1, 2, none⟩ = some (.int .i64 0) ∧ w.cell? ⟨W.heap.size + 1, 3, none⟩ = some (.int .i64 0) ∧ w.cell? ⟨W.heap.size + 1, 4, none⟩ = some (.slice none 0 0) :=
  ⟨by simp [World.cell?, h.b1], by simp [World.cell?, h.b1], by simp [World.cell?, h.b1], by simp [World.cell?, h.b1], by simp [World.cell?, h.b1]⟩
end Go.Proofs.YtpdmgecbapmgdaaGreat
end
section
namespace Go.Proofs.YtpdmgecbapmgdaaGreat
open Go.RowKit
section
variable {F : Fence} {n : Nat} {P : Program} {ops : Array Oper} {Q : Exit → Act → World → Prop}
structure RB (ops : Array Oper) (k : Nat) (D : List (Nat × Value)) (I : World → Prop) (lo z sa sb : Nat) (u1 v1 u2 v2 : Int) (a0 : Act) (listed : Array Bool) (a : Act) (w : World) : Prop where
  defers : a.defers = []
  size : a.tmps.size = z
  old : ∀ s, (∀ x ∈ D, x.1 ≠ s) → s ≠ sa → s ≠ sb → a.eval (.tmp s) = a0.eval (.tmp s)
  inv : I w
  fact : ∀ (j d : Nat) (v : Value), D[j]? = some (d, v) → listed.getD j false = true → a.eval (.tmp d) = v
  closed : ∀ i, listed.getD i false = true → ∀ j, depB ops i j = true → listed.getD j false = true
  ga : listed.getD k false = true → ∃ (p : Nat) (u v : Int), a.eval (.tmp sa) = .pointer (some ⟨p, 0, none⟩) ∧ lo ≤ p ∧ SpanAt w p u v ∧ (listed.getD (k + 2) false = true → u = u1 ∧ v = v1)
  gb : listed.getD (k + 1) false = true → ∃ (p : Nat) (u v : Int), a.eval (.tmp sb) = .pointer (some ⟨p, 0, none⟩) ∧ lo ≤ p ∧ SpanAt w p u v ∧ (listed.getD (k + 3) false = true → u = u2 ∧ v = v2)
  ne : listed.getD k false = true → listed.getD (k + 1) false = true → a.eval (.tmp sa) ≠ a.eval (.tmp sb)
end
end Go.Proofs.YtpdmgecbapmgdaaGreat
end
section
namespace Go.Proofs.YtpdmgecbapmgdaaGreat
open Go.RowKit Go.Cx Go.Conc
theorem apCell_nil {rs rl rw : Int} {sh : Nat → Shaft} {l : Nat → Nat} {i k : Nat} : ∀ x, apCell rs rl rw sh l i k x = [] ↔ ∀ y, y < x → nearOf rs rl rw (sh (l i)) (sh (l k)) y = 1
  | 0 => by simp [apCell]
  | x + 1 => by
    simp only [apCell, List.append_eq_nil_iff, apCell_nil x]
    constructor
    · rintro ⟨h1, h2⟩ y hy
      rcases Nat.lt_succ_iff_lt_or_eq.1 hy with hy | rfl
      · exact h1 y hy
      · split at h2
        · assumption
        · cases h2
    · intro h
      exact ⟨fun y hy => h y (by omega), by rw [if_pos (h x (by omega))]⟩
theorem apRow_nil {rs rl rw : Int} {sh : Nat → Shaft} {l : Nat → Nat} {i : Nat} : ∀ t, apRow rs rl rw sh l i t = [] ↔ ∀ k, i < k → k < i + 1 + t → ∀ y, y < 3 → nearOf rs rl rw (sh (l i)) (sh (l k)) y = 1
  | 0 => by simp only [apRow, true_iff]; intro k h1 h2; omega
  | t + 1 => by
    simp only [apRow, List.append_eq_nil_iff, apRow_nil t, apCell_nil]
    constructor
    · rintro ⟨h1, h2⟩ k hk hk2
      by_cases e : k < i + 1 + t
      · exact h1 k hk e
      · obtain rfl : k = i + 1 + t := by omega
        exact h2
    · intro h
      exact ⟨fun k h1 h2 => h k h1 (by omega), h _ (by omega) (by omega)⟩
theorem apAll_nil {rs rl rw : Int} {sh : Nat → Shaft} {l : Nat → Nat} {m : Nat} : ∀ i, i ≤ m → (apAll rs rl rw sh l m i = [] ↔ ∀ j k, j < i → j < k → k < m → ∀ y, y < 3 → nearOf rs rl rw (sh (l j)) (sh (l k)) y = 1)
  | 0, _ => by simp only [apAll, true_iff]; intro j k h; omega
  | i + 1, hi => by
    rw [show apAll rs rl rw sh l m (i + 1) = apAll rs rl rw sh l m i ++ apRow rs rl rw sh l i (m - (i + 1)) from rfl, List.append_eq_nil_iff, apAll_nil i (by omega), apRow_nil]
    constructor
    · rintro ⟨h1, h2⟩ j k hj hjk hk
      rcases Nat.lt_succ_iff_lt_or_eq.1 hj with hj | rfl
      · exact h1 j k hj hjk hk
      · exact h2 k hjk (by omega)
    · intro h
      exact ⟨fun j k h1 h2 h3 => h j k (by omega) h2 h3, fun k h1 h2 => h i k (by omega) h1 (by omega)⟩
theorem ap_yes {rs rl rw : Int} {sh : Nat → Shaft} {l : Nat → Nat} {m : Nat} : apAll rs rl rw sh l m m = [] ↔ matchZ rs rl rw sh l m = 1 := by
  rw [apAll_nil m (Nat.le_refl _), matchZ_one]
  exact ⟨fun h j i h1 h2 => h j i (by omega) h1 h2, fun h j k _ h1 h2 => h j k h1 h2⟩
def ApOk (rs rl rw : Int) (sh : Nat → Shaft) (l : Nat → Nat) (m : Nat) (x : Ap) : Prop := ∃ j k, j < k ∧ k < m ∧ x.one = l j ∧ x.two = l k ∧ x.what < 3 ∧ x.sure = nearOf rs rl rw (sh (l j)) (sh (l k)) x.what ∧ x.sure ≠ 1
theorem apCell_ok {rs rl rw : Int} {sh : Nat → Shaft} {l : Nat → Nat} {m i k : Nat} (h1 : i < k) (h2 : k < m) : ∀ x, x ≤ 3 → ∀ e ∈ apCell rs rl rw sh l i k x, ApOk rs rl rw sh l m e
  | 0, _, e, h => by cases h
  | x + 1, hx, e, h => by
    simp only [apCell, List.mem_append] at h
    rcases h with h | h
    · exact apCell_ok h1 h2 x (by omega) e h
    · split at h
      · cases h
      · next hn =>
        simp only [List.mem_cons, List.not_mem_nil, or_false] at h
        subst h
        exact ⟨i, k, h1, h2, rfl, rfl, by show x < 3; omega, rfl, hn⟩
theorem apRow_ok {rs rl rw : Int} {sh : Nat → Shaft} {l : Nat → Nat} {m i : Nat} : ∀ t, i + 1 + t ≤ m → ∀ e ∈ apRow rs rl rw sh l i t, ApOk rs rl rw sh l m e
  | 0, _, e, h => by cases h
  | t + 1, ht, e, h => by
    simp only [apRow, List.mem_append] at h
    rcases h with h | h
    · exact apRow_ok t (by omega) e h
    · exact apCell_ok (by omega) (by omega) 3 (by omega) e h
theorem apAll_ok {rs rl rw : Int} {sh : Nat → Shaft} {l : Nat → Nat} {m : Nat} : ∀ i, i ≤ m → ∀ e ∈ apAll rs rl rw sh l m i, ApOk rs rl rw sh l m e
  | 0, _, e, h => by cases h
  | i + 1, hi, e, h => by
    simp only [apAll, List.mem_append] at h
    rcases h with h | h
    · exact apAll_ok i (by omega) e h
    · exact apRow_ok _ (by omega) e h
end Go.Proofs.YtpdmgecbapmgdaaGreat
end
section
namespace Go.Proofs.YtpdmgecbapmgdaaGreat
open Go.RowKit Go.Cx Go.Conc
def BoxAt (w : World) (p : Nat) : Prop := ∃ (i0 i1 i2 i3 : Int) (v : Value), w.heap[p]? = some (.cells #[.int .i64 i0, .int .i64 i1, .int .i64 i2, .int .i64 i3, v] 26 (0, 0)) ∧ ∀ s, v ≠ .string s
theorem BoxAt.below {w w' : World} {p : Nat} (h : BoxAt w p) (hb : Below w.heap.size w w') : BoxAt w' p := by
  obtain ⟨i0, i1, i2, i3, v, h1, h2⟩ := h
  exact ⟨i0, i1, i2, i3, v, by rw [hb.block _ (Array.getElem?_eq_some_iff.1 h1).1]; exact h1, h2⟩
def PutsF (rs rl rw many u v : Int) (A : Option Addr) (n c q lo y : Nat) (sh : Nat → Shaft) (lj lk : Nat) : Nat → List Value → World → Prop
  | 0, vs, _ => vs = [stockV rs rl rw many A n c]
  | 1, vs, _ => vs = [.pointer (some ⟨q, 0, none⟩)]
  | 2, vs, _ => vs = [.int .i64 lj]
  | 3, vs, _ => vs = [.pointer (some ⟨q, 2, none⟩)]
  | 4, vs, _ => vs = [.int .i64 y]
  | 5, vs, _ => vs = [.agg #[.int .i64 u, .int .i64 u]]
  | 7, vs, _ => vs = [.pointer (some ⟨q, 1, none⟩)]
  | 8, vs, _ => vs = [.int .i64 lk]
  | 9, vs, _ => vs = [.pointer (some ⟨q, 2, none⟩)]
  | 10, vs, _ => vs = [.int .i64 y]
  | 11, vs, _ => vs = [.agg #[.int .i64 v, .int .i64 v]]
  | 6, vs, w => ∃ A1 c1, vs = [stockV rs rl rw many A1 n c1] ∧ n ≤ c1 ∧ ShaftsAt w A1 n (putSh sh lj y u u)
  | 12, vs, w => ∃ A1 c1, vs = [stockV rs rl rw many A1 n c1] ∧ n ≤ c1 ∧ ShaftsAt w A1 n (putSh (putSh sh lj y u u) lk y v v)
  | 13, vs, w => ∃ p, vs = [.pointer (some ⟨p, 0, none⟩)] ∧ lo ≤ p ∧ BoxAt w p
  | 14, vs, w => ∃ p A1 c1, vs = [.pointer (some ⟨p, 0, none⟩)] ∧ lo ≤ p ∧ w.heap[p]? = some (.cells #[.int .i64 rs, .int .i64 rl, .int .i64 rw, .int .i64 many, .slice A1 n c1] 26 (0, 0)) ∧ n ≤ c1 ∧ ShaftsAt w A1 n (putSh (putSh sh lj y u u) lk y v v)
  | _, _, _ => True
theorem PutsF.below {rs rl rw many u v : Int} {A : Option Addr} {n c q lo y : Nat} {sh : Nat → Shaft} {lj lk : Nat} {w w' : World} (hb : Below w.heap.size w w') : ∀ i vs, PutsF rs rl rw many u v A n c q lo y sh lj lk i vs w → PutsF rs rl rw many u v A n c q lo y sh lj lk i vs w' := by
  intro i vs h
  unfold PutsF at h ⊢
  split at h <;> try exact h
  · obtain ⟨A1, c1, h1, h2, h3⟩ := h; exact ⟨A1, c1, h1, h2, h3.below hb⟩
  · obtain ⟨A1, c1, h1, h2, h3⟩ := h; exact ⟨A1, c1, h1, h2, h3.below hb⟩
  · obtain ⟨p, h1, h2, h3⟩ := h; exact ⟨p, h1, h2, h3.below hb⟩
  · obtain ⟨p, A1, c1, h1, h2, h3, h4, h5⟩ := h; exact ⟨p, A1, c1, h1, h2, by rw [hb.block _ (Array.getElem?_eq_some_iff.1 h3).1]; exact h3, h4, h5.below hb⟩
theorem PutsF.to {rs rl rw many u v : Int} {A : Option Addr} {n c q lo y lj lk : Nat} {sh : Nat → Shaft} {w w' : World} (far : ∀ A1 s1, ShaftsAt w A1 n s1 → ShaftsAt w' A1 n s1) (hb : ∀ p, BoxAt w p → BoxAt w' p) : ∀ i, i ≠ 14 → ∀ vs, PutsF rs rl rw many u v A n c q lo y sh lj lk i vs w → PutsF rs rl rw many u v A n c q lo y sh lj lk i vs w' := by
  intro i hi vs h
  unfold PutsF at h ⊢
  split at h <;> try exact h
  · obtain ⟨A1, c1, h1, h2, h3⟩ := h; exact ⟨A1, c1, h1, h2, far _ _ h3⟩
  · obtain ⟨A1, c1, h1, h2, h3⟩ := h; exact ⟨A1, c1, h1, h2, far _ _ h3⟩
  · obtain ⟨p', h1, h2, h3⟩ := h; exact ⟨p', h1, h2, hb _ h3⟩
  · exact absurd rfl hi
end Go.Proofs.YtpdmgecbapmgdaaGreat
end
section
namespace Go.Proofs.YtpdmgecbapmgdaaGreat
open Go.RowKit
section
variable (rs rl rw many : Int) (n : Nat) (sh : Nat → Shaft) (k m x0 x1 : Int)
end
section
variable {rs rl rw many : Int} {n : Nat} {sh : Nat → Shaft} {k m x0 x1 : Int}
end
def RefF (s b o n c k m : Nat) (x : Shaft) (x0 x1 : Int) (lo : Nat) (u v : Int) : Nat → List Value → World → Prop
  | 0, vs, _ => vs = [.pointer (some ⟨s, 4, none⟩)]
  | 1, vs, _ => vs = [.slice (some ⟨b, o, none⟩) n c]
  | 2, vs, _ => vs = [.int .i64 k]
  | 3, vs, _ => vs = [.pointer (some ⟨b, o + k * 7, none⟩)]
  | 4, vs, _ => vs = [shaftV x]
  | 5, vs, _ => vs = [.int .i64 m]
  | 6, vs, _ => vs = [spanV (spanA x m) (spanB x m)]
  | 7, vs, _ => vs = [spanV x0 x1]
  | 8, vs, _ => vs = [spanV u v]
  | 9, vs, w => ∃ p : Nat, vs = [.pointer (some ⟨p, 0, none⟩)] ∧ lo ≤ p ∧ ∃ y z, SpanAt w p y z
  | 10, vs, w => ∃ p : Nat, vs = [.pointer (some ⟨p, 0, none⟩)] ∧ lo ≤ p ∧ SpanAt w p u v
  | _, _, _ => True
theorem RefF.below (s b o n c k m : Nat) (x : Shaft) (x0 x1 : Int) (lo : Nat) {u v : Int} {w w' : World} (hb : Below w.heap.size w w') (i : Nat) (vs : List Value) (h : RefF s b o n c k m x x0 x1 lo u v i vs w) : RefF s b o n c k m x x0 x1 lo u v i vs w' := by
  unfold RefF at h ⊢
  split
  all_goals simp only at h
  all_goals first
    | exact h
    | (obtain ⟨p, h1, h2, y, z, h3⟩ := h; exact ⟨p, h1, h2, y, z, h3.below hb⟩)
    | (obtain ⟨p, h1, h2, h3⟩ := h; exact ⟨p, h1, h2, h3.below hb⟩)
    | trivial
theorem RefF.store (s b o n c k m : Nat) (x : Shaft) (x0 x1 : Int) (lo : Nat) {u v : Int} {w : World} {p : Nat} {y z : Int} (hp : SpanAt w p y z) (i : Nat) (hi : i ≠ 10) {vs : List Value} (hv : i = 9 → vs = [.pointer (some ⟨p, 0, none⟩)]) (a t : Int) (h : RefF s b o n c k m x x0 x1 lo u v i vs w) : RefF s b o n c k m x x0 x1 lo u v i vs ((w.setCell ⟨p, 0, none⟩ (.int .i64 a)).setCell ⟨p, 1, none⟩ (.int .i64 t)) := by
  unfold RefF at h ⊢
  split
  all_goals simp only at h
  all_goals first
    | exact h
    | exact absurd rfl hi
    | (obtain ⟨p', h1, h2, y', z', h3⟩ := h
       have e := hv rfl
       rw [h1] at e
       simp only [List.cons.injEq, Value.pointer.injEq, Option.some.injEq, Addr.mk.injEq, and_true] at e
       subst e
       exact ⟨p', h1, h2, a, t, hp.set a t⟩)
    | trivial
theorem stock_small {rs rl rw many : Int} {n : Nat} {sh : Nat → Shaft} (h : stockZ rs rl rw many n sh = 0) : n ≤ 9 := by
  have h1 := firstZ_zero.1 h 1 (by omega)
  simp only [stockF] at h1
  rw [if_neg (by decide), if_pos trivial] at h1
  by_cases hn : n ≤ 9
  · exact hn
  · rw [if_neg hn] at h1; cases h1
end Go.Proofs.YtpdmgecbapmgdaaGreat
end
section
namespace Go.Proofs.YtpdmgecbapmgdaaGreat
open Go.RowKit
section
variable (rs rl rw many : Int) (A : Option Addr) (n c : Nat) (k m x0 x1 : Int) (F : Nat → Int)
def ChkG : Nat → List Value → World → Prop
  | 0, vs, _ => vs = [stockV rs rl rw many A n c]
  | 1, vs, _ => vs = [.func (.func 56) #[stockV rs rl rw many A n c] #[]]
  | 2, vs, _ => vs = [stockV rs rl rw many A n c]
  | 3, vs, _ => vs = [.int .i64 k]
  | 4, vs, w => ∃ v, vs = [v] ∧ CheckIs v (F 1) w
  | 5, vs, _ => vs = [.int .i64 m]
  | 6, vs, w => ∃ v, vs = [v] ∧ CheckIs v (F 2) w
  | 7, vs, _ => vs = [spanV x0 x1]
  | 8, vs, w => ∃ v, vs = [v] ∧ CheckIs v (F 3) w
  | 9, vs, w => ∃ g : Nat, vs = [.slice (some ⟨g, 0, none⟩) 4 4] ∧ ∀ i, i < 4 → ∃ v, w.cell? ⟨g, i, none⟩ = some v ∧ CheckIs v (F i) w
  | 10, vs, _ => ∃ f : Int, vs = [.int .i64 f] ∧ f = firstZ F 4
  | 11, vs, _ => ∃ f : Int, vs = [.int .i64 f] ∧ f = firstZ F 4
  | _, _, _ => True
theorem ChkG.below {w w' : World} (hb : Below w.heap.size w w') (i : Nat) (vs : List Value) (h : ChkG rs rl rw many A n c k m x0 x1 F i vs w) : ChkG rs rl rw many A n c k m x0 x1 F i vs w' := by
  unfold ChkG at h ⊢
  split
  all_goals simp only at h
  all_goals first
    | exact h
    | (obtain ⟨v, h1, h2⟩ := h; exact ⟨v, h1, h2.below hb⟩)
    | (obtain ⟨g, h1, h2⟩ := h
       refine ⟨g, h1, fun i hi => ?_⟩
       obtain ⟨v, h3, h4⟩ := h2 i hi
       exact ⟨v, Below.old hb h3, h4.below hb⟩)
    | trivial
end
theorem stock_ok {rs rl rw many : Int} {n : Nat} {sh : Nat → Shaft} (h : stockZ rs rl rw many n sh = 0) : StockOk rs rl rw many n sh := by
  have hr : RuleOk rs rl rw many := ruleZ_zero.1 (firstZ_zero.1 h 0 (by omega))
  have hn := stock_small h
  rw [stock_of hr hn] at h
  have hz := firstZ_zero.1 h
  have key : ∀ k, k < n → NameOk (sh k).name ∧ (¬ ∃ j, j < k ∧ sameN sh j k = true) ∧ ∀ u, u < 3 → outZ (spanA (sh k) u) (spanB (sh k) u) 0 9999 = 0 := fun k hk => by
    have h1 := hz k hk
    simp only [shaftZ] at h1
    split at h1
    · next h2 =>
      split at h1
      · cases h1
      · next h3 => exact ⟨h2, h3, firstZ_zero.1 h1⟩
    · cases h1
  have out : ∀ {a b : Int}, outZ a b 0 9999 = 0 → 0 ≤ a ∧ a ≤ b ∧ b ≤ 9999 := fun {a b} h => by
    unfold outZ at h
    split at h
    · assumption
    · cases h
  refine ⟨hr, hn, fun k hk => ?_, fun j k hj hk => ?_⟩
  · obtain ⟨h1, _, h3⟩ := key k hk
    have q0 := out (h3 0 (by omega))
    have q1 := out (h3 1 (by omega))
    have q2 := out (h3 2 (by omega))
    exact ⟨h1, q0.1, q0.2.1, q0.2.2, q1.1, q1.2.1, q1.2.2, q2.1, q2.2.1, q2.2.2⟩
  · obtain ⟨_, h2, _⟩ := key k hk
    cases h : ((sh j).name.toList == (sh k).name.toList) with
    | false => rfl
    | true => exact absurd ⟨j, hj, h⟩ h2
end Go.Proofs.YtpdmgecbapmgdaaGreat
end
