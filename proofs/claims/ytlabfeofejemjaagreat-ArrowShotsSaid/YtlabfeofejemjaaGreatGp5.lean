/- A part of the proof that ArrowShots returns true for every input: no further condition. -/
import Derived.Test.YtlabfeofejemjaaGreatGp4
import Derived.Test.YtlabfeofejemjaaGreatGp3
import Derived.Deep.Slices
import Derived.Lib.SmallJoins
import Derived.Test.YtlabfeofejemjaaGreatLe1
import Derived.Test.YtlabfeofejemjaaGreatRows
import Derived.Conc.Own4
import Derived.Conc.LeavingOf
import Derived.Carry
set_option linter.unusedSimpArgs false
set_option linter.unusedVariables false
set_option maxHeartbeats 4000000
set_option maxRecDepth 100000
section
namespace Go.Proofs.YtlabfeofejemjaaGreat
open Go.RowKit
theorem sht_yes {P : List Nat → Prop} {L : List (List Nat)} {i : Nat} (h1 : (sht P L i).1 = false ∨ (L.getD i []).length < (sht P L i).2.length) (h2 : ¬ P (L.getD i [])) : sht P L (i + 1) = (true, L.getD i []) := by rw [sht]; exact if_pos ⟨h1, h2⟩
theorem sht_no {P : List Nat → Prop} {L : List (List Nat)} {i : Nat} (h : ¬ (((sht P L i).1 = false ∨ (L.getD i []).length < (sht P L i).2.length) ∧ ¬ P (L.getD i []))) : sht P L (i + 1) = sht P L i := by rw [sht]; exact if_neg h
theorem least_such {P : Nat → Prop} {k : Nat} (h : P k) : ∃ k, P k ∧ ∀ j, j < k → ¬ P j := by
  induction k using Nat.strongRecOn with
  | ind k ih =>
    by_cases h2 : ∃ j, j < k ∧ P j
    · obtain ⟨j, h3, h4⟩ := h2
      exact ih j h3 h4
    · exact ⟨k, h, fun j hj hp => h2 ⟨j, hj, hp⟩⟩
theorem first_clash {r : Rl} {sh : Nat → Sh} {n : Nat} (h : ¬ AllAgree r sh n) : ∃ i j, FirstClash r sh n i j := by
  have h1 : ∃ i, ∃ j, i < j ∧ j < n ∧ agreeB r (sh i) (sh j) = false := Classical.byContradiction fun h2 => h fun i j hij hj => by
    cases hq : agreeB r (sh i) (sh j) with
    | true => rfl
    | false => exact absurd ⟨i, j, hij, hj, hq⟩ h2
  obtain ⟨i0, h1⟩ := h1
  obtain ⟨i, ⟨j0, h2⟩, h3⟩ := least_such (P := fun i => ∃ j, i < j ∧ j < n ∧ agreeB r (sh i) (sh j) = false) h1
  obtain ⟨j, ⟨h4, h5, h6⟩, h7⟩ := least_such (P := fun j => i < j ∧ j < n ∧ agreeB r (sh i) (sh j) = false) h2
  refine ⟨i, j, h4, h5, h6, fun k h8 h9 => ?_, fun l k h8 h9 h10 => ?_⟩
  · cases hq : agreeB r (sh i) (sh k) with
    | true => rfl
    | false => exact absurd ⟨h8, by omega, hq⟩ (h7 k h9)
  · cases hq : agreeB r (sh l) (sh k) with
    | true => rfl
    | false => exact absurd ⟨k, h9, h10, hq⟩ (h3 l h8)
theorem RefClash_any (r : Rl) (A : Option Addr) (n c : Nat) (sh : Nat → Sh) (W : World) (hn : n ≤ 20) (hc : n ≤ c) (hsh : Hid (ShotsAt W A n sh)) : CallsIn Fc 0 Tryz.prog 16 #[cardV r A n c] W (SaysList (cardZ r sh n) (ClashIs r sh n) W) := by
  have hck := fun w (hb : Below W.heap.size W w) => CheckCard_any r A n c sh w hn hc (Lib.hid (hsh.out.below hb))
  have hz := cardZ_ok (r := r) (sh := sh) (n := n)
  generalize cardZ r sh n = z at *
  have HCK := Lib.hid hck
  have HZ := Lib.hid hz
  clear hck hz
  by_cases h0 : z = 0
  · have hok := Lib.hid (HZ.out.1 h0)
    have hn8 := hok.out.count
    subst h0
    have htl : Hid ((AllAgree r sh n → (sht (AgL r sh) (chs (List.range n)) (chs (List.range n)).length).2 = []) ∧ ∀ i j, FirstClash r sh n i j → (sht (AgL r sh) (chs (List.range n)) (chs (List.range n)).length).2 = [i, j]) := Lib.hid ⟨clash_sht_none, fun i j => clash_sht⟩
    have hsub : ∀ i, i < (chs (List.range n)).length → ((chs (List.range n)).getD i []).Sublist (List.range n) := fun i hi => chs_sub hi
    have h256 : (chs (List.range n)).length ≤ 256 := by rw [chs_len, List.length_range]; exact pow_le hn8
    have hpos : 0 < (chs (List.range n)).length := by rw [chs_len]; exact Nat.two_pow_pos _
    have hcc := fun (LA : Option Addr) (lc : Nat) (w : World) (hlc : n ≤ lc) (hi : IntsAt w LA n fun k => (k : Int)) => Choices_any n (List.range n) List.length_range hn8 LA lc w hlc (fun k hk => by
      obtain ⟨b, o, e, q⟩ := hi k hk
      exact ⟨b, o, e, by rw [q]; simp [List.getD_eq_getElem?_getD, hk]⟩)
    generalize chs (List.range n) = L at *
    obtain ⟨R, hR⟩ : ∃ R, L.length = R := ⟨_, rfl⟩
    rw [hR] at htl hsub h256 hpos
    have HSUB := Lib.hid hsub
    have HCC := Lib.hid hcc
    have HR := Lib.hid hR
    clear hcc hR hsub
    gi_enter Tryz.func16, Tryz.ntmps16
    gi_wp2_with (first
      | (gi_at_call 12; refine (HCK.out _ (below_one _ _)).mono ?_; rintro e w2 ⟨rfl, hb2⟩; have HE := Lib.hid (box_one hb2); obtain ⟨c0, c1, c2, c3, c4⟩ := HE.out; have HB2 := Lib.hid ((below_one _ _).trans (hb2.mono (below_one _ _).size)); clear hb2)
      | (gi_at_call 22; refine (UpTo_any n _ (by omega)).mono ?_; rintro e w3 ⟨LU, lcU, rfl, hlU, hiU, hb3⟩; have HIU := Lib.hid hiU; have HB3 := Lib.hid hb3; clear hiU hb3)
      | (gi_at_call 54; refine (HCC.out _ _ _ hlU HIU.out).mono ?_; rintro e w4 ⟨vl, rfl, hvl, hb4⟩; have HVL := Lib.hid hvl; have HB4 := Lib.hid hb4; clear hvl hb4))
    have hb24 := HB3.out.trans (HB4.out.mono HB3.out.size)
    have HB := Lib.hid (HB2.out.trans (hb24.mono HB2.out.size))
    have HE4 : Hid (w4.cell? ⟨W.heap.size, 0, none⟩ = some (.int .i64 r.ls) ∧ w4.cell? ⟨W.heap.size, 1, none⟩ = some (.int .i64 r.ms) ∧ w4.cell? ⟨W.heap.size, 2, none⟩ = some (.int .i64 r.wd) ∧ w4.cell? ⟨W.heap.size, 3, none⟩ = some (.int .i64 r.lt) ∧ w4.cell? ⟨W.heap.size, 4, none⟩ = some (.slice A n c)) := Lib.hid (by
      obtain ⟨d0, d1, d2, d3, d4⟩ := HE.out
      exact ⟨Below.old hb24 d0, Below.old hb24 d1, Below.old hb24 d2, Below.old hb24 d3, Below.old hb24 d4⟩)
    obtain ⟨vs, hvo, hve⟩ := HVL.out
    rw [HR.out] at hvo hve
    obtain ⟨gr, rc, rfl⟩ := own_shape hvo (by omega)
    have hat := fun k (hk : k < R) => ListsAt.at hvo hve hk
    have HAT := Lib.hid hat
    have hrc : R ≤ rc := by
      rcases hvo.2 with ⟨_, e⟩ | ⟨g, cap, cur, e, _, _, q, _⟩
      · omega
      · cases e; exact q
    clear hat hvo hve HVL c0 c1 c2 c3 c4 hb24 HE
    gi_loopw [5, 6, 8] (fun bv fv x wr => ∃ (i : Nat) (F : Bool), i ≤ R ∧ x = .int .i64 i ∧ fv = .bool F ∧ (sht (AgL r sh) L i).1 = F ∧ BestAt wr bv (sht (AgL r sh) L i).2 ∧ Below w4.heap.size w4 wr) (fun _ _ x _ => R - (intOf x).toNat)
    case atStart => exact ⟨0, false, by omega, rfl, rfl, rfl, ⟨none, 0, rfl, Nat.le_refl _, fun k hk => absurd hk (by simp [sht])⟩, Below.refl _ _⟩
    case round =>
      obtain ⟨i, F, hi, rfl, rfl, hF, hbest, hb⟩ := hrel
      have HBE := Lib.hid hbest
      have HBW := Lib.hid hb
      clear hbest hb
      obtain ⟨LB, kc, rfl, hkc, hints⟩ := HBE.out
      by_cases hlt : i < R
      · obtain ⟨LX, ck, hcx, hxc, hxi⟩ := HAT.out i hlt
        have HCX := Lib.hid (Below.old HBW.out hcx)
        have HXI := Lib.hid (hxi.below HBW.out)
        clear hcx hxi
        have hsub := HSUB.out i hlt
        have hyes := sht_yes (P := AgL r sh) (L := L) (i := i)
        have hno := sht_no (P := AgL r sh) (L := L) (i := i)
        generalize hx : L.getD i [] = x at *
        rw [hF] at hyes hno
        generalize hfy : sht (AgL r sh) L i = fy at *
        obtain ⟨F', y⟩ := fy
        simp only at hF
        subst hF
        simp only at hyes hno HBE hkc hints ⊢
        clear hfy
        have hx8 : x.length ≤ 8 := by have := hsub.length_le; rw [List.length_range] at this; omega
        have hxn : ∀ k, k < x.length → x.getD k 0 < n := fun k hk => by
          have h := List.mem_range.1 (hsub.subset (List.getElem_mem hk))
          simpa [List.getD_eq_getElem?_getD, hk] using h
        have HXN := Lib.hid hxn
        have HYES := Lib.hid hyes
        have HNO := Lib.hid hno
        clear hyes hno hxn hsub hx hints
        obtain ⟨mx, hmx⟩ : ∃ mx, x.length = mx := ⟨_, rfl⟩
        obtain ⟨my, hmy⟩ : ∃ my, y.length = my := ⟨_, rfl⟩
        rw [hmx] at hx8 hxc HCX HXI HXN HYES HNO
        rw [hmy] at hkc HYES HNO
        rw [hmy]
        have HMX := Lib.hid hmx
        have HMY := Lib.hid hmy
        clear hmx hmy
        cases F' with
        | false =>
          by_cases hag : AgL r sh x
          · have HAG := Lib.hid hag
            clear hag
            gi_wp2
            refine wpIn_region_D (D := [(25, .bool false), (26, .bool true), (27, .bool true), (28, undef), (29, undef), (30, undef), (31, undef), (32, undef), (33, undef), (34, undef), (35, undef), (36, .bool true), (37, .bool true), (38, cardV r A n c), (39, .slice (some ⟨gr, 0, none⟩) R rc), (40, .int .i64 (i : Int)), (41, .pointer (some ⟨gr, i, none⟩)), (42, .slice LX mx ck), (43, .bool true), (44, .bool false), (45, .bool false)])
              (I := fun w => Below wr.heap.size wr w) (z := 51) (by kernel_rfl) (by kernel_rfl) (by kernel_rfl) (by kernel_rfl) (by kernel_rfl) rfl rfl (Below.refl _ _).drew ?_ ?_
            · intro j a w hj hd hz hold hf hI
              have HI := Lib.hid hI
              obtain ⟨d0, d1, d2, d3, d4⟩ := HE4.out
              have hbw := HBW.out.trans (hI.mono HBW.out.size)
              have d0 := Below.old hbw d0
              have d1 := Below.old hbw d1
              have d2 := Below.old hbw d2
              have d3 := Below.old hbw d3
              have d4 := Below.old hbw d4
              have q0 := Below.old hI HCX.out
              clear hI hbw
              have s1 := at_slot hz (hold 1 (by kernel_rfl)) (by omega)
              have s5 := at_slot hz (hold 5 (by kernel_rfl)) (by omega)
              have s6 := at_slot hz (hold 6 (by kernel_rfl)) (by omega)
              have s7 := at_slot hz (hold 7 (by kernel_rfl)) (by omega)
              have s8 := at_slot hz (hold 8 (by kernel_rfl)) (by omega)
              clear hold
              have hjs : j = 0 ∨ j = 1 ∨ j = 2 ∨ j = 3 ∨ j = 4 ∨ j = 5 ∨ j = 6 ∨ j = 7 ∨ j = 8 ∨ j = 9 ∨ j = 10 ∨ j = 11 ∨ j = 12 ∨ j = 13 ∨ j = 14 ∨ j = 15 ∨ j = 16 ∨ j = 17 ∨ j = 18 ∨ j = 19 ∨ j = 20 := by have : j < 21 := hj; omega
              rcases hjs with rfl | rfl | rfl | rfl | rfl | rfl | rfl | rfl | rfl | rfl | rfl | rfl | rfl | rfl | rfl | rfl | rfl | rfl | rfl | rfl | rfl
              all_goals
                try have f25 := at_slot hz (hf 0 25 _ rfl rfl) (by omega)
                try have f26 := at_slot hz (hf 1 26 _ rfl rfl) (by omega)
                try have f27 := at_slot hz (hf 2 27 _ rfl rfl) (by omega)
                try have f36 := at_slot hz (hf 11 36 _ rfl rfl) (by omega)
                try have f37 := at_slot hz (hf 12 37 _ rfl rfl) (by omega)
                try have f39 := at_slot hz (hf 14 39 _ rfl rfl) (by omega)
                try have f40 := at_slot hz (hf 15 40 _ rfl rfl) (by omega)
                try have f41 := at_slot hz (hf 16 41 _ rfl rfl) (by omega)
                try have f38 := at_slot hz (hf 13 38 _ rfl rfl) (by omega)
                try have f42 := at_slot hz (hf 17 42 _ rfl rfl) (by omega)
                try have f43 := at_slot hz (hf 18 43 _ rfl rfl) (by omega)
                try have f44 := at_slot hz (hf 19 44 _ rfl rfl) (by omega)
                refine wpOpIn_step rfl fun K hK => ?_
                go_simp
                first
                  | exact hK _ _ ⟨_, _, rfl, rfl, rfl, HI.out⟩
                  | (refine (FitsOf_any r A n c sh LX mx ck (fun k => x.getD k 0) w hc hx8 hxc hok (Lib.hid (hsh.out.below (HB.out.trans ((HBW.out.trans (HI.out.mono HBW.out.size)).mono HB.out.size)))) HXN (Lib.hid (HXI.out.below HI.out))).mono ?_; rintro e w' ⟨g, rfl, hg, hb'⟩; obtain rfl : g = true := hg.2 (HMX.out ▸ HAG.out); exact hK _ _ ⟨_, _, rfl, rfl, rfl, HI.out.trans (hb'.mono HI.out.size)⟩)
            · intro w5 hI
              simp only [List.foldl_cons, List.foldl_nil, List.setIfInBounds_toArray, List.set_cons_succ, List.set_cons_zero]
              have HI := Lib.hid hI
              clear hI
              gi_wp2
              go_roundw
              case rel =>
                refine ⟨i + 1, false, by omega, by go_num, rfl, by rw [HNO.out (fun h => h.2 HAG.out)], ?_, HBW.out.trans (HI.out.mono HBW.out.size)⟩
                rw [HNO.out (fun h => h.2 HAG.out)]
                have := HBE.out.below HI.out
                rw [HMY.out] at this
                exact this
              case measure => simp [intOf]; omega
          · have HAG : Hid (¬ AgL r sh x) := Lib.hid hag
            clear hag
            gi_wp2
            refine wpIn_region_D (D := [(25, .bool false), (26, .bool true), (27, .bool true), (28, undef), (29, undef), (30, undef), (31, undef), (32, undef), (33, undef), (34, undef), (35, undef), (36, .bool true), (37, .bool true), (38, cardV r A n c), (39, .slice (some ⟨gr, 0, none⟩) R rc), (40, .int .i64 (i : Int)), (41, .pointer (some ⟨gr, i, none⟩)), (42, .slice LX mx ck), (43, .bool false), (44, .bool true), (45, .bool true)])
              (I := fun w => Below wr.heap.size wr w) (z := 51) (by kernel_rfl) (by kernel_rfl) (by kernel_rfl) (by kernel_rfl) (by kernel_rfl) rfl rfl (Below.refl _ _).drew ?_ ?_
            · intro j a w hj hd hz hold hf hI
              have HI := Lib.hid hI
              obtain ⟨d0, d1, d2, d3, d4⟩ := HE4.out
              have hbw := HBW.out.trans (hI.mono HBW.out.size)
              have d0 := Below.old hbw d0
              have d1 := Below.old hbw d1
              have d2 := Below.old hbw d2
              have d3 := Below.old hbw d3
              have d4 := Below.old hbw d4
              have q0 := Below.old hI HCX.out
              clear hI hbw
              have s1 := at_slot hz (hold 1 (by kernel_rfl)) (by omega)
              have s5 := at_slot hz (hold 5 (by kernel_rfl)) (by omega)
              have s6 := at_slot hz (hold 6 (by kernel_rfl)) (by omega)
              have s7 := at_slot hz (hold 7 (by kernel_rfl)) (by omega)
              have s8 := at_slot hz (hold 8 (by kernel_rfl)) (by omega)
              clear hold
              have hjs : j = 0 ∨ j = 1 ∨ j = 2 ∨ j = 3 ∨ j = 4 ∨ j = 5 ∨ j = 6 ∨ j = 7 ∨ j = 8 ∨ j = 9 ∨ j = 10 ∨ j = 11 ∨ j = 12 ∨ j = 13 ∨ j = 14 ∨ j = 15 ∨ j = 16 ∨ j = 17 ∨ j = 18 ∨ j = 19 ∨ j = 20 := by have : j < 21 := hj; omega
              rcases hjs with rfl | rfl | rfl | rfl | rfl | rfl | rfl | rfl | rfl | rfl | rfl | rfl | rfl | rfl | rfl | rfl | rfl | rfl | rfl | rfl | rfl
              all_goals
                try have f25 := at_slot hz (hf 0 25 _ rfl rfl) (by omega)
                try have f26 := at_slot hz (hf 1 26 _ rfl rfl) (by omega)
                try have f27 := at_slot hz (hf 2 27 _ rfl rfl) (by omega)
                try have f36 := at_slot hz (hf 11 36 _ rfl rfl) (by omega)
                try have f37 := at_slot hz (hf 12 37 _ rfl rfl) (by omega)
                try have f39 := at_slot hz (hf 14 39 _ rfl rfl) (by omega)
                try have f40 := at_slot hz (hf 15 40 _ rfl rfl) (by omega)
                try have f41 := at_slot hz (hf 16 41 _ rfl rfl) (by omega)
                try have f38 := at_slot hz (hf 13 38 _ rfl rfl) (by omega)
                try have f42 := at_slot hz (hf 17 42 _ rfl rfl) (by omega)
                try have f43 := at_slot hz (hf 18 43 _ rfl rfl) (by omega)
                try have f44 := at_slot hz (hf 19 44 _ rfl rfl) (by omega)
                refine wpOpIn_step rfl fun K hK => ?_
                go_simp
                first
                  | exact hK _ _ ⟨_, _, rfl, rfl, rfl, HI.out⟩
                  | (refine (FitsOf_any r A n c sh LX mx ck (fun k => x.getD k 0) w hc hx8 hxc hok (Lib.hid (hsh.out.below (HB.out.trans ((HBW.out.trans (HI.out.mono HBW.out.size)).mono HB.out.size)))) HXN (Lib.hid (HXI.out.below HI.out))).mono ?_; rintro e w' ⟨g, rfl, hg, hb'⟩; obtain rfl : g = false := (by cases g; rfl; exact absurd (show AgL r sh x from (by have h9 := hg.1 rfl; rw [← HMX.out] at h9; exact h9)) HAG.out); exact hK _ _ ⟨_, _, rfl, rfl, rfl, HI.out.trans (hb'.mono HI.out.size)⟩)
            · intro w5 hI
              simp only [List.foldl_cons, List.foldl_nil, List.setIfInBounds_toArray, List.set_cons_succ, List.set_cons_zero]
              have HI := Lib.hid hI
              have q0 := Below.old hI HCX.out
              clear hI
              gi_wp2
              go_roundw
              case rel =>
                refine ⟨i + 1, true, by omega, by go_num, rfl, by rw [HYES.out (.inl (by simp)) HAG.out], ?_, HBW.out.trans (HI.out.mono HBW.out.size)⟩
                rw [HYES.out (.inl (by simp)) HAG.out]
                exact ⟨LX, ck, by rw [HMX.out], by rw [HMX.out]; exact hxc, by rw [HMX.out]; exact HXI.out.below HI.out⟩
              case measure => simp [intOf]; omega
        | true =>
          by_cases hl : mx < my
          · by_cases hag : AgL r sh x
            · have HAG := Lib.hid hag
              clear hag
              gi_wp2
              refine wpIn_region_D (D := [(25, .bool true), (26, .bool false), (27, .bool false), (28, .slice (some ⟨gr, 0, none⟩) R rc), (29, .int .i64 (i : Int)), (30, .pointer (some ⟨gr, i, none⟩)), (31, .slice LX mx ck), (32, .int .i64 mx), (33, .slice LB my kc), (34, .int .i64 my), (35, .bool true), (36, .bool true), (37, .bool true), (38, cardV r A n c), (39, .slice (some ⟨gr, 0, none⟩) R rc), (40, .int .i64 (i : Int)), (41, .pointer (some ⟨gr, i, none⟩)), (42, .slice LX mx ck), (43, .bool true), (44, .bool false), (45, .bool false)])
                (I := fun w => Below wr.heap.size wr w) (z := 51) (by kernel_rfl) (by kernel_rfl) (by kernel_rfl) (by kernel_rfl) (by kernel_rfl) rfl rfl (Below.refl _ _).drew ?_ ?_
              · intro j a w hj hd hz hold hf hI
                have HI := Lib.hid hI
                obtain ⟨d0, d1, d2, d3, d4⟩ := HE4.out
                have hbw := HBW.out.trans (hI.mono HBW.out.size)
                have d0 := Below.old hbw d0
                have d1 := Below.old hbw d1
                have d2 := Below.old hbw d2
                have d3 := Below.old hbw d3
                have d4 := Below.old hbw d4
                have q0 := Below.old hI HCX.out
                clear hI hbw
                have s1 := at_slot hz (hold 1 (by kernel_rfl)) (by omega)
                have s5 := at_slot hz (hold 5 (by kernel_rfl)) (by omega)
                have s6 := at_slot hz (hold 6 (by kernel_rfl)) (by omega)
                have s7 := at_slot hz (hold 7 (by kernel_rfl)) (by omega)
                have s8 := at_slot hz (hold 8 (by kernel_rfl)) (by omega)
                clear hold
                have hjs : j = 0 ∨ j = 1 ∨ j = 2 ∨ j = 3 ∨ j = 4 ∨ j = 5 ∨ j = 6 ∨ j = 7 ∨ j = 8 ∨ j = 9 ∨ j = 10 ∨ j = 11 ∨ j = 12 ∨ j = 13 ∨ j = 14 ∨ j = 15 ∨ j = 16 ∨ j = 17 ∨ j = 18 ∨ j = 19 ∨ j = 20 := by have : j < 21 := hj; omega
                rcases hjs with rfl | rfl | rfl | rfl | rfl | rfl | rfl | rfl | rfl | rfl | rfl | rfl | rfl | rfl | rfl | rfl | rfl | rfl | rfl | rfl | rfl
                all_goals
                  try have f25 := at_slot hz (hf 0 25 _ rfl rfl) (by omega)
                  try have f26 := at_slot hz (hf 1 26 _ rfl rfl) (by omega)
                  try have f27 := at_slot hz (hf 2 27 _ rfl rfl) (by omega)
                  try have f28 := at_slot hz (hf 3 28 _ rfl rfl) (by omega)
                  try have f29 := at_slot hz (hf 4 29 _ rfl rfl) (by omega)
                  try have f30 := at_slot hz (hf 5 30 _ rfl rfl) (by omega)
                  try have f31 := at_slot hz (hf 6 31 _ rfl rfl) (by omega)
                  try have f33 := at_slot hz (hf 8 33 _ rfl rfl) (by omega)
                  try have f32 := at_slot hz (hf 7 32 _ rfl rfl) (by omega)
                  try have f34 := at_slot hz (hf 9 34 _ rfl rfl) (by omega)
                  try have f35 := at_slot hz (hf 10 35 _ rfl rfl) (by omega)
                  try have f36 := at_slot hz (hf 11 36 _ rfl rfl) (by omega)
                  try have f37 := at_slot hz (hf 12 37 _ rfl rfl) (by omega)
                  try have f39 := at_slot hz (hf 14 39 _ rfl rfl) (by omega)
                  try have f40 := at_slot hz (hf 15 40 _ rfl rfl) (by omega)
                  try have f41 := at_slot hz (hf 16 41 _ rfl rfl) (by omega)
                  try have f38 := at_slot hz (hf 13 38 _ rfl rfl) (by omega)
                  try have f42 := at_slot hz (hf 17 42 _ rfl rfl) (by omega)
                  try have f43 := at_slot hz (hf 18 43 _ rfl rfl) (by omega)
                  try have f44 := at_slot hz (hf 19 44 _ rfl rfl) (by omega)
                  refine wpOpIn_step rfl fun K hK => ?_
                  go_simp
                  first
                    | exact hK _ _ ⟨_, _, rfl, rfl, rfl, HI.out⟩
                    | (refine (FitsOf_any r A n c sh LX mx ck (fun k => x.getD k 0) w hc hx8 hxc hok (Lib.hid (hsh.out.below (HB.out.trans ((HBW.out.trans (HI.out.mono HBW.out.size)).mono HB.out.size)))) HXN (Lib.hid (HXI.out.below HI.out))).mono ?_; rintro e w' ⟨g, rfl, hg, hb'⟩; obtain rfl : g = true := hg.2 (HMX.out ▸ HAG.out); exact hK _ _ ⟨_, _, rfl, rfl, rfl, HI.out.trans (hb'.mono HI.out.size)⟩)
              · intro w5 hI
                simp only [List.foldl_cons, List.foldl_nil, List.setIfInBounds_toArray, List.set_cons_succ, List.set_cons_zero]
                have HI := Lib.hid hI
                clear hI
                gi_wp2
                go_roundw
                case rel =>
                  refine ⟨i + 1, true, by omega, by go_num, rfl, by rw [HNO.out (fun h => h.2 HAG.out)], ?_, HBW.out.trans (HI.out.mono HBW.out.size)⟩
                  rw [HNO.out (fun h => h.2 HAG.out)]
                  have := HBE.out.below HI.out
                  rw [HMY.out] at this
                  exact this
                case measure => simp [intOf]; omega
            · have HAG : Hid (¬ AgL r sh x) := Lib.hid hag
              clear hag
              gi_wp2
              refine wpIn_region_D (D := [(25, .bool true), (26, .bool false), (27, .bool false), (28, .slice (some ⟨gr, 0, none⟩) R rc), (29, .int .i64 (i : Int)), (30, .pointer (some ⟨gr, i, none⟩)), (31, .slice LX mx ck), (32, .int .i64 mx), (33, .slice LB my kc), (34, .int .i64 my), (35, .bool true), (36, .bool true), (37, .bool true), (38, cardV r A n c), (39, .slice (some ⟨gr, 0, none⟩) R rc), (40, .int .i64 (i : Int)), (41, .pointer (some ⟨gr, i, none⟩)), (42, .slice LX mx ck), (43, .bool false), (44, .bool true), (45, .bool true)])
                (I := fun w => Below wr.heap.size wr w) (z := 51) (by kernel_rfl) (by kernel_rfl) (by kernel_rfl) (by kernel_rfl) (by kernel_rfl) rfl rfl (Below.refl _ _).drew ?_ ?_
              · intro j a w hj hd hz hold hf hI
                have HI := Lib.hid hI
                obtain ⟨d0, d1, d2, d3, d4⟩ := HE4.out
                have hbw := HBW.out.trans (hI.mono HBW.out.size)
                have d0 := Below.old hbw d0
                have d1 := Below.old hbw d1
                have d2 := Below.old hbw d2
                have d3 := Below.old hbw d3
                have d4 := Below.old hbw d4
                have q0 := Below.old hI HCX.out
                clear hI hbw
                have s1 := at_slot hz (hold 1 (by kernel_rfl)) (by omega)
                have s5 := at_slot hz (hold 5 (by kernel_rfl)) (by omega)
                have s6 := at_slot hz (hold 6 (by kernel_rfl)) (by omega)
                have s7 := at_slot hz (hold 7 (by kernel_rfl)) (by omega)
                have s8 := at_slot hz (hold 8 (by kernel_rfl)) (by omega)
                clear hold
                have hjs : j = 0 ∨ j = 1 ∨ j = 2 ∨ j = 3 ∨ j = 4 ∨ j = 5 ∨ j = 6 ∨ j = 7 ∨ j = 8 ∨ j = 9 ∨ j = 10 ∨ j = 11 ∨ j = 12 ∨ j = 13 ∨ j = 14 ∨ j = 15 ∨ j = 16 ∨ j = 17 ∨ j = 18 ∨ j = 19 ∨ j = 20 := by have : j < 21 := hj; omega
                rcases hjs with rfl | rfl | rfl | rfl | rfl | rfl | rfl | rfl | rfl | rfl | rfl | rfl | rfl | rfl | rfl | rfl | rfl | rfl | rfl | rfl | rfl
                all_goals
                  try have f25 := at_slot hz (hf 0 25 _ rfl rfl) (by omega)
                  try have f26 := at_slot hz (hf 1 26 _ rfl rfl) (by omega)
                  try have f27 := at_slot hz (hf 2 27 _ rfl rfl) (by omega)
                  try have f28 := at_slot hz (hf 3 28 _ rfl rfl) (by omega)
                  try have f29 := at_slot hz (hf 4 29 _ rfl rfl) (by omega)
                  try have f30 := at_slot hz (hf 5 30 _ rfl rfl) (by omega)
                  try have f31 := at_slot hz (hf 6 31 _ rfl rfl) (by omega)
                  try have f33 := at_slot hz (hf 8 33 _ rfl rfl) (by omega)
                  try have f32 := at_slot hz (hf 7 32 _ rfl rfl) (by omega)
                  try have f34 := at_slot hz (hf 9 34 _ rfl rfl) (by omega)
                  try have f35 := at_slot hz (hf 10 35 _ rfl rfl) (by omega)
                  try have f36 := at_slot hz (hf 11 36 _ rfl rfl) (by omega)
                  try have f37 := at_slot hz (hf 12 37 _ rfl rfl) (by omega)
                  try have f39 := at_slot hz (hf 14 39 _ rfl rfl) (by omega)
                  try have f40 := at_slot hz (hf 15 40 _ rfl rfl) (by omega)
                  try have f41 := at_slot hz (hf 16 41 _ rfl rfl) (by omega)
                  try have f38 := at_slot hz (hf 13 38 _ rfl rfl) (by omega)
                  try have f42 := at_slot hz (hf 17 42 _ rfl rfl) (by omega)
                  try have f43 := at_slot hz (hf 18 43 _ rfl rfl) (by omega)
                  try have f44 := at_slot hz (hf 19 44 _ rfl rfl) (by omega)
                  refine wpOpIn_step rfl fun K hK => ?_
                  go_simp
                  first
                    | exact hK _ _ ⟨_, _, rfl, rfl, rfl, HI.out⟩
                    | (refine (FitsOf_any r A n c sh LX mx ck (fun k => x.getD k 0) w hc hx8 hxc hok (Lib.hid (hsh.out.below (HB.out.trans ((HBW.out.trans (HI.out.mono HBW.out.size)).mono HB.out.size)))) HXN (Lib.hid (HXI.out.below HI.out))).mono ?_; rintro e w' ⟨g, rfl, hg, hb'⟩; obtain rfl : g = false := (by cases g; rfl; exact absurd (show AgL r sh x from (by have h9 := hg.1 rfl; rw [← HMX.out] at h9; exact h9)) HAG.out); exact hK _ _ ⟨_, _, rfl, rfl, rfl, HI.out.trans (hb'.mono HI.out.size)⟩)
              · intro w5 hI
                simp only [List.foldl_cons, List.foldl_nil, List.setIfInBounds_toArray, List.set_cons_succ, List.set_cons_zero]
                have HI := Lib.hid hI
                have q0 := Below.old hI HCX.out
                clear hI
                gi_wp2
                go_roundw
                case rel =>
                  refine ⟨i + 1, true, by omega, by go_num, rfl, by rw [HYES.out (.inr hl) HAG.out], ?_, HBW.out.trans (HI.out.mono HBW.out.size)⟩
                  rw [HYES.out (.inr hl) HAG.out]
                  exact ⟨LX, ck, by rw [HMX.out], by rw [HMX.out]; exact hxc, by rw [HMX.out]; exact HXI.out.below HI.out⟩
                case measure => simp [intOf]; omega
          · have hl2 := hl
            gi_wp2
            refine wpIn_region_D (D := [(25, .bool true), (26, .bool false), (27, .bool false), (28, .slice (some ⟨gr, 0, none⟩) R rc), (29, .int .i64 (i : Int)), (30, .pointer (some ⟨gr, i, none⟩)), (31, .slice LX mx ck), (32, .int .i64 mx), (33, .slice LB my kc), (34, .int .i64 my), (35, .bool false), (36, .bool false), (37, .bool false), (38, undef), (39, undef), (40, undef), (41, undef), (42, undef), (43, undef), (44, undef), (45, .bool false)])
              (I := fun w => Below wr.heap.size wr w) (z := 51) (by kernel_rfl) (by kernel_rfl) (by kernel_rfl) (by kernel_rfl) (by kernel_rfl) rfl rfl (Below.refl _ _).drew ?_ ?_
            · intro j a w hj hd hz hold hf hI
              have HI := Lib.hid hI
              obtain ⟨d0, d1, d2, d3, d4⟩ := HE4.out
              have hbw := HBW.out.trans (hI.mono HBW.out.size)
              have d0 := Below.old hbw d0
              have d1 := Below.old hbw d1
              have d2 := Below.old hbw d2
              have d3 := Below.old hbw d3
              have d4 := Below.old hbw d4
              have q0 := Below.old hI HCX.out
              clear hI hbw
              have s1 := at_slot hz (hold 1 (by kernel_rfl)) (by omega)
              have s5 := at_slot hz (hold 5 (by kernel_rfl)) (by omega)
              have s6 := at_slot hz (hold 6 (by kernel_rfl)) (by omega)
              have s7 := at_slot hz (hold 7 (by kernel_rfl)) (by omega)
              have s8 := at_slot hz (hold 8 (by kernel_rfl)) (by omega)
              clear hold
              have hjs : j = 0 ∨ j = 1 ∨ j = 2 ∨ j = 3 ∨ j = 4 ∨ j = 5 ∨ j = 6 ∨ j = 7 ∨ j = 8 ∨ j = 9 ∨ j = 10 ∨ j = 11 ∨ j = 12 ∨ j = 13 ∨ j = 14 ∨ j = 15 ∨ j = 16 ∨ j = 17 ∨ j = 18 ∨ j = 19 ∨ j = 20 := by have : j < 21 := hj; omega
              rcases hjs with rfl | rfl | rfl | rfl | rfl | rfl | rfl | rfl | rfl | rfl | rfl | rfl | rfl | rfl | rfl | rfl | rfl | rfl | rfl | rfl | rfl
              all_goals
                try have f25 := at_slot hz (hf 0 25 _ rfl rfl) (by omega)
                try have f26 := at_slot hz (hf 1 26 _ rfl rfl) (by omega)
                try have f27 := at_slot hz (hf 2 27 _ rfl rfl) (by omega)
                try have f28 := at_slot hz (hf 3 28 _ rfl rfl) (by omega)
                try have f29 := at_slot hz (hf 4 29 _ rfl rfl) (by omega)
                try have f30 := at_slot hz (hf 5 30 _ rfl rfl) (by omega)
                try have f31 := at_slot hz (hf 6 31 _ rfl rfl) (by omega)
                try have f33 := at_slot hz (hf 8 33 _ rfl rfl) (by omega)
                try have f32 := at_slot hz (hf 7 32 _ rfl rfl) (by omega)
                try have f34 := at_slot hz (hf 9 34 _ rfl rfl) (by omega)
                try have f35 := at_slot hz (hf 10 35 _ rfl rfl) (by omega)
                try have f36 := at_slot hz (hf 11 36 _ rfl rfl) (by omega)
                try have f37 := at_slot hz (hf 12 37 _ rfl rfl) (by omega)
                refine wpOpIn_step rfl fun K hK => ?_
                go_simp
                exact hK _ _ ⟨_, _, rfl, rfl, rfl, HI.out⟩
            · intro w5 hI
              simp only [List.foldl_cons, List.foldl_nil, List.setIfInBounds_toArray, List.set_cons_succ, List.set_cons_zero]
              have HI := Lib.hid hI
              clear hI
              gi_wp2
              go_roundw
              case rel =>
                refine ⟨i + 1, true, by omega, by go_num, rfl, by rw [HNO.out ((fun h => h.1.elim (fun h => by cases h) hl))], ?_, HBW.out.trans (HI.out.mono HBW.out.size)⟩
                rw [HNO.out ((fun h => h.1.elim (fun h => by cases h) hl))]
                have := HBE.out.below HI.out
                rw [HMY.out] at this
                exact this
              case measure => simp [intOf]; omega
      · obtain rfl : i = R := by omega
        gi_wp2
        go_ret2
        obtain ⟨t1, t2⟩ := htl.out
        refine ⟨LB, _, kc, _, rfl, hkc, hints, fun _ => ?_, fun h => absurd rfl h, HB.out.trans (HBW.out.mono HB.out.size)⟩
        by_cases hal : AllAgree r sh n
        · exact .inl ⟨hal, by rw [t1 hal]; rfl⟩
        · obtain ⟨p, q, hpq⟩ := first_clash hal
          rw [t2 p q hpq]
          exact .inr ⟨hpq, rfl⟩
  · gi_enter Tryz.func16, Tryz.ntmps16
    gi_wp2_with (gi_at_call 12; refine (HCK.out _ (below_one _ _)).mono ?_; rintro e w2 ⟨rfl, hb2⟩; have HB2 := Lib.hid ((below_one _ _).trans (hb2.mono (below_one _ _).size)); clear hb2)
    go_ret2
    exact ⟨none, 0, 0, fun _ => 0, rfl, Nat.le_refl _, fun k hk => by omega, fun h => absurd h h0, fun _ => rfl, HB2.out⟩
end Go.Proofs.YtlabfeofejemjaaGreat
end
section
namespace Go.Proofs.YtlabfeofejemjaaGreat
open Go.RowKit
theorem FirstClash.same {r : Rl} {sh : Nat → Sh} {n i j i' j' : Nat} (h : FirstClash r sh n i j) (h' : FirstClash r sh n i' j') : i = i' ∧ j = j' := by
  have e := (clash_sht h).symm.trans (clash_sht h')
  injection e with e1 e2
  injection e2 with e2 _
  exact ⟨e1, e2⟩
theorem ClashIs.same {r : Rl} {sh : Nat → Sh} {n m m' : Nat} {l l' : Nat → Nat} (h : ClashIs r sh n m l) (h' : ClashIs r sh n m' l') : m = m' ∧ ∀ k, k < m → l k = l' k := by
  rcases h with ⟨h1, rfl⟩ | ⟨h1, rfl⟩
  · rcases h' with ⟨_, rfl⟩ | ⟨h2, _⟩
    · exact ⟨rfl, fun k hk => by omega⟩
    · have := h1 _ _ h2.lt h2.lt'
      rw [h2.no] at this
      cases this
  · rcases h' with ⟨h2, _⟩ | ⟨h2, rfl⟩
    · have := h2 _ _ h1.lt h1.lt'
      rw [h1.no] at this
      cases this
    · obtain ⟨e1, e2⟩ := h1.same h2
      refine ⟨rfl, fun k hk => ?_⟩
      have : k = 0 ∨ k = 1 := by omega
      rcases this with rfl | rfl
      · exact e1
      · exact e2
theorem TrustIs.same {r : Rl} {sh : Nat → Sh} {n m m' : Nat} {l l' : Nat → Nat} (h : TrustIs r sh n m l) (h' : TrustIs r sh n m' l') : m = m' ∧ ∀ k, k < m → l k = l' k := by
  obtain ⟨rfl, rfl⟩ := h
  obtain ⟨rfl, rfl⟩ := h'
  exact ⟨rfl, fun _ _ => rfl⟩
theorem lists_same {z : Int} {q : Nat → (Nat → Nat) → Prop} (hq : ∀ {m m' : Nat} {l l' : Nat → Nat}, q m l → q m' l' → m = m' ∧ ∀ k, k < m → l k = l' k) {m m' : Nat} {l l' : Nat → Nat} (h0 : z = 0 → q m l) (h1 : z ≠ 0 → m = 0) (h0' : z = 0 → q m' l') (h1' : z ≠ 0 → m' = 0) : m = m' ∧ ∀ k, k < m → l k = l' k := by
  by_cases hz : z = 0
  · exact hq (h0 hz) (h0' hz)
  · rw [h1 hz, h1' hz]
    exact ⟨rfl, fun k hk => by omega⟩
theorem fits_same {z : Int} {p : Prop} {g g' : Bool} (h0 : z = 0 → (g = true ↔ p)) (h1 : z ≠ 0 → g = false) (h0' : z = 0 → (g' = true ↔ p)) (h1' : z ≠ 0 → g' = false) : g = g' := by
  by_cases hz : z = 0
  · have := h0 hz
    have := h0' hz
    cases g <;> cases g' <;> simp_all
  · rw [h1 hz, h1' hz]
theorem clashIs_len {r : Rl} {sh : Nat → Sh} {n m : Nat} {l : Nat → Nat} (h : ClashIs r sh n m l) : m ≤ 2 := by
  rcases h with ⟨_, rfl⟩ | ⟨_, rfl⟩ <;> omega
theorem trustIs_len {r : Rl} {sh : Nat → Sh} {n m : Nat} {l : Nat → Nat} (h : TrustIs r sh n m l) : m ≤ 8 := by rw [h.1]; exact bst_len r sh _
end Go.Proofs.YtlabfeofejemjaaGreat
end
section
namespace Go.Proofs.YtlabfeofejemjaaGreat
open Go.RowKit Go.Cx Go.Conc
noncomputable def A3 : Code := match Tryz.f3.body with
  | some c => c
  | none => .skip
theorem fin3 : Fc.fn (lawFr 3).fn := by show (3 : FuncId) ∈ _; simp
theorem room3 : Fc.room (([] : List Frame).length + 1 + 0) := fun d hd => by cases hd
abbrev SeekS (W : World) (a : Act) (k : List Item) (w : World) : Prop := AtCallG 8 4 103 a k ∧ Below W.heap.size W w
theorem mark_uv (r : Rl) (sh : Nat → Sh) (d z : Int) : ∃ u v : Int, (z = 0 → u = wideU r (sh d.toNat) ∧ v = wideV r (sh d.toNat)) ∧ (z ≠ 0 → u = 0 ∧ v = 0) := by
  by_cases h : z = 0
  · exact ⟨_, _, fun _ => ⟨rfl, rfl⟩, fun h' => absurd h h'⟩
  · exact ⟨0, 0, fun h' => absurd h' h, fun _ => ⟨rfl, rfl⟩⟩
theorem len_of {z : Int} {m b : Nat} {l : Nat → Nat} {q : Nat → (Nat → Nat) → Prop} (hb : ∀ {m : Nat} {l : Nat → Nat}, q m l → m ≤ b) (h0 : z = 0 → q m l) (h1 : z ≠ 0 → m = 0) : m ≤ b := by
  by_cases h : z = 0
  · exact hb (h0 h)
  · rw [h1 h]; omega
theorem shots_walk (r : Rl) (A : Option Addr) (n c : Nat) (sh : Nat → Sh) (d : Int) (W : World) (hc : n ≤ c) (hsh : Hid (ShotsAt W A n sh)) :
    Reach Fc Tryz.prog (lawFr 3) [] (SeekS W) { tmps := #[cardV r A n c, .int .i64 d] ++ Array.replicate 101 undef, defers := [] } [.code A3] W := by
  generalize hS : SeekS W = S
  have HS := Lib.hid hS
  clear hS
  simp only [List.size_toArray, List.length_cons, List.length_nil, Nat.reduceAdd, Nat.reduceSub, Array.replicate_succ, Array.replicate_zero, List.push_toArray, List.append_toArray, List.nil_append, List.cons_append]
  simp only [A3, Tryz.f3]
  refine reach_seq fin3 room3 ?_
  refine reach_code (n := 0) rfl fin3 room3 fun R hR => ?_
  have HR := Lib.hid hR
  clear hR
  gi_wp2
  change R _ _
  refine HR.out _ _ ?_
  clear HR
  obtain ⟨w0, hw⟩ : ∃ w0, w0 = W.alloc (.cells #[.int .i64 r.ls, .int .i64 r.ms, .int .i64 r.wd, .int .i64 r.lt, .slice A n c] 26) := ⟨_, rfl⟩
  have hbx : BoxIs w0 W.heap.size r (.slice A n c) := by rw [hw]; exact heap_new _ _
  have hb0 : Below W.heap.size W w0 := by rw [hw]; exact (Below.refl _ _).alloc (Nat.le_refl _) _
  rw [← hw]
  clear hw
  have HB0 := Lib.hid hb0
  have HBX := Lib.hid hbx
  have HSH := Lib.hid (hsh.out.below hb0)
  obtain ⟨c0, c1, c2, c3, c4⟩ := hbx.cells
  clear hb0 hbx
  by_cases hn : n ≤ 20
  · have hnI : ¬ ((n : Int) > 20) := by omega
    refine reach_seq fin3 room3 (reach_seq fin3 room3 ?_)
    refine reach_code (n := 0) rfl fin3 room3 fun R hR => ?_
    have HR := Lib.hid hR
    clear hR
    gi_wp2
    change R _ _
    refine HR.out _ _ ?_
    clear HR
    refine reach_cond false (by first | rfl | (simp [Act.eval]; done) | (simp [Act.eval]; omega)) fin3 room3 ?_
    simp only [Bool.false_eq_true, if_false]
    refine reach_skip (n := 0) fin3 room3 rfl ?_
    obtain ⟨z, hz⟩ : ∃ z, firstL (wdL r sh n d) = z := ⟨_, rfl⟩
    obtain ⟨u, v, hu0, hu1⟩ := mark_uv r sh d z
    have HWA := Lib.hid fun w (hb : Below w0.heap.size w0 w) => Wide_any r A n c sh d w hn hc (Lib.hid (HSH.out.below hb)) z u v (Lib.hid hz) (Lib.hid hu0) (Lib.hid hu1)
    have HWB := Lib.hid fun w (hb : Below w0.heap.size w0 w) => RefWide_any r A n c sh d w hn hc (Lib.hid (HSH.out.below hb)) z u v (Lib.hid hz) (Lib.hid hu0) (Lib.hid hu1)
    have HCA := Lib.hid fun w (hb : Below w0.heap.size w0 w) => CheckCardA_any r A n c sh w hn hc (Lib.hid (HSH.out.below hb))
    have HCB := Lib.hid fun w (hb : Below w0.heap.size w0 w) => CheckCard_any r A n c sh w hn hc (Lib.hid (HSH.out.below hb))
    have HFA := Lib.hid fun w (hb : Below w0.heap.size w0 w) => Fits_any r A n c sh w hn hc (Lib.hid (HSH.out.below hb))
    have HFB := Lib.hid fun w (hb : Below w0.heap.size w0 w) => RefFits_any r A n c sh w hn hc (Lib.hid (HSH.out.below hb))
    have HKA := Lib.hid fun w (hb : Below w0.heap.size w0 w) => Clash_any r A n c sh w hn hc (Lib.hid (HSH.out.below hb))
    have HKB := Lib.hid fun w (hb : Below w0.heap.size w0 w) => RefClash_any r A n c sh w hn hc (Lib.hid (HSH.out.below hb))
    have HTA := Lib.hid fun w (hb : Below w0.heap.size w0 w) => Trust_any r A n c sh w hn hc (Lib.hid (HSH.out.below hb))
    have HTB := Lib.hid fun w (hb : Below w0.heap.size w0 w) => RefTrust_any r A n c sh w hn hc (Lib.hid (HSH.out.below hb))
    generalize cardZ r sh n = y at *
    clear hz hu0 hu1
    refine reach_seq fin3 room3 ?_
    refine reach_code (n := 0) rfl fin3 room3 fun R hR => ?_
    have HR := Lib.hid hR
    clear hR
    gi_wp2_with (gi_at_call 9; refine (HWA.out _ (Below.refl _ _)).mono ?_; rintro e w1 ⟨rfl, hb1⟩; have HB1 := Lib.hid hb1; clear hb1)
    change R _ _
    refine HR.out _ _ ?_
    clear HR
    clear c0 c1 c2 c3 c4
    obtain ⟨w2, hw2⟩ : ∃ w2, w2 = w1.alloc (.cells #[.int .i64 u, .int .i64 v] 29) := ⟨_, rfl⟩
    have ha2 : SpanAt w2 w1.heap.size u v := by rw [hw2]; exact span_new _ _ _
    have hb2 : Below w0.heap.size w0 w2 := by rw [hw2]; exact HB1.out.alloc HB1.out.size _
    rw [← hw2]
    clear hw2 HB1
    generalize w1.heap.size = pa at *
    have HA2 := Lib.hid ha2
    have HB2 := Lib.hid hb2
    clear ha2 hb2 w1
    obtain ⟨c0, c1, c2, c3, c4⟩ := (HBX.out.below HB2.out).cells
    refine reach_seq fin3 room3 ?_
    refine reach_code (n := 0) rfl fin3 room3 fun R hR => ?_
    have HR := Lib.hid hR
    clear hR
    gi_wp2_with (gi_at_call 10; refine (HWB.out _ HB2.out).mono ?_; rintro e w3 ⟨rfl, hb3⟩; have HB3 := Lib.hid hb3; clear hb3)
    change R _ _
    refine HR.out _ _ ?_
    clear HR
    clear c0 c1 c2 c3 c4
    obtain ⟨w4, hw4⟩ : ∃ w4, w4 = w3.alloc (.cells #[.int .i64 u, .int .i64 v] 29) := ⟨_, rfl⟩
    have hc4 : SpanAt w4 w3.heap.size u v := by rw [hw4]; exact span_new _ _ _
    have hb24 : Below w2.heap.size w2 w4 := by rw [hw4]; exact HB3.out.alloc HB3.out.size _
    have ha4 : SpanAt w4 pa u v := HA2.out.below hb24
    have hb4 : Below w0.heap.size w0 w4 := HB2.out.trans (hb24.mono HB2.out.size)
    rw [← hw4]
    clear hw4 HB3 HA2 HB2 hb24
    generalize w3.heap.size = pb at *
    have HA4 := Lib.hid ha4.cell
    have HC4 := Lib.hid hc4.cell
    have HB4 := Lib.hid hb4
    clear ha4 hc4 hb4 w3
    have HE := Lib.hid (HBX.out.below HB4.out).cells
    refine reach_seq fin3 room3 (reach_seq fin3 room3 ?_)
    refine reach_code (n := 0) rfl fin3 room3 fun R hR => ?_
    have HR := Lib.hid hR
    clear hR
    refine wpIn_region_H (R := [.val 30 (.agg #[.int .i64 u, .int .i64 v]), .val 31 (.agg #[.int .i64 u, .int .i64 v]), .val 32 (.bool false), .val 33 (.bool false), .val 34 (.int .i64 z), .val 35 (.int .i64 z), .val 36 (.bool false), .val 37 (.bool false), .val 38 (.bool false), .val 39 (cardV r A n c), .val 40 (.int .i64 y), .val 41 (cardV r A n c), .val 42 (.int .i64 y), .val 43 (.bool false), .val 44 (.bool false)])
      (I := fun L V w => Below w4.heap.size w4 w) (z := 103) (by kernel_rfl) (by kernel_rfl) rfl (by kernel_rfl) rfl rfl (Below.refl _ _).drew ?_ ?_
    · intro j L V a w hj hno hdep hah hd hz hold hv hV hI
      have HI := Lib.hid hI
      obtain ⟨e0, e1, e2, e3, e4⟩ := HE.out
      obtain ⟨p0, p1⟩ := HA4.out
      obtain ⟨q0, q1⟩ := HC4.out
      have c0 := Below.old hI e0
      have c1 := Below.old hI e1
      have c2 := Below.old hI e2
      have c3 := Below.old hI e3
      have c4 := Below.old hI e4
      have t0 := Below.old hI p0
      have t1 := Below.old hI p1
      have r0 := Below.old hI q0
      have r1 := Below.old hI q1
      have s2 := at_slot hz (hold 2 (by kernel_rfl)) (by omega)
      have s5 := at_slot hz (hold 5 (by kernel_rfl)) (by omega)
      have s6 := at_slot hz (hold 6 (by kernel_rfl)) (by omega)
      have s7 := at_slot hz (hold 7 (by kernel_rfl)) (by omega)
      have s8 := at_slot hz (hold 8 (by kernel_rfl)) (by omega)
      clear hold
      have hjs : j = 0 ∨ j = 1 ∨ j = 2 ∨ j = 3 ∨ j = 4 ∨ j = 5 ∨ j = 6 ∨ j = 7 ∨ j = 8 ∨ j = 9 ∨ j = 10 ∨ j = 11 ∨ j = 12 ∨ j = 13 ∨ j = 14 := by have : j < 15 := hj; omega
      rcases hjs with rfl | rfl | rfl | rfl | rfl | rfl | rfl | rfl | rfl | rfl | rfl | rfl | rfl | rfl | rfl
      · clear hdep hah hv hV hno hI
        refine wpOpIn_step rfl fun K hK => ?_
        go_simp
        exact hK _ _ ⟨rfl, rfl, HI.out⟩
      · clear hdep hah hv hV hno hI
        refine wpOpIn_step rfl fun K hK => ?_
        go_simp
        exact hK _ _ ⟨rfl, rfl, HI.out⟩
      · have f30 := at_slot hz (hv 0 30 _ (by kernel_rfl) rfl) (by omega)
        have f31 := at_slot hz (hv 1 31 _ (by kernel_rfl) rfl) (by omega)
        clear hdep hah hv hV hno hI
        refine wpOpIn_step rfl fun K hK => ?_
        go_simp
        exact hK _ _ ⟨rfl, rfl, HI.out⟩
      · have f32 := at_slot hz (hv 2 32 _ (by kernel_rfl) rfl) (by omega)
        clear hdep hah hv hV hno hI
        refine wpOpIn_step rfl fun K hK => ?_
        go_simp
        exact hK _ _ ⟨rfl, rfl, HI.out⟩
      · have f33 := at_slot hz (hv 3 33 _ (by kernel_rfl) rfl) (by omega)
        clear hdep hah hv hV hno hI
        refine wpOpIn_step rfl fun K hK => ?_
        go_simp
        exact hK _ _ ⟨rfl, rfl, HI.out⟩
      · have f33 := at_slot hz (hv 3 33 _ (by kernel_rfl) rfl) (by omega)
        clear hdep hah hv hV hno hI
        refine wpOpIn_step rfl fun K hK => ?_
        go_simp
        exact hK _ _ ⟨rfl, rfl, HI.out⟩
      · have f33 := at_slot hz (hv 3 33 _ (by kernel_rfl) rfl) (by omega)
        have f34 := at_slot hz (hv 4 34 _ (by kernel_rfl) rfl) (by omega)
        have f35 := at_slot hz (hv 5 35 _ (by kernel_rfl) rfl) (by omega)
        clear hdep hah hv hV hno hI
        refine wpOpIn_step rfl fun K hK => ?_
        go_simp
        exact hK _ _ ⟨rfl, rfl, HI.out⟩
      · have f33 := at_slot hz (hv 3 33 _ (by kernel_rfl) rfl) (by omega)
        have f36 := at_slot hz (hv 6 36 _ (by kernel_rfl) rfl) (by omega)
        clear hdep hah hv hV hno hI
        refine wpOpIn_step rfl fun K hK => ?_
        go_simp
        exact hK _ _ ⟨rfl, rfl, HI.out⟩
      · have f37 := at_slot hz (hv 7 37 _ (by kernel_rfl) rfl) (by omega)
        clear hdep hah hv hV hno hI
        refine wpOpIn_step rfl fun K hK => ?_
        go_simp
        exact hK _ _ ⟨rfl, rfl, HI.out⟩
      · have f38 := at_slot hz (hv 8 38 _ (by kernel_rfl) rfl) (by omega)
        clear hdep hah hv hV hno hI
        refine wpOpIn_step rfl fun K hK => ?_
        go_simp
        exact hK _ _ ⟨rfl, rfl, HI.out⟩
      · have f38 := at_slot hz (hv 8 38 _ (by kernel_rfl) rfl) (by omega)
        have f39 := at_slot hz (hv 9 39 _ (by kernel_rfl) rfl) (by omega)
        clear hdep hah hv hV hno hI
        refine wpOpIn_step rfl fun K hK => ?_
        go_simp
        refine (HCA.out w (HB4.out.trans (HI.out.mono HB4.out.size))).mono ?_
        rintro e w' ⟨rfl, hb'⟩
        exact hK _ _ ⟨rfl, rfl, HI.out.trans (hb'.mono HI.out.size)⟩
      · have f38 := at_slot hz (hv 8 38 _ (by kernel_rfl) rfl) (by omega)
        clear hdep hah hv hV hno hI
        refine wpOpIn_step rfl fun K hK => ?_
        go_simp
        exact hK _ _ ⟨rfl, rfl, HI.out⟩
      · have f38 := at_slot hz (hv 8 38 _ (by kernel_rfl) rfl) (by omega)
        have f41 := at_slot hz (hv 11 41 _ (by kernel_rfl) rfl) (by omega)
        clear hdep hah hv hV hno hI
        refine wpOpIn_step rfl fun K hK => ?_
        go_simp
        refine (HCB.out w (HB4.out.trans (HI.out.mono HB4.out.size))).mono ?_
        rintro e w' ⟨rfl, hb'⟩
        exact hK _ _ ⟨rfl, rfl, HI.out.trans (hb'.mono HI.out.size)⟩
      · have f38 := at_slot hz (hv 8 38 _ (by kernel_rfl) rfl) (by omega)
        have f40 := at_slot hz (hv 10 40 _ (by kernel_rfl) rfl) (by omega)
        have f42 := at_slot hz (hv 12 42 _ (by kernel_rfl) rfl) (by omega)
        clear hdep hah hv hV hno hI
        refine wpOpIn_step rfl fun K hK => ?_
        go_simp
        exact hK _ _ ⟨rfl, rfl, HI.out⟩
      · have f38 := at_slot hz (hv 8 38 _ (by kernel_rfl) rfl) (by omega)
        have f43 := at_slot hz (hv 13 43 _ (by kernel_rfl) rfl) (by omega)
        clear hdep hah hv hV hno hI
        refine wpOpIn_step rfl fun K hK => ?_
        go_simp
        exact hK _ _ ⟨rfl, rfl, HI.out⟩
    intro L V w5 hL hI
    have HB5 := Lib.hid (HB4.out.trans (hI.mono HB4.out.size))
    clear hI hL
    simp only [outsG, List.foldl_cons, List.foldl_nil, List.setIfInBounds_toArray, List.set_cons_succ, List.set_cons_zero]
    change R _ _
    refine HR.out _ _ ?_
    clear HR
    refine reach_cond false (by first | rfl | (simp [Act.eval]; done) | (simp [Act.eval]; omega)) fin3 room3 ?_
    simp only [Bool.false_eq_true, if_false]
    refine reach_skip (n := 0) fin3 room3 rfl ?_
    clear HE HA4 HC4 HB4 HWA HWB HCA HCB
    obtain ⟨c0, c1, c2, c3, c4⟩ := (HBX.out.below HB5.out).cells
    refine reach_seq fin3 room3 ?_
    refine reach_code (n := 0) rfl fin3 room3 fun R hR => ?_
    have HR := Lib.hid hR
    clear hR
    gi_wp2_with (gi_at_call 13; refine (HFA.out _ HB5.out).mono ?_; rintro e w6 ⟨g, rfl, hg0, hg1, hb6⟩; have HGA := Lib.hid (And.intro hg0 hg1); have HB6 := Lib.hid (HB5.out.trans (hb6.mono HB5.out.size)); clear hb6 hg0 hg1)
    change R _ _
    refine HR.out _ _ ?_
    clear HR
    clear c0 c1 c2 c3 c4
    obtain ⟨c0, c1, c2, c3, c4⟩ := (HBX.out.below HB6.out).cells
    refine reach_seq fin3 room3 ?_
    refine reach_code (n := 0) rfl fin3 room3 fun R hR => ?_
    have HR := Lib.hid hR
    clear hR
    gi_wp2_with (gi_at_call 14; refine (HFB.out _ HB6.out).mono ?_; rintro e w7 ⟨g', rfl, hg0, hg1, hb7⟩; obtain rfl : g = g' := fits_same HGA.out.1 HGA.out.2 hg0 hg1; have HB7 := Lib.hid (HB6.out.trans (hb7.mono HB6.out.size)); clear hb7 hg0 hg1)
    change R _ _
    refine HR.out _ _ ?_
    clear HR
    clear c0 c1 c2 c3 c4
    obtain ⟨c0, c1, c2, c3, c4⟩ := (HBX.out.below HB7.out).cells
    refine reach_seq fin3 room3 (reach_seq fin3 room3 ?_)
    refine reach_code (n := 0) rfl fin3 room3 fun R hR => ?_
    have HR := Lib.hid hR
    clear hR
    gi_wp2
    change R _ _
    refine HR.out _ _ ?_
    clear HR
    refine reach_cond false (by first | rfl | (simp [Act.eval]; done) | (simp [Act.eval]; omega)) fin3 room3 ?_
    simp only [Bool.false_eq_true, if_false]
    refine reach_skip (n := 0) fin3 room3 rfl ?_
    refine reach_seq fin3 room3 ?_
    refine reach_code (n := 0) rfl fin3 room3 fun R hR => ?_
    have HR := Lib.hid hR
    clear hR
    gi_wp2_with (gi_at_call 15; refine (HKA.out _ HB7.out).mono ?_; rintro e w8 ⟨L1, m1, k1, l1, rfl, hm1, hi1, hq0, hq1, hb8⟩; have HM1 := Lib.hid hm1; have HI1 := Lib.hid hi1; have HQ1 := Lib.hid (And.intro hq0 hq1); have HB8 := Lib.hid (HB7.out.trans (hb8.mono HB7.out.size)); clear hb8 hq0 hq1 hm1 hi1)
    change R _ _
    refine HR.out _ _ ?_
    clear HR
    clear c0 c1 c2 c3 c4
    obtain ⟨c0, c1, c2, c3, c4⟩ := (HBX.out.below HB8.out).cells
    refine reach_seq fin3 room3 ?_
    refine reach_code (n := 0) rfl fin3 room3 fun R hR => ?_
    have HR := Lib.hid hR
    clear hR
    gi_wp2_with (gi_at_call 16; refine (HKB.out _ HB8.out).mono ?_; rintro e w9 ⟨L2, m2, k2, l2, rfl, hm2, hi2, hq0, hq1, hb9⟩; have HS1 := Lib.hid (lists_same (q := ClashIs r sh n) (fun h h' => ClashIs.same h h') HQ1.out.1 HQ1.out.2 hq0 hq1); have HL1 := Lib.hid (len_of (q := ClashIs r sh n) clashIs_len HQ1.out.1 HQ1.out.2); have HM2 := Lib.hid hm2; have HI2 := Lib.hid hi2; have HI18 := Lib.hid (HI1.out.below hb9); have HB9 := Lib.hid (HB8.out.trans (hb9.mono HB8.out.size)); clear hb9 hq0 hq1 hm2 hi2)
    change R _ _
    refine HR.out _ _ ?_
    clear HR
    clear c0 c1 c2 c3 c4
    obtain ⟨c0, c1, c2, c3, c4⟩ := (HBX.out.below HB9.out).cells
    obtain rfl : m1 = m2 := HS1.out.1
    have HSN := Lib.hid (SameNums_any L1 L2 m1 k1 m1 k2 l1 l2 w9 (by have := HL1.out; omega) (by have := HL1.out; omega) HM1.out HM2.out HI18 HI2)
    refine reach_seq fin3 room3 (reach_seq fin3 room3 ?_)
    refine reach_code (n := 0) rfl fin3 room3 fun R hR => ?_
    have HR := Lib.hid hR
    clear hR
    gi_wp2_with (gi_at_call 17; refine HSN.out.mono ?_; rintro e w10 ⟨g2, rfl, hg2, hb10⟩; obtain rfl : g2 = true := hg2.2 ⟨rfl, HS1.out.2⟩; have HB10 := Lib.hid (HB9.out.trans (hb10.mono HB9.out.size)); clear hb10 hg2)
    change R _ _
    refine HR.out _ _ ?_
    clear HR
    refine reach_cond false (by first | rfl | (simp [Act.eval]; done) | (simp [Act.eval]; omega)) fin3 room3 ?_
    simp only [Bool.false_eq_true, if_false]
    refine reach_skip (n := 0) fin3 room3 rfl ?_
    clear c0 c1 c2 c3 c4
    obtain ⟨c0, c1, c2, c3, c4⟩ := (HBX.out.below HB10.out).cells
    clear HSN HI18 HI2 HM1 HM2 HI1 HQ1 HS1 HL1
    refine reach_seq fin3 room3 ?_
    refine reach_code (n := 0) rfl fin3 room3 fun R hR => ?_
    have HR := Lib.hid hR
    clear hR
    gi_wp2_with (gi_at_call 18; refine (HTA.out _ HB10.out).mono ?_; rintro e w11 ⟨L3, m3, k3, l3, rfl, hm1, hi1, hq0, hq1, hb11⟩; have HM1 := Lib.hid hm1; have HI1 := Lib.hid hi1; have HQ1 := Lib.hid (And.intro hq0 hq1); have HB11 := Lib.hid (HB10.out.trans (hb11.mono HB10.out.size)); clear hb11 hq0 hq1 hm1 hi1)
    change R _ _
    refine HR.out _ _ ?_
    clear HR
    clear c0 c1 c2 c3 c4
    obtain ⟨c0, c1, c2, c3, c4⟩ := (HBX.out.below HB11.out).cells
    refine reach_seq fin3 room3 ?_
    refine reach_code (n := 0) rfl fin3 room3 fun R hR => ?_
    have HR := Lib.hid hR
    clear hR
    gi_wp2_with (gi_at_call 19; refine (HTB.out _ HB11.out).mono ?_; rintro e w12 ⟨L4, m4, k4, l4, rfl, hm2, hi2, hq0, hq1, hb12⟩; have HS1 := Lib.hid (lists_same (q := TrustIs r sh n) (fun h h' => TrustIs.same h h') HQ1.out.1 HQ1.out.2 hq0 hq1); have HL1 := Lib.hid (len_of (q := TrustIs r sh n) trustIs_len HQ1.out.1 HQ1.out.2); have HM2 := Lib.hid hm2; have HI2 := Lib.hid hi2; have HI18 := Lib.hid (HI1.out.below hb12); have HB12 := Lib.hid (HB11.out.trans (hb12.mono HB11.out.size)); clear hb12 hq0 hq1 hm2 hi2)
    change R _ _
    refine HR.out _ _ ?_
    clear HR
    clear c0 c1 c2 c3 c4
    obtain ⟨c0, c1, c2, c3, c4⟩ := (HBX.out.below HB12.out).cells
    obtain rfl : m3 = m4 := HS1.out.1
    have HSN := Lib.hid (SameNums_any L3 L4 m3 k3 m3 k4 l3 l4 w12 (by have := HL1.out; omega) (by have := HL1.out; omega) HM1.out HM2.out HI18 HI2)
    refine reach_seq fin3 room3 (reach_region fin3 room3 ?_)
    refine reach_list (n := 0) 9 [9, 10, 11] rfl (fun o ho => ?_) rfl fin3 room3 fun R hR => ?_
    · simp only [List.take_succ_cons, List.take_zero, List.mem_cons, List.not_mem_nil, or_false] at ho
      rcases ho with rfl | rfl | rfl | rfl | rfl | rfl | rfl | rfl | rfl
      all_goals first
        | exact .inl rfl
        | exact .inr ⟨17, _, _, _, rfl, Tryz.func17, by kernel_rfl, by kernel_rfl⟩
    · have HR := Lib.hid hR
      clear hR
      simp only [List.take_succ_cons, List.take_zero]
      gi_wp2_with (gi_at_call 17; refine HSN.out.mono ?_; rintro e w13 ⟨g2, rfl, hg2, hb13⟩; obtain rfl : g2 = true := hg2.2 ⟨rfl, HS1.out.2⟩; have HB13 := Lib.hid (HB12.out.trans (hb13.mono HB12.out.size)); clear hb13 hg2)
      all_goals
        change R _ _
        refine HR.out _ _ (Reach.here ?_)
        rw [← HS.out]
        exact ⟨.late _ _ _ 9 10 11 8 100 101 102 ⟨⟨_, rfl, rfl, rfl, rfl⟩, rfl, ⟨_, rfl, rfl, rfl, rfl⟩, ⟨_, rfl, rfl, rfl, rfl⟩, by decide⟩ (by omega) (by omega) rfl rfl (by simp [Act.eval]) (by omega), HB0.out.trans (HB13.out.mono HB0.out.size)⟩
  · have hnI : (n : Int) > 20 := by omega
    refine reach_seq fin3 room3 (reach_seq fin3 room3 ?_)
    refine reach_code (n := 0) rfl fin3 room3 fun R hR => ?_
    have HR := Lib.hid hR
    clear hR
    gi_wp2
    change R _ _
    refine HR.out _ _ ?_
    clear HR
    refine reach_cond true (by first | rfl | (simp [Act.eval]; done) | (simp [Act.eval]; omega)) fin3 room3 ?_
    simp only [if_true]
    refine reach_seq fin3 room3 (reach_region fin3 room3 (Reach.here ?_))
    rw [← HS.out]
    exact ⟨.early _ _ _ 0 1 17 ⟨⟨_, rfl, rfl, rfl, rfl⟩, ⟨_, rfl, rfl, rfl, rfl⟩⟩ (by omega) rfl rfl, HB0.out⟩
end Go.Proofs.YtlabfeofejemjaaGreat
end
section
namespace Go.Proofs.YtlabfeofejemjaaGreat
open Go.RowKit Go.Cx Go.Conc
end Go.Proofs.YtlabfeofejemjaaGreat
end
section
namespace Go.Proofs.YtlabfeofejemjaaGreat
open Go.RowKit Go.Cx Go.Conc
end Go.Proofs.YtlabfeofejemjaaGreat
end
section
namespace Go.Proofs.YtlabfeofejemjaaGreat
open Go.RowKit Go.ChangeShapes Go.WideShapes Go.Joins
def fieldsOf (P : Program) (t : TypeId) : Option (List (Nat × TypeId)) := match P.underlying t with
  | some (.struct fs) => some (fs.toList.map fun f => (f.offset, f.type))
  | _ => none
theorem fields_two {P : Program} {t : TypeId} {o0 o1 : Nat} {t0 t1 : TypeId} (h : fieldsOf P t = some [(o0, t0), (o1, t1)]) : ∃ f0 f1 : Field, P.underlying t = some (.struct #[f0, f1]) ∧ f0.offset = o0 ∧ f0.type = t0 ∧ f1.offset = o1 ∧ f1.type = t1 := by
  unfold fieldsOf at h
  split at h
  · next fs e =>
    obtain ⟨l⟩ := fs
    match l, h with
    | [f0, f1], h =>
      simp at h
      exact ⟨f0, f1, e, h.1.1, h.1.2, h.2.1, h.2.2⟩
    | [], h => simp at h
    | [_], h => simp at h
    | _ :: _ :: _ :: _, h => simp at h
  · cases h
theorem fields_four {P : Program} {t : TypeId} {o0 o1 o2 o3 : Nat} {t0 t1 t2 t3 : TypeId} (h : fieldsOf P t = some [(o0, t0), (o1, t1), (o2, t2), (o3, t3)]) :
    ∃ f0 f1 f2 f3 : Field, P.underlying t = some (.struct #[f0, f1, f2, f3]) ∧ f0.offset = o0 ∧ f0.type = t0 ∧ f1.offset = o1 ∧ f1.type = t1 ∧ f2.offset = o2 ∧ f2.type = t2 ∧ f3.offset = o3 ∧ f3.type = t3 := by
  unfold fieldsOf at h
  split at h
  · next fs e =>
    obtain ⟨l⟩ := fs
    match l, h with
    | [f0, f1, f2, f3], h =>
      simp at h
      obtain ⟨⟨h1, h2⟩, ⟨h3, h4⟩, ⟨h5, h6⟩, h7, h8⟩ := h
      exact ⟨f0, f1, f2, f3, e, h1, h2, h3, h4, h5, h6, h7, h8⟩
    | [], h => simp at h
    | [_], h => simp at h
    | [_, _], h => simp at h
    | [_, _, _], h => simp at h
    | _ :: _ :: _ :: _ :: _ :: _, h => simp at h
  · cases h
theorem fo26 : fieldsOf Tryz.prog 26 = some [(0, 23), (4, 24)] := by kernel_rfl
theorem fo23 : fieldsOf Tryz.prog 23 = some [(0, 3), (1, 3), (2, 3), (3, 3)] := by kernel_rfl
theorem fo29 : fieldsOf Tryz.prog 29 = some [(0, 3), (1, 3)] := by kernel_rfl
theorem fo46 : fieldsOf Tryz.prog 46 = some [(0, 3), (1, 29), (3, 3), (4, 3)] := by kernel_rfl
theorem ul24 : Tryz.prog.underlying 24 = some (.slice 46) := by kernel_rfl
theorem ul3 : Tryz.prog.underlying 3 = some (.int .i64) := by kernel_rfl
theorem ul4 : Tryz.prog.underlying 4 = some .bool := by kernel_rfl
theorem co26 : Tryz.prog.cellsOf 26 = 5 := by kernel_rfl
theorem co23 : Tryz.prog.cellsOf 23 = 4 := by kernel_rfl
theorem co24 : Tryz.prog.cellsOf 24 = 1 := by kernel_rfl
theorem co3 : Tryz.prog.cellsOf 3 = 1 := by kernel_rfl
theorem co29 : Tryz.prog.cellsOf 29 = 2 := by kernel_rfl
theorem co46 : Tryz.prog.cellsOf 46 = 5 := by kernel_rfl
section
variable {H : Type} {enc : TypeId × Value → H} {W : World} {base : Nat} {sp : Nat → Bool} {held : Bool}
theorem open_span {fuel : Nat} {c0 c1 : Value} {x : DataW H × List MemPlace} (h : DataW.trod enc Tryz.prog W base sp held fuel 29 [c0, c1] = some x) : ∃ u v : Int, c0 = .int .i64 u ∧ c1 = .int .i64 v := by
  obtain ⟨f0, f1, e, a0, b0, a1, b1⟩ := fields_two fo29
  obtain ⟨y0, y1, n, _, _, t0, t1⟩ := trod_struct2 e h
  rw [a0, b0, co3] at t0
  rw [a1, b1, co3] at t1
  obtain ⟨u, h0, _⟩ := DataW.trod_int ul3 t0
  obtain ⟨v, h1, _⟩ := DataW.trod_int ul3 t1
  simp at h0 h1
  exact ⟨u, v, h0, h1⟩
theorem open_rule {fuel : Nat} {c0 c1 c2 c3 : Value} {x : DataW H × List MemPlace} (h : DataW.trod enc Tryz.prog W base sp held fuel 23 [c0, c1, c2, c3] = some x) :
    ∃ a b c d : Int, c0 = .int .i64 a ∧ c1 = .int .i64 b ∧ c2 = .int .i64 c ∧ c3 = .int .i64 d := by
  obtain ⟨f0, f1, f2, f3, e, a0, b0, a1, b1, a2, b2, a3, b3⟩ := fields_four fo23
  obtain ⟨y0, y1, y2, y3, n, _, _, t0, t1, t2, t3⟩ := trod_struct4 e h
  rw [a0, b0, co3] at t0
  rw [a1, b1, co3] at t1
  rw [a2, b2, co3] at t2
  rw [a3, b3, co3] at t3
  obtain ⟨u0, h0, _⟩ := DataW.trod_int ul3 t0
  obtain ⟨u1, h1, _⟩ := DataW.trod_int ul3 t1
  obtain ⟨u2, h2, _⟩ := DataW.trod_int ul3 t2
  obtain ⟨u3, h3, _⟩ := DataW.trod_int ul3 t3
  simp at h0 h1 h2 h3
  exact ⟨u0, u1, u2, u3, h0, h1, h2, h3⟩
theorem open_shot {fuel : Nat} {cs : List Value} {x : DataW H × List MemPlace} (h : DataW.trod enc Tryz.prog W base sp held fuel 46 cs = some x) :
    ∃ y : Sh, cs = [.int .i64 y.d, .int .i64 y.u, .int .i64 y.v, .int .i64 y.wd, .int .i64 y.lt] := by
  obtain ⟨f0, f1, f2, f3, e, a0, b0, a1, b1, a2, b2, a3, b3⟩ := fields_four fo46
  obtain ⟨y0, y1, y2, y3, n, _, hl, t0, t1, t2, t3⟩ := trod_struct4 e h
  rw [co46] at hl
  match cs, hl with
  | [c0, c1, c2, c3, c4], _ =>
    rw [a0, b0, co3] at t0
    rw [a1, b1, co29] at t1
    rw [a2, b2, co3] at t2
    rw [a3, b3, co3] at t3
    simp only [List.drop, List.take] at t0 t1 t2 t3
    obtain ⟨d, h0, _⟩ := DataW.trod_int ul3 t0
    obtain ⟨u1, v1, rfl, rfl⟩ := open_span t1
    obtain ⟨wd, h2, _⟩ := DataW.trod_int ul3 t2
    obtain ⟨lt, h3, _⟩ := DataW.trod_int ul3 t3
    simp at h0 h2 h3
    subst h0 h2 h3
    exact ⟨⟨d, u1, v1, wd, lt⟩, rfl⟩
theorem add_spot {a : Addr} {w : World} {v : Value} {k : Nat} (h : w.cell? (a.add k) = some v) (hk : k = 0) : a = ⟨a.block, a.off, none⟩ := by
  subst hk
  simp only [Addr.add, if_true] at h
  unfold World.cell? at h
  obtain ⟨b, o, sp⟩ := a
  cases sp with
  | none => rfl
  | some s =>
    dsimp only at h
    split at h
    · simp at h
    · cases h
theorem open_shots {fuel : Nat} {v : Value} {x : DataW H × List MemPlace} (h : DataW.trod enc Tryz.prog W base sp held fuel 24 [v] = some x) : ∃ (A : Option Addr) (n c : Nat) (sh : Nat → Sh), v = .slice A n c ∧ n ≤ c ∧ ShotsAt W A n sh := by
  rcases Go.Deep.open_slice ul24 h with ⟨h0, _⟩ | ⟨a, len, cap, m, n, D, Pl, h0, hb, hl, hm, hmm, rfl, hx⟩
  · simp at h0
    subst h0
    exact ⟨none, 0, 0, fun _ => ⟨0, 0, 0, 0, 0⟩, rfl, Nat.le_refl _, fun k hk => by omega⟩
  · simp at h0
    subst h0
    have hlm : len ≤ m := by rw [hmm]; split <;> omega
    have each : ∀ i, i < len → ∃ y : Sh, a = ⟨a.block, a.off, none⟩ ∧ ShotAt W a.block (a.off + i * 5) y := by
      intro i hi
      obtain ⟨cs', h1, h2⟩ := hx i (by omega)
      rw [co46] at h1
      obtain ⟨_, hlen, hcell⟩ := World.cells?_some h1
      obtain ⟨y, rfl⟩ := open_shot h2
      have hsp : a = ⟨a.block, a.off, none⟩ := by
        obtain ⟨cs0, g1, g2⟩ := hx 0 (by omega)
        rw [co46] at g1
        obtain ⟨_, glen, gcell⟩ := World.cells?_some g1
        obtain ⟨z, rfl⟩ := open_shot g2
        have g0 := gcell 0 (by omega)
        simp only [Nat.zero_mul] at g0
        have g3 : ((a.add 0).add 0) = a.add 0 := by simp [Addr.add]
        rw [g3] at g0
        exact add_spot (k := 0) g0 rfl
      refine ⟨y, hsp, ?_⟩
      have key : ∀ j, (a.add (i * 5)).add j = ⟨a.block, a.off + i * 5 + j, none⟩ := by
        intro j
        rw [hsp]
        unfold Addr.add
        by_cases h1 : i * 5 = 0 <;> by_cases h2 : j = 0 <;> simp [h1, h2]
      have e0 := hcell 0 (by omega)
      have e1 := hcell 1 (by omega)
      have e2 := hcell 2 (by omega)
      have e3 := hcell 3 (by omega)
      have e4 := hcell 4 (by omega)
      rw [key] at e0 e1 e2 e3 e4
      exact ⟨by simpa using e0, by simpa using e1, by simpa using e2, by simpa using e3, by simpa using e4⟩
    refine ⟨some a, len, cap, fun i => if hi : i < len then (each i hi).choose else ⟨0, 0, 0, 0, 0⟩, rfl, hl, fun k hk => ⟨a.block, a.off, ?_, ?_⟩⟩
    · rw [← (each k hk).choose_spec.1]
    · dsimp only
      rw [dif_pos hk]
      exact (each k hk).choose_spec.2
theorem open_card {fuel : Nat} {cs : List Value} {x : DataW H × List MemPlace} (h : DataW.trod enc Tryz.prog W base sp held fuel 26 cs = some x) :
    ∃ (r : Rl) (A : Option Addr) (n c : Nat) (sh : Nat → Sh), cs = [.int .i64 r.ls, .int .i64 r.ms, .int .i64 r.wd, .int .i64 r.lt, .slice A n c] ∧ n ≤ c ∧ ShotsAt W A n sh := by
  obtain ⟨f0, f1, e, a0, b0, a1, b1⟩ := fields_two fo26
  obtain ⟨y0, y1, n, _, hl, t0, t1⟩ := trod_struct2 e h
  rw [co26] at hl
  match cs, hl with
  | [c0, c1, c2, c3, c4], _ =>
    rw [a0, b0, co23] at t0
    rw [a1, b1, co24] at t1
    simp only [List.drop, List.take] at t0 t1
    obtain ⟨a, b, c, d, rfl, rfl, rfl, rfl⟩ := open_rule t0
    obtain ⟨A, n', cap, sh, rfl, h1, h2⟩ := open_shots t1
    exact ⟨⟨a, b, c, d⟩, A, n', cap, sh, rfl, h1, h2⟩
end
end Go.Proofs.YtlabfeofejemjaaGreat
end
section
namespace Go.Proofs.YtlabfeofejemjaaGreat
open Go.RowKit Go.Cx Go.Conc Go.ChangeShapes Go.WideShapes Go.ChangeAt
theorem fence_ok : FenceOk Tryz.prog Fc.fn := fenceOk_of (L := [3,4,5,6,7,9,10,11,12,13,14,15,16,17,18,19,20,21,22,23,24,25,26,27,28,29,30,31,32,33,34,45,46,47,48,49,50,51,52,53,54,55,56,57,58,59,60,61,74,75,76,77,78,79,80,81,82,83,84,85,111,112,113,131]) (by kernel_rfl)
theorem shot_there : ∃ fn, Tryz.prog.funcs[8]? = some fn ∧ (fn.name == "runtime.NumGoroutine") = false ∧ fn.body.isNone = false := ⟨_, Tryz.func8, by kernel_rfl, by kernel_rfl⟩
theorem law_calls {f : FuncId} {r z : Nat} {C0 : Code} {a0 : Act} {args : Array Value} {W : World} (hen : Frame.enter Tryz.prog f args .normal = (lawFr f).atR a0 [.code C0]) (hin : Fc.fn f)
    (h : Reach Fc Tryz.prog (lawFr f) [] (fun a k w => AtCallG 8 r z a k ∧ Below (strike W).heap.size (strike W) w) a0 [.code C0] (strike W)) :
    ∃ a k w N t, AtCallG 8 r z a k ∧ Below W.heap.size W w ∧ Lone t ∧ runNT Tryz.prog N (solo (G (Frame.enter Tryz.prog f args .normal) []) W) #[] = (.next (solo (G (Frame.enter Tryz.prog 8 #[] .normal) [(lawFr f).at a k]) w), t) := by
  obtain ⟨a, k, v, ⟨hat, hb⟩, hs⟩ := h
  have hs : StepsIn (Machine.fenced Tryz.prog Fc) Tryz.prog (lone (Frame.enter Tryz.prog f args .normal) [] (strike W)) (lone ((lawFr f).atR a k) [] v) := by rw [hen]; exact hs
  obtain ⟨N, w, t, hr, hl, htw⟩ := chain_calm (Fc := Fc) rfl fence_ok hs (G (Frame.enter Tryz.prog f args .normal) []) (strike W) W #[] rfl
    ⟨_, [], rfl, frIn_enter fence_ok hin _, .inl rfl, fun c h => by simp at h⟩ (twin_strike W) (fun op h => by simp at h) ((lawFr f).atR a k) [] v rfl rfl
  have hsz : (strike W).heap.size = W.heap.size := by simp [strike]
  rw [hsz] at hb
  refine ⟨a, k, w, N + 1, t, hat, twin_below htw hb, hl, ?_⟩
  rw [runNT_add, hr]
  simp only [Frame.atR_of_none (show (lawFr f).roundOf = none from rfl), runNT, stepT_solo (show (G ((lawFr f).at a k) []).status = .running from rfl), runT_solo_go (call_step shot_there hat w)]
  simp [MemOp.ofEvents]
theorem env_below {w w1 : World} (h : Env (OldL w) w w1) : Below w.heap.size w w1 where
  os := h.os
  tape := h.tape
  output := h.output
  size := h.size
  block := by
    intro k hk
    have hs := h.same k w.heap[k] (by simp [hk])
    rw [Array.getElem?_eq_getElem hk]
    cases ho : w.heap[k] with
    | cells c e fr =>
      rw [ho] at hs
      obtain ⟨c', h1, h2, h3⟩ := hs
      rw [h1]
      have : c' = c := by
        apply Array.ext h2
        intro i hi hi'
        have := h3 i ⟨k, rfl, hk⟩
        rw [Array.getElem?_eq_getElem hi, Array.getElem?_eq_getElem hi'] at this
        exact Option.some.inj this
      rw [this]
    | _ => rw [ho] at hs; exact hs ⟨k, rfl, hk⟩
theorem entry_rel (hp : TabOk Tryz.tab) (b : Frame) (w : World) : XRel (fun _ => none) (fun _ => False) (fun _ => False) [b] Tryz.x0 (G (Frame.enter Tryz.prog 8 #[] .normal) [b]) w := by
  obtain ⟨fr, he⟩ : ∃ fr, enterA Tryz.tab 8 [] false = some fr := by
    cases h : enterA Tryz.tab 8 [] false with
    | some fr => exact ⟨fr, rfl⟩
    | none => exact absurd (show (enterA Tryz.tab 8 [] false).isSome = true by kernel_rfl) (by rw [h]; simp)
  have hr := enter_rel (f := fun _ => none) hp (args' := #[]) (kind := .normal) .nil he rfl
  unfold Tryz.x0
  rw [he]
  refine .plain (Bd := 0) ⟨⟨_, [], rfl, hr, .nil⟩, ?_⟩ (Nat.zero_le _) .nil
  exact {
    wf := ⟨fun b o h => by simp [T.get] at h, fun b c x r ba m h => by simp [T.get] at h, fun r m h => by simp [members, T.get] at h⟩
    obj := fun b x h => by cases h
    mine := fun b x h => by cases h
    part := fun b x i h => by cases h
    apart := fun b b' x x' o o' h => by cases h
    coord := fun b b' x x' o o' h => by cases h
    home := fun b x h => by cases h }
theorem law_run {f : FuncId} {fl : Func} {r z : Nat} {C0 : Code} {a0 : Act} {args : Array Value} {W : World} (hen : Frame.enter Tryz.prog f args .normal = (lawFr f).atR a0 [.code C0]) (hin : Fc.fn f) (hfl : Tryz.prog.funcs[f]? = some fl) (hres : fl.results = #[.tmp r]) (hrz : r < z)
    (h : Reach Fc Tryz.prog (lawFr f) [] (fun a k w => AtCallG 8 r z a k ∧ Below (strike W).heap.size (strike W) w) a0 [.code C0] (strike W)) :
    ∃ M last o w' t', runNT Tryz.prog (M + 1) (solo (G (Frame.enter Tryz.prog f args .normal) []) W) #[] = (.ended o w', t') ∧
      runN Tryz.prog M (solo (G (Frame.enter Tryz.prog f args .normal) []) W) = .next last ∧ Go.step Tryz.prog last = .ended o w' ∧
      Go.Conc.Good Tryz.prog (fun v w1 => v = .bool true ∧ Below W.heap.size W w1) last o w' t' := by
  obtain ⟨a, k, w, N, t, hat, hb, hl, hr⟩ := law_calls hen hin h
  obtain ⟨K, last, o, w2, t2, h1, h2, h3, h4⟩ := Tryz.shot_run (b := (lawFr f).at a k) (bot := []) (sl := none) hl (fun l h => h.elim) (entry_rel Tryz.tabOk _ w) (Post := fun v w1 => v = .bool true ∧ Env (OldL w) w w1) (n := 4) (fun w' he => after_callG fence_ok hin hfl hres hrz hat he)
  rw [← solo_eq_crowd] at h1 h2
  obtain ⟨r1, r2⟩ := run_then hr h1 h2
  exact ⟨N + K, last, o, w2, t2, r1, r2, h3, h4.mono fun v hp => ⟨hp.1, hb.trans ((env_below hp.2).mono hb.size)⟩⟩
theorem shots_strike {W : World} {A : Option Addr} {n : Nat} {sh : Nat → Sh} (h : ShotsAt W A n sh) : ShotsAt (strike W) A n sh := fun k hk => by
  obtain ⟨b, o, e, hx⟩ := h k hk
  have c := fun a => (twin_strike W).cell a
  exact ⟨b, o, e, by rw [← c]; exact hx.h0, by rw [← c]; exact hx.h1, by rw [← c]; exact hx.h2, by rw [← c]; exact hx.h3, by rw [← c]; exact hx.h4⟩
theorem own : ownKnob Tryz.prog.godebug = none := by kernel_rfl
theorem laidOut : laidOutB Tryz.prog = true := by kernel_rfl
theorem shut_true {H : Type} {enc : TypeId × Value → H} {w : World} {base : Nat} {sp : Nat → Bool} {held : Bool} : DataW.Trod enc Tryz.prog w base sp held 4 (.bool true) (.lit (.bool true)) [] := by
  refine ⟨1, ?_⟩
  simp only [DataW.trod, Value.cells, ul4]
end Go.Proofs.YtlabfeofejemjaaGreat
end
section
namespace Go.Proofs.YtlabfeofejemjaaGreat
open Go.RowKit Go.Cx Go.Conc Go.ChangeShapes Go.WideShapes Go.ChangeAt Go.Joins
section
variable {H : Type} {enc : TypeId × Value → H} {P : Program} {w : World} {base : Nat} {spare : Nat → Bool} {held : Bool}
end
theorem agg_of {W : World} {b0 : Nat} {r : Go.Reach} {t : TypeId} {v : Value} {fs : Array Field} (e : Tryz.prog.underlying t = some (.struct fs)) (h : Value.okWide Tryz.prog W r b0 t v) : ∃ cs, v = .agg cs := by
  unfold Value.okWide at h
  rw [e] at h
  obtain ⟨cs, h, _⟩ := h
  exact ⟨cs, h⟩
end Go.Proofs.YtlabfeofejemjaaGreat
end
section
namespace Go.Proofs.YtlabfeofejemjaaGreat
open Go.RowKit Go.Cx Go.Conc Go.ChangeShapes Go.WideShapes Go.ChangeAt Go.Joins
theorem enter3 (v0 v1 : Value) : Frame.enter Tryz.prog 3 #[v0, v1] .normal = (lawFr 3).atR { tmps := #[v0, v1] ++ Array.replicate 101 undef, defers := [] } [.code A3] := by
  have hb : Tryz.f3.body = some A3 := rfl
  simp [Frame.enter, Frame.atR, Tryz.func3, hb]
theorem shots_run (r : Rl) (A : Option Addr) (n c : Nat) (sh : Nat → Sh) (d : Int) (W : World) (hc : n ≤ c) (hsh : ShotsAt W A n sh) :
    ∃ M last o w' t', runNT Tryz.prog (M + 1) (solo (G (Frame.enter Tryz.prog 3 #[cardV r A n c, .int .i64 d] .normal) []) W) #[] = (.ended o w', t') ∧
      runN Tryz.prog M (solo (G (Frame.enter Tryz.prog 3 #[cardV r A n c, .int .i64 d] .normal) []) W) = .next last ∧ Go.step Tryz.prog last = .ended o w' ∧
      Go.Conc.Good Tryz.prog (fun v w1 => v = .bool true ∧ Below W.heap.size W w1) last o w' t' :=
  law_run (enter3 _ _) fin3 Tryz.func3 rfl (by omega) (shots_walk r A n c sh d (strike W) hc (Lib.hid (shots_strike hsh)))
theorem params3 : Tryz.f3.params.toList = [26, 3] := rfl
theorem shots_lifted (os : Os) (started : os.Started) (H : Type) (enc : TypeId × Value → H) :
    ReturnsInLeavingWide {} Tryz.checked os 3 .any (Rows.arrowShotsSpec.pre6 enc Tryz.prog Tryz.f3 Rows.arrowShotsRow.domain false) (Rows.arrowShotsSpec.post enc Tryz.prog Tryz.f3 false true false false) := by
  refine returnsInLeavingWide_of_change_sized (C := Tryz.checked) own started Tryz.func3
    (ChangeSpec.witness6 (enc := enc) (C := Tryz.checked) false ⟨#[], #[.agg #[.int .i64 0, .int .i64 0, .int .i64 0, .int .i64 0, .slice none 0 0], .int .i64 0], []⟩ 8 (by kernel_rfl) (by kernel_rfl) (by kernel_rfl) (by kernel_rfl)) ?_
  intro W base args ds gs before hval0 hW _ _ _
  have hval : ∀ (j : Nat) t v, Tryz.f3.params[j]? = some t → args[j]? = some v → Value.okWide Tryz.prog W .any base t v := hval0
  have hW' := hW
  obtain ⟨p, q, hA0, hV, rfl, _, _⟩ := hW
  have hA : DataW.TrodAll enc Tryz.prog W 0 (fun _ => true) true Tryz.f3.params.toList args.toList ds p := hA0
  rw [params3] at hA
  obtain ⟨v0, v1, d0, d1, p0, p1, rfl, rfl, rfl, h0, h1⟩ := trodAll_two hA
  obtain ⟨rfl, rfl⟩ := trodVars_none hV
  obtain ⟨d, rfl, rfl, rfl, hw1⟩ := open_int ul3 (hval 1 3 v1 rfl rfl) h1
  obtain ⟨f0, f1, e26, _⟩ := fields_two fo26
  obtain ⟨cs, rfl⟩ := agg_of e26 (hval 0 26 v0 rfl rfl)
  have h0k := h0
  obtain ⟨fuel, hf⟩ := h0
  obtain ⟨r, A, n, c, sh, hcs, hc, hsh⟩ := open_card hf
  have hcs' : cs = #[.int .i64 r.ls, .int .i64 r.ms, .int .i64 r.wd, .int .i64 r.lt, .slice A n c] := by
    have : cs.toList = [.int .i64 r.ls, .int .i64 r.ms, .int .i64 r.wd, .int .i64 r.lt, .slice A n c] := hcs
    exact Array.toList_inj.1 this
  subst hcs'
  clear hA0 hval0
  have hlt : ∀ y, y ∈ p0 → y.block < W.heap.size := fun y hy => hW'.lt y (by simp [hy])
  obtain ⟨M, last, o, w', t', r1, r2, r3, r4⟩ := shots_run r A n c sh d W hc hsh
  refine ⟨M, last, o, w', t', r1, r2, r3, r4.mono fun v hF => ?_⟩
  obtain ⟨rfl, hb⟩ := hF
  refine ⟨_, _, _, [], p0 ++ [], [], hW', ?_, ?_, rfl, hb.frame _, fun h => by cases h⟩
  · exact trodAll_mk1 (t := 4) (v := .bool true) (d := .lit (.bool true)) shut_true
  · exact trodAll_mk2 (Below.trod laidOut (by kernel_rfl) (of_decide_eq_true (by kernel_rfl)) h0k hb fun x hx => hlt x hx) (shut_int (enc := enc) (w := w') (base := 0) (spare := fun b => decide (b < W.heap.size)) (held := true) ul3 hw1)
theorem arrowShots_holds : Rows.ArrowShotsSaid :=
  OpenClaim.holds_of_wide_leaving 3 Tryz.f3 rfl rfl rfl rfl rfl rfl rfl ⟨rfl, rfl, rfl, rfl, rfl⟩ rfl rfl rfl rfl rfl (by kernel_rfl) Tryz.func3 (by kernel_rfl)
    (of_decide_eq_true (by kernel_rfl)) (by unfold Func.isWrapper; first | (rw [if_pos (by decide +kernel)]; kernel_rfl) | (rw [if_neg (by decide +kernel)]; exact ⟨rfl, rfl⟩))
    (fun os started H enc _ => shots_lifted os started H enc)
end Go.Proofs.YtlabfeofejemjaaGreat
end
