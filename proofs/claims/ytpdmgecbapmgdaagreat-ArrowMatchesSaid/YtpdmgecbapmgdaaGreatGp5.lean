/- A part of the proof that ArrowMatches returns true for every input: no further condition. -/
import Derived.Test.YtpdmgecbapmgdaaGreatGp4
import Derived.Test.YtpdmgecbapmgdaaGreatGp3
import Derived.Test.YtpdmgecbapmgdaaGreatGp2
set_option linter.unusedVariables false
set_option maxHeartbeats 4000000
set_option maxRecDepth 100000
section
namespace Go.Proofs.YtpdmgecbapmgdaaGreat
open Go.RowKit
def itemZ (n : Nat) (l : Nat → Int) (i : Nat) : Int := if 0 ≤ l i ∧ l i < n then (if 0 < i ∧ l i ≤ l (i - 1) then 7 else 0) else 6
def ascZ (n : Nat) (l : Nat → Int) (m : Nat) : Int := firstZ (itemZ n l) m
theorem hasList1_any (lp sp : Nat) (LA : Option Addr) (m lc : Nat) (l : Nat → Int) (rs rl rw many : Int) (A : Option Addr) (n c : Nat) (W : World) (hn : n ≤ 20) (hm : m ≤ 20)
    (hbox : Hid (ListBox W lp sp LA m lc rs rl rw many A n c)) (hi : Hid (IntsAt W LA m l)) :
    CallsIn Fc 0 Tryz.prog 99 #[ptr lp, ptr sp] W (SaysInt (ascZ n l m) W) := by
  have e0 := hbox.out.l
  unfold ascZ
  gi_enter Tryz.func99, Tryz.ntmps99
  gi_wp2
  clear e0
  gi_loopw [7] (fun i wr => ∃ k : Nat, k ≤ m ∧ i = .int .i64 k ∧ Below W.heap.size W wr ∧ ∀ j, j < k → itemZ n l j = 0) (fun i _ => m - (intOf i).toNat)
  case atStart => exact ⟨0, Nat.zero_le _, rfl, Below.refl _ _, fun j h => by omega⟩
  case round =>
    obtain ⟨k, hk, rfl, hb, hz⟩ := hrel
    have HZ := Lib.hid hz
    clear hz
    by_cases hlt : k < m
    · obtain ⟨b, o, rfl, hc⟩ := hi.out k hlt
      have hck := Below.old hb hc
      obtain ⟨d0, d1, d2, d3, d4, d5⟩ := hbox.out.below hb
      have HB := Lib.hid hb
      clear hb hc
      have hnext : itemZ n l k = 0 → ∀ j, j < k + 1 → itemZ n l j = 0 := fun h0 j hj => by
        rcases Nat.lt_succ_iff_lt_or_eq.1 hj with h | rfl
        · exact HZ.out j h
        · exact h0
      have hstop : ∀ z, itemZ n l k = z → z ≠ 0 → firstZ (itemZ n l) m = z := fun z h h0 => (firstZ_at HZ.out (by rw [h]; exact h0) hlt).trans h
      have HNX := Lib.hid hnext
      have HST := Lib.hid hstop
      clear hnext hstop
      by_cases hin : 0 ≤ l k ∧ l k < n
      · have hdec := decide_eq_true hin
        have HD := Lib.hid hdec
        have HIN := Lib.hid hin
        clear hdec hin
        cases k with
        | zero =>
          have h0 : itemZ n l 0 = 0 := by unfold itemZ; rw [if_pos HIN.out, if_neg (fun h => absurd h.1 (by decide))]
          have HN0 := Lib.hid (HNX.out h0)
          clear h0
          simp only [Nat.add_zero] at hck
          gi_wp2_with (gi_at_call 100; refine (has_any _ _ _ _ _ _ _ _ _ hn).mono ?_; rintro e w' ⟨rfl, hb1⟩; rw [HD.out])
          go_roundw
          case rel => exact ⟨0 + 1, by omega, by first | rfl | go_num, HB.out.trans (hb1.mono HB.out.size), HN0.out⟩
          case measure => simp [intOf]; omega
        | succ j =>
          obtain ⟨b', o', e, hc'⟩ := hi.out j (by omega)
          cases e
          have hcj := Below.old HB.out hc'
          clear hc'
          have HCJ := Lib.hid hcj
          clear hcj
          by_cases hord : l (j + 1) ≤ l j
          · have h7 : itemZ n l (j + 1) = 7 := by unfold itemZ; rw [if_pos HIN.out, if_pos ⟨by omega, by simpa using hord⟩]
            have HS := Lib.hid (HST.out 7 h7 (by decide))
            clear h7
            gi_wp2_with (gi_at_call 100; refine (has_any _ _ _ _ _ _ _ _ _ hn).mono ?_; rintro e w' ⟨rfl, hb1⟩; rw [HD.out]; have f0 := Below.old hb1 HCJ.out; have f1 := Below.old hb1 d0)
            go_ret
            exact ⟨congrArg (fun z => Ending.returned (Value.int .i64 z)) HS.out.symm, HB.out.trans (hb1.mono HB.out.size)⟩
          · have h0 : itemZ n l (j + 1) = 0 := by unfold itemZ; rw [if_pos HIN.out, if_neg (fun h => hord (by simpa using h.2))]
            have HN0 := Lib.hid (HNX.out h0)
            clear h0
            gi_wp2_with (gi_at_call 100; refine (has_any _ _ _ _ _ _ _ _ _ hn).mono ?_; rintro e w' ⟨rfl, hb1⟩; rw [HD.out]; have f0 := Below.old hb1 HCJ.out; have f1 := Below.old hb1 d0)
            go_roundw
            case rel => exact ⟨j + 1 + 1, by omega, by go_num, HB.out.trans (hb1.mono HB.out.size), HN0.out⟩
            case measure => simp [intOf]; omega
      · have hdec := decide_eq_false hin
        have HD := Lib.hid hdec
        have h6 : itemZ n l k = 6 := by unfold itemZ; rw [if_neg hin]
        have HS := Lib.hid (HST.out 6 h6 (by decide))
        clear hdec hin h6
        gi_wp2_with (gi_at_call 100; refine (has_any _ _ _ _ _ _ _ _ _ hn).mono ?_; rintro e w' ⟨rfl, hb1⟩; rw [HD.out])
        go_ret
        exact ⟨congrArg (fun z => Ending.returned (Value.int .i64 z)) HS.out.symm, HB.out.trans (hb1.mono HB.out.size)⟩
    · have HF : Hid (firstZ (itemZ n l) m = 0) := Lib.hid (firstZ_zero.2 fun j hj => HZ.out j (by omega))
      gi_wp2
      go_ret
      exact ⟨congrArg (fun z => Ending.returned (Value.int .i64 z)) HF.out.symm, hb⟩
end Go.Proofs.YtpdmgecbapmgdaaGreat
end
section
namespace Go.Proofs.YtpdmgecbapmgdaaGreat
open Go.RowKit
theorem Ascending_any (LA : Option Addr) (m lc n : Nat) (l : Nat → Int) (W : World) (hn : n ≤ 20) (hm : m ≤ 20) (hmc : m ≤ lc) (hi : Hid (IntsAt W LA m l)) :
    CallsIn Fc 0 Tryz.prog 43 #[.slice LA m lc, .int .i64 n] W (SaysInt (ascZ n l m) W) := by
  unfold ascZ
  have hsub : IntKind.wrap .i64 ((n : Int) - 1) = (n : Int) - 1 := by
    simp [IntKind.wrap, IntKind.signed, IntKind.bits]
    omega
  gi_enter Tryz.func43, Tryz.ntmps43
  gi_wp2
  gi_loopw [5] (fun i wr => ∃ k : Nat, k ≤ m ∧ i = .int .i64 k ∧ Below W.heap.size W wr ∧ ∀ j, j < k → itemZ n l j = 0) (fun i _ => m - (intOf i).toNat)
  case atStart => exact ⟨0, Nat.zero_le _, rfl, Below.refl _ _, fun j h => by omega⟩
  case round =>
    obtain ⟨k, hk, rfl, hb, hz⟩ := hrel
    rename World => wq
    have HZ := Lib.hid hz
    clear hz
    by_cases hlt : k < m
    · obtain ⟨b, o, rfl, hc⟩ := hi.out k hlt
      have hck := Below.old hb hc
      have HB := Lib.hid hb
      clear hb hc
      have hnext : itemZ n l k = 0 → ∀ j, j < k + 1 → itemZ n l j = 0 := fun h0 j hj => by
        rcases Nat.lt_succ_iff_lt_or_eq.1 hj with h | rfl
        · exact HZ.out j h
        · exact h0
      have hstop : ∀ z, itemZ n l k = z → z ≠ 0 → firstZ (itemZ n l) m = z := fun z h h0 => (firstZ_at HZ.out (by rw [h]; exact h0) hlt).trans h
      have HNX := Lib.hid hnext
      have HST := Lib.hid hstop
      clear hnext hstop
      by_cases hin : 0 ≤ l k ∧ l k < n
      · have hdec : inB (l k) 0 ((n : Int) - 1) = true := by simp [inB]; omega
        have HD := Lib.hid hdec
        have HIN := Lib.hid hin
        clear hdec hin
        by_cases hk0 : k = 0
        · subst hk0
          have h0 : itemZ n l 0 = 0 := by unfold itemZ; rw [if_pos HIN.out, if_neg (fun h => absurd h.1 (by decide))]
          have HN0 := Lib.hid (HNX.out h0)
          clear h0
          simp only [Nat.add_zero] at hck
          gi_wp2_with (gi_at_call 62; (try rw [hsub]); refine (in_any _ _ _ _).mono ?_; rintro e w' ⟨rfl, rfl⟩; rw [HD.out])
          refine wpIn_region_D (D := [(20, .int .i64 (0 : Nat)), (21, .bool false), (22, .bool false), (23, undef), (24, undef), (25, undef), (26, undef), (27, undef), (28, undef), (29, undef), (30, undef), (31, undef), (32, undef), (33, .bool false)]) (I := fun w => Below wq.heap.size wq w) (z := 34) (by kernel_rfl) (by kernel_rfl) (by kernel_rfl) (by kernel_rfl) (by kernel_rfl) rfl rfl (Below.refl _ _).drew ?_ ?_
          · intro j a w hj hd hz' hold hf hI
            have HI := Lib.hid hI
            have ck := Below.old hI hck
            clear hI
            have s0 := at_slot hz' (hold 0 (by kernel_rfl)) (by omega)
            have s5 := at_slot hz' (hold 5 (by kernel_rfl)) (by omega)
            clear hold
            have hjs : j = 0 ∨ j = 1 ∨ j = 2 ∨ j = 3 ∨ j = 4 ∨ j = 5 ∨ j = 6 ∨ j = 7 ∨ j = 8 ∨ j = 9 ∨ j = 10 ∨ j = 11 ∨ j = 12 ∨ j = 13 := by have : j < 14 := hj; omega
            rcases hjs with rfl | rfl | rfl | rfl | rfl | rfl | rfl | rfl | rfl | rfl | rfl | rfl | rfl | rfl
            all_goals
              try have f20 := at_slot hz' (hf 0 20 _ rfl rfl) (by omega)
              try have f21 := at_slot hz' (hf 1 21 _ rfl rfl) (by omega)
              try have f22 := at_slot hz' (hf 2 22 _ rfl rfl) (by omega)
              try have f32 := at_slot hz' (hf 12 32 _ rfl rfl) (by omega)
              refine wpOpIn_step rfl fun K hK => ?_
              go_simp
              exact hK _ _ ⟨_, _, rfl, rfl, rfl, HI.out⟩
          · intro w hI
            have HI := Lib.hid hI
            clear hI
            simp only [List.foldl_cons, List.foldl_nil, List.setIfInBounds_toArray, List.set_cons_succ, List.set_cons_zero]
            gi_wp2
            go_roundw
            case rel => exact ⟨0 + 1, by omega, by first | rfl | go_num, HB.out.trans (HI.out.mono HB.out.size), HN0.out⟩
            case measure => simp [intOf]; omega
        · obtain ⟨b', o', e, hc'⟩ := hi.out (k - 1) (by omega)
          cases e
          have hcj := Below.old HB.out hc'
          clear hc'
          have hw1 : IntKind.wrap .i64 ((k : Int) - 1) = ((k - 1 : Nat) : Int) := by
            simp [IntKind.wrap, IntKind.signed, IntKind.bits]
            omega
          have hkp : (0 : Int) < k := by omega
          have hkn : decide (0 < k) = true := decide_eq_true (by omega)
          have hkm : k - 1 < m := by omega
          by_cases hord : l k ≤ l (k - 1)
          · have h7 : itemZ n l k = 7 := by unfold itemZ; rw [if_pos HIN.out, if_pos ⟨by omega, hord⟩]
            have HS := Lib.hid (HST.out 7 h7 (by decide))
            clear h7
            gi_wp2_with (gi_at_call 62; (try rw [hsub]); refine (in_any _ _ _ _).mono ?_; rintro e w' ⟨rfl, rfl⟩; rw [HD.out])
            refine wpIn_region_D (D := [(20, .int .i64 k), (21, .bool true), (22, .bool true), (23, .slice (some ⟨b, o, none⟩) m lc), (24, .int .i64 k), (25, .pointer (some ⟨b, o + k, none⟩)), (26, .int .i64 (l k)), (27, .slice (some ⟨b, o, none⟩) m lc), (28, .int .i64 k), (29, .int .i64 (k - 1 : Nat)), (30, .pointer (some ⟨b, o + (k - 1), none⟩)), (31, .int .i64 (l (k - 1))), (32, .bool true), (33, .bool true)]) (I := fun w => Below wq.heap.size wq w) (z := 34) (by kernel_rfl) (by kernel_rfl) (by kernel_rfl) (by kernel_rfl) (by kernel_rfl) rfl rfl (Below.refl _ _).drew ?_ ?_
            · intro j a w hj hd hz' hold hf hI
              have HI := Lib.hid hI
              have ck := Below.old hI hck
              have cj := Below.old hI hcj
              clear hI
              have s0 := at_slot hz' (hold 0 (by kernel_rfl)) (by omega)
              have s5 := at_slot hz' (hold 5 (by kernel_rfl)) (by omega)
              clear hold
              have hjs : j = 0 ∨ j = 1 ∨ j = 2 ∨ j = 3 ∨ j = 4 ∨ j = 5 ∨ j = 6 ∨ j = 7 ∨ j = 8 ∨ j = 9 ∨ j = 10 ∨ j = 11 ∨ j = 12 ∨ j = 13 := by have : j < 14 := hj; omega
              rcases hjs with rfl | rfl | rfl | rfl | rfl | rfl | rfl | rfl | rfl | rfl | rfl | rfl | rfl | rfl
              all_goals
                try have f20 := at_slot hz' (hf 0 20 _ rfl rfl) (by omega)
                try have f21 := at_slot hz' (hf 1 21 _ rfl rfl) (by omega)
                try have f22 := at_slot hz' (hf 2 22 _ rfl rfl) (by omega)
                try have f23 := at_slot hz' (hf 3 23 _ rfl rfl) (by omega)
                try have f24 := at_slot hz' (hf 4 24 _ rfl rfl) (by omega)
                try have f25 := at_slot hz' (hf 5 25 _ rfl rfl) (by omega)
                try have f28 := at_slot hz' (hf 8 28 _ rfl rfl) (by omega)
                try have f27 := at_slot hz' (hf 7 27 _ rfl rfl) (by omega)
                try have f29 := at_slot hz' (hf 9 29 _ rfl rfl) (by omega)
                try have f30 := at_slot hz' (hf 10 30 _ rfl rfl) (by omega)
                try have f26 := at_slot hz' (hf 6 26 _ rfl rfl) (by omega)
                try have f31 := at_slot hz' (hf 11 31 _ rfl rfl) (by omega)
                try have f32 := at_slot hz' (hf 12 32 _ rfl rfl) (by omega)
                refine wpOpIn_step rfl fun K hK => ?_
                go_simp
                exact hK _ _ ⟨_, _, rfl, rfl, rfl, HI.out⟩
            · intro w hI
              have HI := Lib.hid hI
              clear hI
              simp only [List.foldl_cons, List.foldl_nil, List.setIfInBounds_toArray, List.set_cons_succ, List.set_cons_zero]
              gi_wp2
              go_ret
              exact ⟨congrArg (fun z => Ending.returned (Value.int .i64 z)) HS.out.symm, HB.out.trans (HI.out.mono HB.out.size)⟩
          · have h0 : itemZ n l k = 0 := by unfold itemZ; rw [if_pos HIN.out, if_neg (fun h => hord h.2)]
            have hdf : decide (l k ≤ l (k - 1)) = false := decide_eq_false hord
            have HN0 := Lib.hid (HNX.out h0)
            clear h0
            gi_wp2_with (gi_at_call 62; (try rw [hsub]); refine (in_any _ _ _ _).mono ?_; rintro e w' ⟨rfl, rfl⟩; rw [HD.out])
            refine wpIn_region_D (D := [(20, .int .i64 k), (21, .bool true), (22, .bool true), (23, .slice (some ⟨b, o, none⟩) m lc), (24, .int .i64 k), (25, .pointer (some ⟨b, o + k, none⟩)), (26, .int .i64 (l k)), (27, .slice (some ⟨b, o, none⟩) m lc), (28, .int .i64 k), (29, .int .i64 (k - 1 : Nat)), (30, .pointer (some ⟨b, o + (k - 1), none⟩)), (31, .int .i64 (l (k - 1))), (32, .bool false), (33, .bool false)]) (I := fun w => Below wq.heap.size wq w) (z := 34) (by kernel_rfl) (by kernel_rfl) (by kernel_rfl) (by kernel_rfl) (by kernel_rfl) rfl rfl (Below.refl _ _).drew ?_ ?_
            · intro j a w hj hd hz' hold hf hI
              have HI := Lib.hid hI
              have ck := Below.old hI hck
              have cj := Below.old hI hcj
              clear hI
              have s0 := at_slot hz' (hold 0 (by kernel_rfl)) (by omega)
              have s5 := at_slot hz' (hold 5 (by kernel_rfl)) (by omega)
              clear hold
              have hjs : j = 0 ∨ j = 1 ∨ j = 2 ∨ j = 3 ∨ j = 4 ∨ j = 5 ∨ j = 6 ∨ j = 7 ∨ j = 8 ∨ j = 9 ∨ j = 10 ∨ j = 11 ∨ j = 12 ∨ j = 13 := by have : j < 14 := hj; omega
              rcases hjs with rfl | rfl | rfl | rfl | rfl | rfl | rfl | rfl | rfl | rfl | rfl | rfl | rfl | rfl
              all_goals
                try have f20 := at_slot hz' (hf 0 20 _ rfl rfl) (by omega)
                try have f21 := at_slot hz' (hf 1 21 _ rfl rfl) (by omega)
                try have f22 := at_slot hz' (hf 2 22 _ rfl rfl) (by omega)
                try have f23 := at_slot hz' (hf 3 23 _ rfl rfl) (by omega)
                try have f24 := at_slot hz' (hf 4 24 _ rfl rfl) (by omega)
                try have f25 := at_slot hz' (hf 5 25 _ rfl rfl) (by omega)
                try have f28 := at_slot hz' (hf 8 28 _ rfl rfl) (by omega)
                try have f27 := at_slot hz' (hf 7 27 _ rfl rfl) (by omega)
                try have f29 := at_slot hz' (hf 9 29 _ rfl rfl) (by omega)
                try have f30 := at_slot hz' (hf 10 30 _ rfl rfl) (by omega)
                try have f26 := at_slot hz' (hf 6 26 _ rfl rfl) (by omega)
                try have f31 := at_slot hz' (hf 11 31 _ rfl rfl) (by omega)
                try have f32 := at_slot hz' (hf 12 32 _ rfl rfl) (by omega)
                refine wpOpIn_step rfl fun K hK => ?_
                go_simp
                exact hK _ _ ⟨_, _, rfl, rfl, rfl, HI.out⟩
            · intro w hI
              have HI := Lib.hid hI
              clear hI
              simp only [List.foldl_cons, List.foldl_nil, List.setIfInBounds_toArray, List.set_cons_succ, List.set_cons_zero]
              gi_wp2
              go_roundw
              case rel => exact ⟨k + 1, by omega, by first | rfl | go_num, HB.out.trans (HI.out.mono HB.out.size), HN0.out⟩
              case measure => simp [intOf]; omega
      · have hdec : inB (l k) 0 ((n : Int) - 1) = false := by simp [inB]; omega
        have HD := Lib.hid hdec
        have h6 : itemZ n l k = 6 := by unfold itemZ; rw [if_neg hin]
        have HS := Lib.hid (HST.out 6 h6 (by decide))
        clear hdec hin h6
        gi_wp2_with (gi_at_call 62; (try rw [hsub]); refine (in_any _ _ _ _).mono ?_; rintro e w' ⟨rfl, rfl⟩; rw [HD.out])
        go_ret
        exact ⟨congrArg (fun z => Ending.returned (Value.int .i64 z)) HS.out.symm, HB.out⟩
    · have HF : Hid (firstZ (itemZ n l) m = 0) := Lib.hid (firstZ_zero.2 fun j hj => HZ.out j (by omega))
      gi_wp2
      go_ret
      exact ⟨congrArg (fun z => Ending.returned (Value.int .i64 z)) HF.out.symm, hb⟩
noncomputable def askLZ (rs rl rw many : Int) (n : Nat) (sh : Nat → Shaft) (l : Nat → Int) (m : Nat) : Int := if stockZ rs rl rw many n sh = 0 then ascZ n l m else stockZ rs rl rw many n sh
theorem askedList_any (rs rl rw many : Int) (A : Option Addr) (n c : Nat) (sh : Nat → Shaft) (LA : Option Addr) (m lc : Nat) (l : Nat → Int) (W : World) (hn : n ≤ 20) (hc : n ≤ c) (hm : m ≤ 20) (hmc : m ≤ lc) (hsh : Hid (ShaftsAt W A n sh)) (hnm : Hid (∀ k, k < n → (sh k).name.size ≤ 100)) (hi : Hid (IntsAt W LA m l)) :
    CallsIn Fc 0 Tryz.prog 60 #[stockV rs rl rw many A n c, .slice LA m lc] W (SaysInt (askLZ rs rl rw many n sh l m) W) := by
  have hB1 : ∀ x, Below W.heap.size W (W.alloc x) := fun x => (Below.refl _ _).alloc (Nat.le_refl _) x
  have HB1 := Lib.hid hB1
  clear hB1
  have hcall := fun w hb => CheckStock_exact rs rl rw many A n c sh w hc (Lib.hid (hsh.out.below hb)) hnm
  by_cases h0 : stockZ rs rl rw many n sh = 0
  · rw [show askLZ rs rl rw many n sh l m = ascZ n l m from if_pos h0]
    rw [h0] at hcall
    have HC := Lib.hid hcall
    clear h0 hcall
    gi_enter Tryz.func60, Tryz.ntmps60
    gi_wp2_with (first
      | (gi_at_call 18; refine (HC.out _ (HB1.out _)).mono ?_; rintro e w' ⟨rfl, hb1⟩; have c4 : w'.cell? ⟨W.heap.size, 4, none⟩ = some (.slice A n c) := Below.old hb1 (by go_simp); have HB := Lib.hid ((HB1.out _).trans (hb1.mono (HB1.out _).size)); clear hb1)
      | (gi_at_call 43; refine (Ascending_any LA m lc n l _ hn hm hmc (Lib.hid (hi.out.below HB.out))).mono ?_; rintro e w2 ⟨rfl, hb2⟩; have HB' := Lib.hid (HB.out.trans (hb2.mono HB.out.size)); clear hb2))
    go_ret
    exact ⟨rfl, HB'.out⟩
  · rw [show askLZ rs rl rw many n sh l m = stockZ rs rl rw many n sh from if_neg h0]
    have HC := Lib.hid hcall
    clear hcall
    generalize stockZ rs rl rw many n sh = z at *
    gi_enter Tryz.func60, Tryz.ntmps60
    gi_wp2_with (gi_at_call 18; refine (HC.out _ (HB1.out _)).mono ?_; rintro e w' ⟨rfl, hb1⟩; have HB := Lib.hid ((HB1.out _).trans (hb1.mono (HB1.out _).size)); clear hb1)
    go_ret
    exact ⟨rfl, HB.out⟩
end Go.Proofs.YtpdmgecbapmgdaaGreat
end
section
namespace Go.Proofs.YtpdmgecbapmgdaaGreat
open Go.RowKit
theorem firstTwo_any (b n cap : Nat) (hn : Hid (n = 2)) (V0 : Value) (lp sp : Nat) (z0 z1 z : Int) (hzz : Hid (z = if z0 = 0 then z1 else z0)) (W : World) (h0 : Hid (W.cell? ⟨b, 0, none⟩ = some (.func (.func 56) #[V0] #[]))) (h1 : Hid (W.cell? ⟨b, 1, none⟩ = some (.func (.func 99) #[] #[ptr lp, ptr sp])))
    (c0 : Hid (∀ w', Below W.heap.size W w' → CallsIn Fc 0 Tryz.prog 56 #[V0] w' (SaysInt z0 w'))) (c1 : Hid (∀ w', Below W.heap.size W w' → CallsIn Fc 0 Tryz.prog 99 #[ptr lp, ptr sp] w' (SaysInt z1 w'))) :
    CallsIn Fc 0 Tryz.prog 55 #[.slice (some ⟨b, 0, none⟩) n cap] W (SaysInt z W) := by
  have hn' : n ≤ 100 := by have := hn.out; omega
  gi_enter Tryz.func55, Tryz.ntmps55
  gi_wp2
  gi_loopw [8] (fun i wr => ∃ k : Nat, k ≤ n ∧ i = .int .i64 k ∧ Below W.heap.size W wr ∧ (0 < k → z0 = 0) ∧ (1 < k → z1 = 0)) (fun i _ => n - (intOf i).toNat)
  case atStart => exact ⟨0, Nat.zero_le _, rfl, Below.refl _ _, fun h => by omega, fun h => by omega⟩
  case round =>
    obtain ⟨k, hk, rfl, hb, hz0, hz1⟩ := hrel
    have d0 := Below.old hb h0.out
    have d1 := Below.old hb h1.out
    have k0 := c0.out _ hb
    have k1 := c1.out _ hb
    have h2 := hn.out
    by_cases hlt : k < n
    · have hk2 : k = 0 ∨ k = 1 := by omega
      rcases hk2 with rfl | rfl
      · have HLT := Lib.hid hlt
        by_cases e0 : z0 = 0
        · rw [e0] at k0
          clear h2
          gi_wp2_with (gi_at_call 56; refine k0.mono ?_; rintro e w' ⟨rfl, hb1⟩)
          go_roundw
          case rel => exact ⟨0 + 1, by omega, by first | rfl | go_num, hb.trans (hb1.mono hb.size), fun _ => e0, fun h => by omega⟩
          case measure => simp [intOf]; omega
        · have ez : z0 = z := by rw [hzz.out, if_neg e0]
          subst ez
          clear h2
          gi_wp2_with (gi_at_call 56; refine k0.mono ?_; rintro e w' ⟨rfl, hb1⟩)
          go_ret
          exact ⟨rfl, hb.trans (hb1.mono hb.size)⟩
      · have e0 := hz0 (by omega)
        have ez : z1 = z := by rw [hzz.out, if_pos e0]
        subst ez
        by_cases e1 : z1 = 0
        · rw [e1] at k1
          clear h2
          gi_wp2_with (gi_at_call 99; refine k1.mono ?_; rintro e w' ⟨rfl, hb1⟩)
          go_roundw
          case rel => exact ⟨1 + 1, by omega, by first | rfl | go_num, hb.trans (hb1.mono hb.size), fun _ => e0, fun _ => e1⟩
          case measure => simp [intOf]; omega
        · clear h2
          gi_wp2_with (gi_at_call 99; refine k1.mono ?_; rintro e w' ⟨rfl, hb1⟩)
          go_ret
          exact ⟨rfl, hb.trans (hb1.mono hb.size)⟩
    · have e0 := hz0 (by omega)
      have e1 := hz1 (by omega)
      have ez : z = 0 := by rw [hzz.out, if_pos e0, e1]
      subst ez
      clear h2
      gi_wp2
      go_ret
      exact ⟨rfl, hb⟩
theorem Match_foul (rs rl rw many : Int) (A : Option Addr) (n c : Nat) (sh : Nat → Shaft) (LA : Option Addr) (m lc : Nat) (l : Nat → Int) (W : World) (hn : n ≤ 20) (hc : n ≤ c) (hm : m ≤ 20) (hsh : Hid (ShaftsAt W A n sh)) (hnm : Hid (∀ k, k < n → (sh k).name.size ≤ 100)) (hi : Hid (IntsAt W LA m l))
    (z : Int) (hz : Hid (askLZ rs rl rw many n sh l m = z)) (h0 : Hid (z ≠ 0)) :
    CallsIn Fc 0 Tryz.prog 15 #[stockV rs rl rw many A n c, .slice LA m lc] W fun e w' => e = .returned (.tuple #[.int .i64 0, .int .i64 z]) ∧ Below W.heap.size W w' := by
  have hB2 : ∀ x y, Below W.heap.size W (((W.alloc x).alloc y).drew) := fun x y => (((Below.refl _ _).alloc (Nat.le_refl _) _).alloc (by simp) _).drew
  have HB2 := Lib.hid hB2
  have hnz := h0.out
  have hz' : (if stockZ rs rl rw many n sh = 0 then ascZ n l m else stockZ rs rl rw many n sh) = z := hz.out
  have HZ := Lib.hid hz'
  have hln : Hid (∀ k, k < n → (sh k).name.size ≤ 200) := Lib.hid fun k hk => Nat.le_trans (hnm.out k hk) (by omega)
  clear hB2 hz' hz h0
  gi_enter Tryz.func15, Tryz.ntmps15
  gi_wp2
  gi_region_with (first
    | (gi_at_call 57; refine (hasList_any LA m lc rs rl rw many A n c _).mono ?_; rintro e w5 ⟨lp, sp, rfl, hbox, hb5⟩
       have e0 : w5.cell? ⟨W.heap.size + 1, 0, none⟩ = some (.int .i64 rs) := Below.old hb5 (by go_simp)
       have e1 : w5.cell? ⟨W.heap.size + 1, 1, none⟩ = some (.int .i64 rl) := Below.old hb5 (by go_simp)
       have e2 : w5.cell? ⟨W.heap.size + 1, 2, none⟩ = some (.int .i64 rw) := Below.old hb5 (by go_simp)
       have e3 : w5.cell? ⟨W.heap.size + 1, 3, none⟩ = some (.int .i64 many) := Below.old hb5 (by go_simp)
       have e4 : w5.cell? ⟨W.heap.size + 1, 4, none⟩ = some (.slice A n c) := Below.old hb5 (by go_simp)
       have HBX := Lib.hid hbox
       have HB5 := Lib.hid ((HB2.out _ _).trans (hb5.mono (HB2.out _ _).size))
       clear hbox hb5)
    | (gi_at_call 55
       refine (firstTwo_any _ 2 _ (Lib.hid rfl) (stockV rs rl rw many A n c) lp sp (stockZ rs rl rw many n sh) (ascZ n l m) z (Lib.hid HZ.out.symm) _ (Lib.hid (by go_simp)) (Lib.hid (by go_simp))
         (Lib.hid fun w' hb => check_any rs rl rw many A n c sh w' hn hc (Lib.hid ((hsh.out.below (HB5.out.alloc HB5.out.size _)).below hb)) hln)
         (Lib.hid fun w' hb => hasList1_any lp sp LA m lc l rs rl rw many A n c w' hn hm (Lib.hid (HBX.out.below (((Below.refl _ _).alloc (Nat.le_refl _) _).trans (hb.mono (by simp))))) (Lib.hid ((hi.out.below (HB5.out.alloc HB5.out.size _)).below hb)))).mono ?_
       rintro e w6 ⟨rfl, hb6⟩
       have HB6 := Lib.hid ((HB5.out.alloc HB5.out.size _).trans (hb6.mono (HB5.out.alloc HB5.out.size _).size))
       clear hb6 e0 e1 e2 e3 e4))
  all_goals
    gi_wp2
    go_ret2
    exact ⟨rfl, HB6.out⟩
theorem Apart_foul (rs rl rw many : Int) (A : Option Addr) (n c : Nat) (sh : Nat → Shaft) (LA : Option Addr) (m lc : Nat) (l : Nat → Int) (W : World) (hn : n ≤ 20) (hc : n ≤ c) (hm : m ≤ 20) (hsh : Hid (ShaftsAt W A n sh)) (hnm : Hid (∀ k, k < n → (sh k).name.size ≤ 100)) (hi : Hid (IntsAt W LA m l))
    (z : Int) (hz : Hid (askLZ rs rl rw many n sh l m = z)) (h0 : Hid (z ≠ 0)) :
    CallsIn Fc 0 Tryz.prog 19 #[stockV rs rl rw many A n c, .slice LA m lc] W fun e w' => e = .returned (.tuple #[.slice none 0 0, .int .i64 z]) ∧ Below W.heap.size W w' := by
  have hB2 : ∀ x y, Below W.heap.size W (((W.alloc x).alloc y).drew) := fun x y => (((Below.refl _ _).alloc (Nat.le_refl _) _).alloc (by simp) _).drew
  have HB2 := Lib.hid hB2
  have hnz := h0.out
  have hz' : (if stockZ rs rl rw many n sh = 0 then ascZ n l m else stockZ rs rl rw many n sh) = z := hz.out
  have HZ := Lib.hid hz'
  have hln : Hid (∀ k, k < n → (sh k).name.size ≤ 200) := Lib.hid fun k hk => Nat.le_trans (hnm.out k hk) (by omega)
  clear hB2 hz' hz h0
  gi_enter Tryz.func19, Tryz.ntmps19
  gi_wp2
  gi_region_with (first
    | (gi_at_call 57; refine (hasList_any LA m lc rs rl rw many A n c _).mono ?_; rintro e w5 ⟨lp, sp, rfl, hbox, hb5⟩
       have e0 : w5.cell? ⟨W.heap.size + 1, 0, none⟩ = some (.int .i64 rs) := Below.old hb5 (by go_simp)
       have e1 : w5.cell? ⟨W.heap.size + 1, 1, none⟩ = some (.int .i64 rl) := Below.old hb5 (by go_simp)
       have e2 : w5.cell? ⟨W.heap.size + 1, 2, none⟩ = some (.int .i64 rw) := Below.old hb5 (by go_simp)
       have e3 : w5.cell? ⟨W.heap.size + 1, 3, none⟩ = some (.int .i64 many) := Below.old hb5 (by go_simp)
       have e4 : w5.cell? ⟨W.heap.size + 1, 4, none⟩ = some (.slice A n c) := Below.old hb5 (by go_simp)
       have HBX := Lib.hid hbox
       have HB5 := Lib.hid ((HB2.out _ _).trans (hb5.mono (HB2.out _ _).size))
       clear hbox hb5)
    | (gi_at_call 55
       refine (firstTwo_any _ 2 _ (Lib.hid rfl) (stockV rs rl rw many A n c) lp sp (stockZ rs rl rw many n sh) (ascZ n l m) z (Lib.hid HZ.out.symm) _ (Lib.hid (by go_simp)) (Lib.hid (by go_simp))
         (Lib.hid fun w' hb => check_any rs rl rw many A n c sh w' hn hc (Lib.hid ((hsh.out.below (HB5.out.alloc HB5.out.size _)).below hb)) hln)
         (Lib.hid fun w' hb => hasList1_any lp sp LA m lc l rs rl rw many A n c w' hn hm (Lib.hid (HBX.out.below (((Below.refl _ _).alloc (Nat.le_refl _) _).trans (hb.mono (by simp))))) (Lib.hid ((hi.out.below (HB5.out.alloc HB5.out.size _)).below hb)))).mono ?_
       rintro e w6 ⟨rfl, hb6⟩
       have HB6 := Lib.hid ((HB5.out.alloc HB5.out.size _).trans (hb6.mono (HB5.out.alloc HB5.out.size _).size))
       clear hb6 e0 e1 e2 e3 e4))
  all_goals
    gi_wp2
    go_ret2
    exact ⟨rfl, HB6.out⟩
end Go.Proofs.YtpdmgecbapmgdaaGreat
end
section
namespace Go.Proofs.YtpdmgecbapmgdaaGreat
open Go.RowKit
theorem refNear_any (rs rl rw many : Int) (b o n c i1 i2 m : Nat) (sh : Nat → Shaft) (W : World) (h1 : i1 < n) (h2 : i2 < n) (hm : m < 3) (hst : Hid (StockOk rs rl rw many n sh)) (hsh : Hid (ShaftsAt W (some ⟨b, o, none⟩) n sh)) :
    CallsIn Fc 0 Tryz.prog 111 #[stockV rs rl rw many (some ⟨b, o, none⟩) n c, .int .i64 i1, .int .i64 i2, .int .i64 m] W (SaysInt (nearOf rs rl rw (sh i1) (sh i2) m) W) := by
  have hn := hst.out.count
  obtain ⟨b1, o1, e1, hx⟩ := hsh.out i1 h1
  cases e1
  obtain ⟨b2, o2, e2, hy⟩ := hsh.out i2 h2
  cases e2
  have sp1 := (hst.out.each i1 h1).spans
  have sp2 := (hst.out.each i2 h2).spans
  have p1 := sp1.least m hm
  have p2 := sp1.up m hm
  have p3 := sp1.most m hm
  have q1 := sp2.least m hm
  have q2 := sp2.up m hm
  have q3 := sp2.most m hm
  clear sp1 sp2
  obtain ⟨B, hB⟩ : ∃ B : Obj, B = .cells #[.int .i64 rs, .int .i64 rl, .int .i64 rw, .int .i64 many, .slice (some ⟨b, o, none⟩) n c] 26 := ⟨_, rfl⟩
  obtain ⟨v, hv⟩ : ∃ v : Int, nearOf rs rl rw (sh i1) (sh i2) m = v := ⟨_, rfl⟩
  rw [hv]
  unfold nearOf at hv
  gi_enter Tryz.func111, Tryz.ntmps111
  gi_wp2
  rw [← hB]
  refine wpIn_region_rows 18 9 10 (D := [some (12, .pointer (some ⟨W.heap.size, 4, none⟩)), some (13, .slice (some ⟨b, o, none⟩) n c), some (14, .int .i64 i1), some (15, .pointer (some ⟨b, o + i1 * 7, none⟩)), some (16, shaftV (sh i1)), some (17, .int .i64 m), some (18, spanV (spanA (sh i1) m) (spanB (sh i1) m)), some (19, .pointer (some ⟨W.heap.size, 4, none⟩)), some (20, .slice (some ⟨b, o, none⟩) n c), some (21, .int .i64 i2), some (22, .pointer (some ⟨b, o + i2 * 7, none⟩)), some (23, shaftV (sh i2)), some (24, .int .i64 m), some (25, spanV (spanA (sh i2) m) (spanB (sh i2) m)), some (26, .pointer (some ⟨W.heap.size, 0, none⟩)), some (27, .agg #[.int .i64 rs, .int .i64 rl, .int .i64 rw, .int .i64 many]), some (28, .int .i64 m), some (29, .int .i64 (allowOf rs rl rw m)), none, none, none, none, some (11, .int .i64 (allowOf rs rl rw m))])
    (I := fun w => Below (W.heap.size + 1) (W.alloc B) w) (lo := W.heap.size + 1) (z := 62) (u1 := spanA (sh i1) m) (v1 := spanB (sh i1) m) (u2 := spanA (sh i2) m) (v2 := spanB (sh i2) m) (by kernel_rfl) (by kernel_rfl) (by decide) rfl rfl (by kernel_rfl) (by kernel_rfl) (by omega) (by omega) (by omega) (by kernel_rfl) (by kernel_rfl) rfl rfl
    (fun w h => by have := h.size; simpa using this) (fun w x h => h.alloc (by have := h.size; simpa using this) _) (fun w p j x h hp => h.setCell hp _) (Below.refl _ _).drew ?_ ?_ ?_ ?_ ?_ ?_
  · intro j a w hj hnr hd hz hold hf hI
    rw [hB] at hI
    obtain ⟨c0, c1, c2, c3, c4⟩ := box_cells hI
    have HIB : Hid (Below (W.heap.size + 1) (W.alloc B) w) := Lib.hid (by rw [hB]; exact hI)
    have HSZ : W.heap.size + 1 ≤ w.heap.size := by have := hI.size; simpa using this
    have hBW : Below W.heap.size W w := ((Below.refl W.heap.size W).alloc (Nat.le_refl _) _).trans (hI.mono (by omega))
    obtain ⟨x0, x1, x2, x3, x4, x5, x6⟩ := hx.below hBW
    obtain ⟨y0, y1, y2, y3, y4, y5, y6⟩ := hy.below hBW
    have HBW := Lib.hid hBW
    clear hI hBW
    have s1 := at_slot hz (hold 1 (by kernel_rfl) (by omega) (by omega)) (by omega)
    have s2 := at_slot hz (hold 2 (by kernel_rfl) (by omega) (by omega)) (by omega)
    have s3 := at_slot hz (hold 3 (by kernel_rfl) (by omega) (by omega)) (by omega)
    have s4 := at_slot hz (hold 4 (by kernel_rfl) (by omega) (by omega)) (by omega)
    clear hold
    have hjs : j = 0 ∨ j = 1 ∨ j = 2 ∨ j = 3 ∨ j = 4 ∨ j = 5 ∨ j = 6 ∨ j = 7 ∨ j = 8 ∨ j = 9 ∨ j = 10 ∨ j = 11 ∨ j = 12 ∨ j = 13 ∨ j = 14 ∨ j = 15 ∨ j = 16 ∨ j = 17 ∨ j = 22 := by have : j < 23 := hj; omega
    rcases hjs with rfl | rfl | rfl | rfl | rfl | rfl | rfl | rfl | rfl | rfl | rfl | rfl | rfl | rfl | rfl | rfl | rfl | rfl | rfl
    · refine wpOpIn_step rfl fun K hK => ?_
      go_simp
      exact hK _ _ ⟨_, _, rfl, rfl, rfl, HIB.out, Below.refl _ _⟩
    · have f12 := at_slot hz (hf 0 12 _ (by kernel_rfl) rfl) (by omega)
      refine wpOpIn_step rfl fun K hK => ?_
      go_simp
      exact hK _ _ ⟨_, _, rfl, rfl, rfl, HIB.out, Below.refl _ _⟩
    · refine wpOpIn_step rfl fun K hK => ?_
      go_simp
      exact hK _ _ ⟨_, _, rfl, rfl, rfl, HIB.out, Below.refl _ _⟩
    · have f13 := at_slot hz (hf 1 13 _ (by kernel_rfl) rfl) (by omega)
      have f14 := at_slot hz (hf 2 14 _ (by kernel_rfl) rfl) (by omega)
      refine wpOpIn_step rfl fun K hK => ?_
      go_simp
      exact hK _ _ ⟨_, _, rfl, rfl, rfl, HIB.out, Below.refl _ _⟩
    · have f15 := at_slot hz (hf 3 15 _ (by kernel_rfl) rfl) (by omega)
      refine wpOpIn_step rfl fun K hK => ?_
      go_simp
      exact hK _ _ ⟨_, _, rfl, rfl, rfl, HIB.out, Below.refl _ _⟩
    · refine wpOpIn_step rfl fun K hK => ?_
      go_simp
      exact hK _ _ ⟨_, _, rfl, rfl, rfl, HIB.out, Below.refl _ _⟩
    · have f16 := at_slot hz (hf 4 16 _ (by kernel_rfl) rfl) (by omega)
      have f17 := at_slot hz (hf 5 17 _ (by kernel_rfl) rfl) (by omega)
      refine wpOpIn_step rfl fun K hK => ?_
      go_simp
      refine (Measured_any (sh i1) m hm _).mono ?_
      rintro e w' ⟨rfl, hb'⟩
      exact hK _ _ ⟨_, _, rfl, rfl, rfl, HIB.out.trans (hb'.mono HSZ), hb'⟩
    · refine wpOpIn_step rfl fun K hK => ?_
      go_simp
      exact hK _ _ ⟨_, _, rfl, rfl, rfl, HIB.out, Below.refl _ _⟩
    · have f19 := at_slot hz (hf 7 19 _ (by kernel_rfl) rfl) (by omega)
      refine wpOpIn_step rfl fun K hK => ?_
      go_simp
      exact hK _ _ ⟨_, _, rfl, rfl, rfl, HIB.out, Below.refl _ _⟩
    · refine wpOpIn_step rfl fun K hK => ?_
      go_simp
      exact hK _ _ ⟨_, _, rfl, rfl, rfl, HIB.out, Below.refl _ _⟩
    · have f20 := at_slot hz (hf 8 20 _ (by kernel_rfl) rfl) (by omega)
      have f21 := at_slot hz (hf 9 21 _ (by kernel_rfl) rfl) (by omega)
      refine wpOpIn_step rfl fun K hK => ?_
      go_simp
      exact hK _ _ ⟨_, _, rfl, rfl, rfl, HIB.out, Below.refl _ _⟩
    · have f22 := at_slot hz (hf 10 22 _ (by kernel_rfl) rfl) (by omega)
      refine wpOpIn_step rfl fun K hK => ?_
      go_simp
      exact hK _ _ ⟨_, _, rfl, rfl, rfl, HIB.out, Below.refl _ _⟩
    · refine wpOpIn_step rfl fun K hK => ?_
      go_simp
      exact hK _ _ ⟨_, _, rfl, rfl, rfl, HIB.out, Below.refl _ _⟩
    · have f23 := at_slot hz (hf 11 23 _ (by kernel_rfl) rfl) (by omega)
      have f24 := at_slot hz (hf 12 24 _ (by kernel_rfl) rfl) (by omega)
      refine wpOpIn_step rfl fun K hK => ?_
      go_simp
      refine (Measured_any (sh i2) m hm _).mono ?_
      rintro e w' ⟨rfl, hb'⟩
      exact hK _ _ ⟨_, _, rfl, rfl, rfl, HIB.out.trans (hb'.mono HSZ), hb'⟩
    · refine wpOpIn_step rfl fun K hK => ?_
      go_simp
      exact hK _ _ ⟨_, _, rfl, rfl, rfl, HIB.out, Below.refl _ _⟩
    · have f26 := at_slot hz (hf 14 26 _ (by kernel_rfl) rfl) (by omega)
      refine wpOpIn_step rfl fun K hK => ?_
      go_simp
      exact hK _ _ ⟨_, _, rfl, rfl, rfl, HIB.out, Below.refl _ _⟩
    · refine wpOpIn_step rfl fun K hK => ?_
      go_simp
      exact hK _ _ ⟨_, _, rfl, rfl, rfl, HIB.out, Below.refl _ _⟩
    · have f27 := at_slot hz (hf 15 27 _ (by kernel_rfl) rfl) (by omega)
      have f28 := at_slot hz (hf 16 28 _ (by kernel_rfl) rfl) (by omega)
      refine wpOpIn_step rfl fun K hK => ?_
      go_simp
      refine (Allowed_any rs rl rw many m hm _).mono ?_
      rintro e w' ⟨rfl, hb'⟩
      exact hK _ _ ⟨_, _, rfl, rfl, rfl, HIB.out.trans (hb'.mono HSZ), hb'⟩
    · have f29 := at_slot hz (hf 17 29 _ (by kernel_rfl) rfl) (by omega)
      refine wpOpIn_step rfl fun K hK => ?_
      go_simp
      exact hK _ _ ⟨_, _, rfl, rfl, rfl, HIB.out, Below.refl _ _⟩
  · intro a w hd hz
    refine wpOpIn_step rfl fun K hK => ?_
    go_simp
    exact hK _ _ ⟨rfl, rfl, rfl⟩
  · intro a w hd hz
    refine wpOpIn_step rfl fun K hK => ?_
    go_simp
    exact hK _ _ ⟨rfl, rfl, rfl⟩
  · intro a w p u v hd hz hp hs hf
    have f9 := at_slot hz hp (by omega)
    have f18 := at_slot hz (hf 6 18 _ (by kernel_rfl) rfl) (by omega)
    have z0 := hs.frozen 0
    have z1 := hs.frozen 1
    obtain ⟨y0, y1⟩ := hs.cell
    refine wpOpIn_step rfl fun K hK => ?_
    go_simp
    exact hK _ _ ⟨hd, rfl, rfl⟩
  · intro a w p u v hd hz hp hs hf
    have f10 := at_slot hz hp (by omega)
    have f25 := at_slot hz (hf 13 25 _ (by kernel_rfl) rfl) (by omega)
    have z0 := hs.frozen 0
    have z1 := hs.frozen 1
    obtain ⟨y0, y1⟩ := hs.cell
    refine wpOpIn_step rfl fun K hK => ?_
    go_simp
    exact hK _ _ ⟨hd, rfl, rfl⟩
  · intro w p q hI hpq hp hq hs1 hs2
    have HBW : Hid (Below W.heap.size W w) := Lib.hid (((Below.refl W.heap.size W).alloc (Nat.le_refl _) _).trans (hI.mono (by omega)))
    clear hI
    obtain ⟨a0, a1⟩ := hs1.cell
    obtain ⟨b0, b1⟩ := hs2.cell
    have lp := hs1.lt
    have lq := hs2.lt
    clear hs1 hs2
    simp only [List.filterMap_cons, List.filterMap_nil, List.foldl_cons, List.foldl_nil, List.setIfInBounds_toArray, List.set_cons_succ, List.set_cons_zero]
    clear hsh hst hx hy hB
    generalize spanA (sh i1) m = am at *
    generalize spanB (sh i1) m = aM at *
    generalize spanA (sh i2) m = bm at *
    generalize spanB (sh i2) m = bM at *
    generalize allowOf rs rl rw m = al at *
    have w1 : IntKind.wrap .i64 (aM - bm) = aM - bm := by simp [IntKind.wrap, IntKind.signed, IntKind.bits]; omega
    have w2 : IntKind.wrap .i64 (bM - am) = bM - am := by simp [IntKind.wrap, IntKind.signed, IntKind.bits]; omega
    have w3 : IntKind.wrap .i64 (am - bM) = am - bM := by simp [IntKind.wrap, IntKind.signed, IntKind.bits]; omega
    have w4 : IntKind.wrap .i64 (bm - aM) = bm - aM := by simp [IntKind.wrap, IntKind.signed, IntKind.bits]; omega
    by_cases c1 : aM - bm ≤ al
    · by_cases c2 : bM - am ≤ al
      · have hv' : nearZ al am aM bm bM = 1 := by unfold nearZ; rw [if_pos (by omega)]
        obtain rfl : v = 1 := hv.symm.trans hv'
        gi_wp2
        go_ret
        exact ⟨rfl, HBW.out⟩
      · by_cases c3 : am - bM > al
        · exfalso; omega
        · by_cases c4 : bm - aM > al
          · have hv' : nearZ al am aM bm bM = 2 := by unfold nearZ; rw [if_neg (by omega), if_pos (by omega)]
            obtain rfl : v = 2 := hv.symm.trans hv'
            gi_wp2
            go_ret
            exact ⟨rfl, HBW.out⟩
          · have hv' : nearZ al am aM bm bM = 0 := by unfold nearZ; rw [if_neg (by omega), if_neg (by omega)]
            obtain rfl : v = 0 := hv.symm.trans hv'
            gi_wp2
            go_ret
            exact ⟨rfl, HBW.out⟩
    · by_cases c3 : am - bM > al
      · have hv' : nearZ al am aM bm bM = 2 := by unfold nearZ; rw [if_neg (by omega), if_pos (by omega)]
        obtain rfl : v = 2 := hv.symm.trans hv'
        gi_wp2
        go_ret
        exact ⟨rfl, HBW.out⟩
      · by_cases c4 : bm - aM > al
        · have hv' : nearZ al am aM bm bM = 2 := by unfold nearZ; rw [if_neg (by omega), if_pos (by omega)]
          obtain rfl : v = 2 := hv.symm.trans hv'
          gi_wp2
          go_ret
          exact ⟨rfl, HBW.out⟩
        · have hv' : nearZ al am aM bm bM = 0 := by unfold nearZ; rw [if_neg (by omega), if_neg (by omega)]
          obtain rfl : v = 0 := hv.symm.trans hv'
          gi_wp2
          go_ret
          exact ⟨rfl, HBW.out⟩
end Go.Proofs.YtpdmgecbapmgdaaGreat
end
section
namespace Go.Proofs.YtpdmgecbapmgdaaGreat
open Go.RowKit
section
variable {F : Fence} {n : Nat} {P : Program} {ops : Array Oper} {Q : Exit → Act → World → Prop}
structure RE (ops : Array Oper) (k e : Nat) (D : List (Nat × Value)) (I : Bool → World → Prop) (z : Nat) (a0 : Act) (listed : Array Bool) (a : Act) (w : World) : Prop where
  defers : a.defers = []
  size : a.tmps.size = z
  old : ∀ s, (∀ x ∈ D, x.1 ≠ s) → a.eval (.tmp s) = a0.eval (.tmp s)
  inv : I (listed.getD e false) w
  fact : ∀ (j d : Nat) (v : Value), D[j]? = some (d, v) → listed.getD j false = true → a.eval (.tmp d) = v
  closed : ∀ i, listed.getD i false = true → ∀ j, depB ops i j = true → listed.getD j false = true
  none : ∀ i, k ≤ i → listed.getD i false = false
theorem wpIn_region_E (k e : Nat) (D : List (Nat × Value)) {I : Bool → World → Prop} {z : Nat} {a0 : Act} {id : Nat} {w : World} (hm : P.follows .mixedOrders = true) (hb : backB .any ops = true) (hcl : closB ops k = true) (hch : chainB ops k = true) (hk : k < ops.size) (hek : e < k)
    (hD : D.length = k ∧ (List.range k).all (fun j => dstAt ops j == (D.map (·.1))[j]?) = true) (hnd : nodupB (D.map (·.1)) = true) (hDz : (D.map (·.1)).all (fun d => decide (d < z)) = true) (hd : a0.defers = []) (hz : a0.tmps.size = z)
    (h0 : I false { w with drawn := w.drawn + 1 })
    (hJ : ∀ b j a w, j < k → j ≠ e → a.defers = [] → a.tmps.size = z → (∀ s, (∀ x ∈ D.map (·.1), x ≠ s) → a.eval (.tmp s) = a0.eval (.tmp s)) → (∀ k d v, depB ops j k = true → D[k]? = some (d, v) → a.eval (.tmp d) = v) → I b w →
      wpOpIn F n P ops Q j (fun a' w' => ∃ d v, D[j]? = some (d, v) ∧ a'.defers = [] ∧ a'.tmps = a.tmps.setIfInBounds d v ∧ I b w') a w)
    (hJe : ∀ a w, a.defers = [] → a.tmps.size = z → (∀ s, (∀ x ∈ D.map (·.1), x ≠ s) → a.eval (.tmp s) = a0.eval (.tmp s)) → (∀ k d v, depB ops e k = true → D[k]? = some (d, v) → a.eval (.tmp d) = v) → I false w →
      wpOpIn F n P ops Q e (fun a' w' => ∃ d v, D[e]? = some (d, v) ∧ a'.defers = [] ∧ a'.tmps = a.tmps.setIfInBounds d v ∧ I true w') a w)
    (hL : ∀ w, I true w → wpListIn F n P ops Q (ops.toList.drop k) { tmps := D.foldl (fun t x => t.setIfInBounds x.1 x.2) a0.tmps, defers := [] } w) : (Code.region id ops true).wpIn F n P Q a0 w := by
  obtain ⟨hlen, hdst⟩ := hD
  have hat : ∀ j, j < k → ∃ d v, D[j]? = some (d, v) ∧ dstAt ops j = some d ∧ d < z := fun j hj => by
    have hj' : j < D.length := by omega
    refine ⟨D[j].1, D[j].2, by simp [hj'], ?_, of_decide_eq_true (List.all_eq_true.1 hDz D[j].1 (List.mem_map.2 ⟨D[j], List.getElem_mem hj', rfl⟩))⟩
    have h1 := List.all_eq_true.1 hdst j (List.mem_range.2 hj)
    rw [List.getElem?_map] at h1
    simpa [hj'] using h1
  have hnd' : (D.map (·.1)).Nodup := of_decide_eq_true hnd
  have stepL : ∀ (t : Nat) (listed : Array Bool) (a : Act) (w : World) (i : Nat), RL F n P ops Q t listed a w → i = t → i ∈ Region.ready .any ops listed → wpOpIn F n P ops Q i (fun a' w' => RL F n P ops Q (t + 1) (listed.setIfInBounds i true) a' w') a w := by
    rintro t listed a w i h rfl hi
    have his : i < ops.size := by
      obtain ⟨_, o, h3, _⟩ := mem_ready.1 hi
      exact (Array.getElem?_eq_some_iff.1 h3).1
    have hgo := h.go
    rw [List.drop_eq_getElem_cons (by simpa using his)] at hgo
    have hop : wpOpIn F n P ops Q i (wpListIn F n P ops Q (ops.toList.drop (i + 1))) a w := by
      unfold wpOpIn
      rw [show ops[i]? = some ops[i] by simp [his]]
      simp only [Array.getElem_toList] at hgo
      simpa [wpListIn] using hgo
    refine wpOpIn_mono (fun a' w' h' => ⟨fun j hj => ?_, fun j hj => ?_, h'⟩) hop
    · by_cases e : j = i
      · subst e; exact set_self hi
      · rw [gset (fun e' => e e'.symm)]; exact h.yes j (by omega)
    · rw [gset (by omega)]; exact h.no j (by omega)
  refine wpIn_region_J (J := fun listed a w => RE ops k e D I z a0 listed a w ∨ ∃ t, k < t ∧ RL F n P ops Q t listed a w) hm hb (.inl ?_) (fun listed a w i hJ' hi => ?_) fun listed a w hJ' hall => ?_
  · refine ⟨hd, hz, fun _ _ => rfl, by rw [show (Array.replicate ops.size false).getD e false = false by rw [Array.getD_eq_getD_getElem?]; simp [show e < ops.size by omega]]; exact h0, fun j d v _ hl => ?_, fun i hl => ?_, fun i hi => ?_⟩
    · rw [Array.getD_eq_getD_getElem?] at hl
      rcases Nat.lt_or_ge j ops.size with h | h <;> simp [h] at hl
    · rw [Array.getD_eq_getD_getElem?] at hl
      rcases Nat.lt_or_ge i ops.size with h | h <;> simp [h] at hl
    · rw [Array.getD_eq_getD_getElem?]
      rcases Nat.lt_or_ge i ops.size with h | h <;> simp [h]
  · have his : i < ops.size := by
      obtain ⟨_, o, h3, _⟩ := mem_ready.1 hi
      exact (Array.getElem?_eq_some_iff.1 h3).1
    rcases hJ' with hj | ⟨t, hkt, hl⟩
    · by_cases hik : i < k
      · obtain ⟨di, vi, hDi, hdi, hdz⟩ := hat i hik
        have hop : wpOpIn F n P ops Q i (fun a' w' => ∃ d v, D[i]? = some (d, v) ∧ a'.defers = [] ∧ a'.tmps = a.tmps.setIfInBounds d v ∧ I ((listed.setIfInBounds i true).getD e false) w') a w := by
          have hold := fun (s : Nat) (hs : ∀ x ∈ D.map (·.1), x ≠ s) => hj.old s fun x hx => hs x.1 (List.mem_map.2 ⟨x, hx, rfl⟩)
          have hfacts := fun m d v (hdep : depB ops i m = true) (e : D[m]? = some (d, v)) => hj.fact m d v e (dep hi hdep)
          have hinv := hj.inv
          by_cases hie : i = e
          · subst hie
            rw [not_yet hi] at hinv
            rw [set_self hi]
            exact hJe a w hj.defers hj.size hold hfacts hinv
          · rw [gset hie]
            exact hJ _ i a w hik hie hj.defers hj.size hold hfacts hinv
        refine wpOpIn_mono (fun a' w' h => .inl ?_) hop
        obtain ⟨d, v, e0, h1, h2, h3⟩ := h
        rw [hDi] at e0
        cases e0
        have ha' : ∀ s, s ≠ di → a'.eval (.tmp s) = a.eval (.tmp s) := fun s hs => by
          simp only [Act.eval, h2]
          simp [Ne.symm hs]
        refine ⟨h1, by rw [h2]; simpa using hj.size, fun s hs => ?_, h3, fun j d v hjd hl => ?_, fun m hm m' hm' => ?_, fun m hm => ?_⟩
        · rw [ha' s fun e => hs (di, vi) (List.mem_iff_getElem?.2 ⟨i, hDi⟩) e.symm]
          exact hj.old s hs
        · by_cases e : j = i
          · subst e
            rw [hDi] at hjd
            cases hjd
            simp only [Act.eval, h2]
            simp [show di < a.tmps.size by rw [hj.size]; exact hdz]
          · rw [gset (fun e' => e e'.symm)] at hl
            have hne : d ≠ di := fun e' => by
              subst e'
              have q1 : (D.map (·.1))[j]? = some d := by rw [List.getElem?_map, hjd]; rfl
              have q2 : (D.map (·.1))[i]? = some d := by rw [List.getElem?_map, hDi]; rfl
              have hj' := (List.getElem?_eq_some_iff.1 q1).1
              exact e ((List.getElem?_inj hj' hnd').1 (q1.trans q2.symm))
            rw [ha' d hne]
            exact hj.fact j d v hjd hl
        · by_cases e : m = i
          · subst e
            by_cases e2 : m = m'
            · subst e2; exact set_self hi
            · rw [gset e2]; exact dep hi hm'
          · rw [gset (fun e' => e e'.symm)] at hm
            have := hj.closed m hm m' hm'
            by_cases e2 : i = m'
            · subst e2; exact set_self hi
            · rw [gset e2]; exact this
        · rw [gset (by omega)]; exact hj.none m hm
      ·
        have hik' : i = k := by
          rcases Nat.lt_or_ge k i with h | h
          · exfalso
            have h1 := List.all_eq_true.1 hch i (List.mem_range.2 his)
            simp only [show ¬ i ≤ k by omega, decide_false, Bool.false_or] at h1
            have h2 := dep hi h1
            rw [hj.none (i - 1) (by omega)] at h2
            cases h2
          · omega
        subst hik'
        have hyes : ∀ j, j < i → listed.getD j false = true := fun j hj' => by
          have h1 := List.all_eq_true.1 hcl j (List.mem_range.2 hj')
          have h2 := clos_listed (k := i) hj.closed (fun j h => dep hi h) (i + 1) [i] (fun s hs => .inl (by simpa using hs)) j (by simpa using h1)
          rcases h2 with e | e
          · omega
          · exact e
        have e0 : D.foldl (fun t x => t.setIfInBounds x.1 x.2) a0.tmps = a.tmps := by
          refine fold_set a D a0.tmps (by rw [hz, hj.size]) (fun x hx => ?_) fun s hs => (hj.old s hs).symm
          obtain ⟨j, hj', rfl⟩ := List.mem_iff_getElem.1 hx
          exact hj.fact j D[j].1 D[j].2 (by simp [hj']) (hyes j (by omega))
        have hinv := hj.inv
        rw [hyes e hek] at hinv
        have h1 := hL w hinv
        rw [e0] at h1
        obtain ⟨tm, df⟩ := a
        have hdf := hj.defers
        simp only at hdf
        subst hdf
        exact wpOpIn_mono (fun a' w' h => .inr ⟨i + 1, by omega, h⟩) (stepL i listed _ w i ⟨hyes, fun j hj' => hj.none j hj', h1⟩ rfl hi)
    · have hit : i = t := by
        rcases Nat.lt_trichotomy i t with h | h | h
        · exfalso
          have h1 := hl.yes i h
          rw [not_yet hi] at h1
          cases h1
        · exact h
        · exfalso
          have h1 := List.all_eq_true.1 hch i (List.mem_range.2 his)
          simp only [show ¬ i ≤ k by omega, decide_false, Bool.false_or] at h1
          have h2 := dep hi h1
          rw [hl.no (i - 1) (by omega)] at h2
          cases h2
      exact wpOpIn_mono (fun a' w' h => .inr ⟨t + 1, by omega, h⟩) (stepL t listed a w i hl hit hi)
  · rcases hJ' with hj | ⟨t, hkt, hl⟩
    · have := hall k hk
      rw [hj.none k (Nat.le_refl _)] at this
      cases this
    · have ht : ops.size ≤ t := by
        rcases Nat.lt_or_ge t ops.size with h | h
        · have := hall t h
          rw [hl.no t (Nat.le_refl _)] at this
          cases this
        · exact h
      have hgo := hl.go
      rw [List.drop_eq_nil_of_le (by simpa using ht)] at hgo
      simpa [wpListIn] using hgo
end
end Go.Proofs.YtpdmgecbapmgdaaGreat
end
section
namespace Go.Proofs.YtpdmgecbapmgdaaGreat
open Go.RowKit
def HandsAp (L : List Ap) (W : World) (e : Ending) (w' : World) : Prop := ∃ (sl : Value) (base : Nat), e = .returned sl ∧ w'.ownsRow base 62 4 sl L.length (apVs L) ∧ W.heap.size ≤ base ∧ Below W.heap.size W w'
theorem refApart_any (rs rl rw many : Int) (A : Option Addr) (n c : Nat) (sh : Nat → Shaft) (LA : Option Addr) (m lc : Nat) (l : Nat → Nat) (W : World) (hc : n ≤ c) (hst : Hid (StockOk rs rl rw many n sh)) (hsh : Hid (ShaftsAt W A n sh))
    (hm : m ≤ 9) (hmc : m ≤ lc) (hl : Hid (∀ k, k < m → l k < n)) (hi : Hid (IntsAt W LA m fun k => (l k : Int))) :
    CallsIn Fc 0 Tryz.prog 67 #[stockV rs rl rw many A n c, .slice LA m lc] W (HandsAp (apAll rs rl rw sh l m m) W) := by
  obtain ⟨i0, hi0, hz0, hz1, hz2⟩ := info_parts it62
  have HI0 := Lib.hid hi0
  have HZ0 := Lib.hid hz0
  have HZ1 := Lib.hid hz1
  have HZ2 := Lib.hid hz2
  clear hi0 hz0 hz1 hz2
  have hn := hst.out.count
  have hB1 : Below W.heap.size W (W.alloc (.cells #[.int .i64 rs, .int .i64 rl, .int .i64 rw, .int .i64 many, .slice A n c] 26)) := (Below.refl _ _).alloc (Nat.le_refl _) _
  have HB1 := Lib.hid hB1
  clear hB1
  gi_enter Tryz.func67, Tryz.ntmps67
  gi_wp2
  have f0 : (W.alloc (.cells #[.int .i64 rs, .int .i64 rl, .int .i64 rw, .int .i64 many, .slice A n c] 26)).cell? ⟨W.heap.size, 0, none⟩ = some (.int .i64 rs) := by go_simp
  have f1 : (W.alloc (.cells #[.int .i64 rs, .int .i64 rl, .int .i64 rw, .int .i64 many, .slice A n c] 26)).cell? ⟨W.heap.size, 1, none⟩ = some (.int .i64 rl) := by go_simp
  have f2 : (W.alloc (.cells #[.int .i64 rs, .int .i64 rl, .int .i64 rw, .int .i64 many, .slice A n c] 26)).cell? ⟨W.heap.size, 2, none⟩ = some (.int .i64 rw) := by go_simp
  have f3 : (W.alloc (.cells #[.int .i64 rs, .int .i64 rl, .int .i64 rw, .int .i64 many, .slice A n c] 26)).cell? ⟨W.heap.size, 3, none⟩ = some (.int .i64 many) := by go_simp
  have f4 : (W.alloc (.cells #[.int .i64 rs, .int .i64 rl, .int .i64 rw, .int .i64 many, .slice A n c] 26)).cell? ⟨W.heap.size, 4, none⟩ = some (.slice A n c) := by go_simp
  generalize (W.alloc (.cells #[.int .i64 rs, .int .i64 rl, .int .i64 rw, .int .i64 many, .slice A n c] 26)) = w6 at *
  have HB6 := HB1
  clear HB1
  gi_loopw [5, 6] (fun sl iv wr => ∃ i : Nat, i ≤ m ∧ iv = .int .i64 i ∧ wr.ownsRow w6.heap.size 62 4 sl (apAll rs rl rw sh l m i).length (apVs (apAll rs rl rw sh l m i)) ∧ Below w6.heap.size w6 wr) (fun _ iv _ => m - (intOf iv).toNat)
  case atStart => exact ⟨0, by omega, rfl, ⟨rfl, .inl ⟨rfl, rfl⟩⟩, Below.refl _ _⟩
  case round =>
    obtain ⟨i, hi', rfl, hown, hb⟩ := hrel
    have HO := Lib.hid hown
    have HB := Lib.hid hb
    clear hown hb
    by_cases hli : i < m
    · have hw := wrap_small i (by omega)
      gi_wp2
      gi_loopw [5, 7] (fun sl kv wr => ∃ k : Nat, i + 1 ≤ k ∧ k ≤ m ∧ kv = .int .i64 k ∧ wr.ownsRow w6.heap.size 62 4 sl (apAll rs rl rw sh l m i ++ apRow rs rl rw sh l i (k - (i + 1))).length (apVs (apAll rs rl rw sh l m i ++ apRow rs rl rw sh l i (k - (i + 1)))) ∧ Below w6.heap.size w6 wr) (fun _ kv _ => m - (intOf kv).toNat)
      case atStart => exact ⟨i + 1, by omega, by omega, by first | rfl | go_num, by simpa [apRow] using HO.out, HB.out⟩
      case round =>
        obtain ⟨k, hk1, hk2, rfl, hown, hb⟩ := hrel
        have HO := Lib.hid hown
        have HB := Lib.hid hb
        clear hown hb
        by_cases hlt : k < m
        · gi_wp2
          gi_loopw [5, 8] (fun sl xv wi => ∃ x : Nat, x ≤ 3 ∧ xv = .int .i64 x ∧ wi.ownsRow w6.heap.size 62 4 sl (apAll rs rl rw sh l m i ++ apRow rs rl rw sh l i (k - (i + 1)) ++ apCell rs rl rw sh l i k x).length (apVs (apAll rs rl rw sh l m i ++ apRow rs rl rw sh l i (k - (i + 1)) ++ apCell rs rl rw sh l i k x)) ∧ Below w6.heap.size w6 wi) (fun _ xv _ => 3 - (intOf xv).toNat)
          case atStart => exact ⟨0, by omega, rfl, by simpa [apCell] using HO.out, HB.out⟩
          case round =>
            obtain ⟨x, hx, rfl, hown, hb⟩ := hrel
            have HO := Lib.hid hown
            have g0 := Below.old hb f0
            have g1 := Below.old hb f1
            have g2 := Below.old hb f2
            have g3 := Below.old hb f3
            have g4 := Below.old hb f4
            have hz1 : W.heap.size < wr.heap.size := World.block_lt_of_cell? _ _ g0
            have HB := Lib.hid hb
            clear hown hb
            by_cases hlx : x < 3
            · have hx2 : (x : Int) ≤ 2 := by omega
              obtain ⟨b1, o1, rfl, _⟩ := hsh.out (l i) (hl.out i hli)
              obtain ⟨b0, o0, rfl, hci⟩ := hi.out i hli
              obtain ⟨b0', o0', e', hck⟩ := hi.out k hlt
              cases e'
              have hci := Below.old HB6.out hci
              have hck := Below.old HB6.out hck
              have hci := Below.old HB.out hci
              have hck := Below.old HB.out hck
              have HSW := Lib.hid (hsh.out.below (HB6.out.trans (HB.out.mono HB6.out.size)))
              gi_wp2
              refine wpIn_region_D (D := [(28, stockV rs rl rw many (some ⟨b1, o1, none⟩) n c), (29, .slice (some ⟨b0, o0, none⟩) m lc), (30, .int .i64 i), (31, .pointer (some ⟨b0, o0 + i, none⟩)), (32, .int .i64 (l i)), (33, .slice (some ⟨b0, o0, none⟩) m lc), (34, .int .i64 k), (35, .pointer (some ⟨b0, o0 + k, none⟩)), (36, .int .i64 (l k)), (37, .int .i64 x), (38, .int .i64 (nearOf rs rl rw (sh (l i)) (sh (l k)) x)), (9, .int .i64 (nearOf rs rl rw (sh (l i)) (sh (l k)) x))])
                (I := fun w => Below wr.heap.size wr w) (z := 56) (by kernel_rfl) (by kernel_rfl) (by kernel_rfl) (by kernel_rfl) (by kernel_rfl) rfl rfl (Below.refl _ _).drew ?_ ?_
              · intro j a w hj hd hz hold hf hI
                have HIB := Lib.hid hI
                have d0 := Below.old hI g0
                have d1 := Below.old hI g1
                have d2 := Below.old hI g2
                have d3 := Below.old hI g3
                have d4 := Below.old hI g4
                have d5 := Below.old hI hci
                have d6 := Below.old hI hck
                clear hI
                have s1 := at_slot hz (hold 1 (by kernel_rfl)) (by omega)
                have s2 := at_slot hz (hold 2 (by kernel_rfl)) (by omega)
                have s6 := at_slot hz (hold 6 (by kernel_rfl)) (by omega)
                have s7 := at_slot hz (hold 7 (by kernel_rfl)) (by omega)
                have s8 := at_slot hz (hold 8 (by kernel_rfl)) (by omega)
                clear hold
                have hjs : j = 0 ∨ j = 1 ∨ j = 2 ∨ j = 3 ∨ j = 4 ∨ j = 5 ∨ j = 6 ∨ j = 7 ∨ j = 8 ∨ j = 9 ∨ j = 10 ∨ j = 11 := by have : j < 12 := hj; omega
                rcases hjs with rfl | rfl | rfl | rfl | rfl | rfl | rfl | rfl | rfl | rfl | rfl | rfl
                all_goals
                  try have f29 := at_slot hz (hf 1 29 _ rfl rfl) (by omega)
                  try have f30 := at_slot hz (hf 2 30 _ rfl rfl) (by omega)
                  try have f31 := at_slot hz (hf 3 31 _ rfl rfl) (by omega)
                  try have f33 := at_slot hz (hf 5 33 _ rfl rfl) (by omega)
                  try have f34 := at_slot hz (hf 6 34 _ rfl rfl) (by omega)
                  try have f35 := at_slot hz (hf 7 35 _ rfl rfl) (by omega)
                  try have f28 := at_slot hz (hf 0 28 _ rfl rfl) (by omega)
                  try have f32 := at_slot hz (hf 4 32 _ rfl rfl) (by omega)
                  try have f36 := at_slot hz (hf 8 36 _ rfl rfl) (by omega)
                  try have f37 := at_slot hz (hf 9 37 _ rfl rfl) (by omega)
                  try have f38 := at_slot hz (hf 10 38 _ rfl rfl) (by omega)
                  refine wpOpIn_step rfl fun K hK => ?_
                  go_simp
                  first
                    | exact hK _ _ ⟨_, _, rfl, rfl, rfl, HIB.out⟩
                    | (refine (refNear_any rs rl rw many b1 o1 n c (l i) (l k) x sh _ (hl.out i hli) (hl.out k hlt) hlx hst (Lib.hid (HSW.out.below HIB.out))).mono ?_; rintro e w' ⟨rfl, hb'⟩; exact hK _ _ ⟨_, _, rfl, rfl, rfl, HIB.out.trans (hb'.mono HIB.out.size)⟩)
              · intro w9 hI
                have HB9 := Lib.hid (HB.out.trans (hI.mono HB.out.size))
                have HO9 := Lib.hid (own_below HO.out hI)
                have d5 := Below.old hI hci
                have d6 := Below.old hI hck
                clear hI
                simp only [List.foldl_cons, List.foldl_nil, List.setIfInBounds_toArray, List.set_cons_succ, List.set_cons_zero]
                by_cases hy : nearOf rs rl rw (sh (l i)) (sh (l k)) x = 1
                · gi_wp2
                  go_roundw
                  case rel =>
                    refine ⟨x + 1, by omega, by first | rfl | go_num, ?_, HB9.out⟩
                    have e1 : apCell rs rl rw sh l i k (x + 1) = apCell rs rl rw sh l i k x := by simp [apCell, hy]
                    rw [e1]
                    exact HO9.out
                  case measure => simp [intOf]; omega
                · gi_wp2
                  have hy1 : apCell rs rl rw sh l i k (x + 1) = apCell rs rl rw sh l i k x ++ [⟨l i, l k, x, nearOf rs rl rw (sh (l i)) (sh (l k)) x⟩] := by simp [apCell, hy]
                  have HY1 := Lib.hid hy1
                  clear hy1
                  generalize nearOf rs rl rw (sh (l i)) (sh (l k)) x = y at *
                  refine wpIn_region_E 13 12 (D := [(41, u5), (42, .slice (some ⟨b0, o0, none⟩) m lc), (43, .int .i64 i), (44, .pointer (some ⟨b0, o0 + i, none⟩)), (45, .int .i64 (l i)), (46, .slice (some ⟨b0, o0, none⟩) m lc), (47, .int .i64 k), (48, .pointer (some ⟨b0, o0 + k, none⟩)), (49, .int .i64 (l k)), (50, .int .i64 x), (51, .int .i64 y), (52, .agg #[.int .i64 (l i), .int .i64 (l k), .int .i64 x, .int .i64 y]), (53, .slice (some ⟨w9.heap.size, 0, none⟩) 1 1)])
                    (I := fun b w => w = if b then (w9.drew).alloc (.cells #[.int .i64 (l i), .int .i64 (l k), .int .i64 x, .int .i64 y] 62) else w9.drew) (z := 56) (by kernel_rfl) (by kernel_rfl) (by kernel_rfl) (by kernel_rfl) (by decide) (by omega) ⟨rfl, by kernel_rfl⟩ (by kernel_rfl) (by kernel_rfl) rfl rfl rfl ?_ ?_ ?_
                  · intro bb j a w hj hje hd hz hold hf hI
                    have d7 : w.cell? ⟨b0, o0 + i, none⟩ = some (.int .i64 (l i)) := by subst hI; cases bb; exact d5; exact Below.old (((Below.refl _ _).drew).alloc (Nat.le_refl _) _) d5
                    have d8 : w.cell? ⟨b0, o0 + k, none⟩ = some (.int .i64 (l k)) := by subst hI; cases bb; exact d6; exact Below.old (((Below.refl _ _).drew).alloc (Nat.le_refl _) _) d6
                    have s1 := at_slot hz (hold 1 (by simp)) (by omega)
                    have s5 := at_slot hz (hold 5 (by simp)) (by omega)
                    have s6 := at_slot hz (hold 6 (by simp)) (by omega)
                    have s7 := at_slot hz (hold 7 (by simp)) (by omega)
                    have s8 := at_slot hz (hold 8 (by simp)) (by omega)
                    have s9 := at_slot hz (hold 9 (by simp)) (by omega)
                    have HI := Lib.hid hI
                    clear hold hI
                    have hjs : j = 0 ∨ j = 1 ∨ j = 2 ∨ j = 3 ∨ j = 4 ∨ j = 5 ∨ j = 6 ∨ j = 7 ∨ j = 8 ∨ j = 9 ∨ j = 10 ∨ j = 11 := by omega
                    rcases hjs with rfl | rfl | rfl | rfl | rfl | rfl | rfl | rfl | rfl | rfl | rfl | rfl
                    all_goals
                      try have f42 := at_slot hz (hf 1 42 _ rfl rfl) (by omega)
                      try have f43 := at_slot hz (hf 2 43 _ rfl rfl) (by omega)
                      try have f44 := at_slot hz (hf 3 44 _ rfl rfl) (by omega)
                      try have f46 := at_slot hz (hf 5 46 _ rfl rfl) (by omega)
                      try have f47 := at_slot hz (hf 6 47 _ rfl rfl) (by omega)
                      try have f48 := at_slot hz (hf 7 48 _ rfl rfl) (by omega)
                      try have f45 := at_slot hz (hf 4 45 _ rfl rfl) (by omega)
                      try have f49 := at_slot hz (hf 8 49 _ rfl rfl) (by omega)
                      try have f50 := at_slot hz (hf 9 50 _ rfl rfl) (by omega)
                      try have f51 := at_slot hz (hf 10 51 _ rfl rfl) (by omega)
                      refine wpOpIn_step rfl fun K hK => ?_
                      go_simp
                      exact hK _ _ ⟨_, _, rfl, rfl, rfl, HI.out⟩
                  · intro a w hd hz hold hf hI
                    have hsz : w.heap.size = w9.heap.size := by subst hI; rfl
                    have HI := Lib.hid hI
                    clear hI
                    have f52 := at_slot hz (hf 11 52 _ (by kernel_rfl) rfl) (by omega)
                    refine wpOpIn_step rfl fun K hK => ?_
                    go_simp
                    exact hK _ _ ⟨_, _, rfl, rfl, (by first | rfl | (rw [hsz])), by rw [show w = w9.drew from HI.out]; rfl⟩
                  · intro w hI
                    have hI' : w = (w9.drew).alloc (.cells #[.int .i64 (l i), .int .i64 (l k), .int .i64 x, .int .i64 y] 62) := hI
                    subst hI'
                    have hkk : i + 1 + (k - (i + 1)) = k := by omega
                    have hln := ap_len rs rl rw sh l hm hi' (t := k - (i + 1)) (x := x) (by omega) (by omega)
                    have hln2 := ap_len2 rs rl rw sh l hm hi' (t := k - (i + 1)) (x := x) (by omega) (by omega)
                    rw [hkk] at hln hln2
                    have HLN := Lib.hid hln
                    have HLN2 := Lib.hid hln2
                    clear hln hln2 hkk
                    simp only [List.foldl_cons, List.foldl_nil, List.setIfInBounds_toArray, List.set_cons_succ, List.set_cons_zero, List.drop_succ_cons, List.drop_zero]
                    gi_wp2_with (gi_at_builtin; refine wpListIn_append_own _ rfl _ _ 35 rfl w6.heap.size 62 i0 (.agg #[.int .i64 0, .int .i64 0, .int .i64 0, .int .i64 0]) 4 32 ut35 HI0.out HZ0.out HZ1.out HZ2.out rfl (by decide) _ _ _ rfl ((World.ownsRow.drew HO9.out).alloc _) ⟨w9.heap.size, 0, none⟩ 1 1 (apV ⟨l i, l k, x, y⟩) rfl rfl (cells_new _ _ _) (by simp [apV, Value.oneCell']) HLN.out (by have := HLN2.out; omega) (by have := HB9.out.size; simp; omega) ?_; intro v' w4 hown4 hg4 hnil4)
                    go_roundw
                    case rel =>
                      have hx4 := (World.ownsRow.drew HO9.out).alloc (.cells #[.int .i64 (l i), .int .i64 (l k), .int .i64 x, .int .i64 y] 62)
                      refine ⟨x + 1, by omega, by first | rfl | go_num, ?_, (HB9.out.drew.alloc HB9.out.size _).grown hg4 (by have := HB9.out.size; simp; omega) (fun g hg => (hx4.lt g hg).1)⟩
                      rw [HY1.out, ap_snoc_len, ap_snoc]
                      exact hown4
                    case measure => simp [intOf]; omega
            · gi_wp2
              obtain rfl : x = 3 := by omega
              go_roundw
              case rel => exact ⟨k + 1, by omega, by omega, by go_num, by rw [show k + 1 - (i + 1) = (k - (i + 1)) + 1 by omega, show apRow rs rl rw sh l i (k - (i + 1) + 1) = apRow rs rl rw sh l i (k - (i + 1)) ++ apCell rs rl rw sh l i k 3 by simp only [apRow]; rw [show i + 1 + (k - (i + 1)) = k by omega], ← List.append_assoc]; exact HO.out, HB.out⟩
              case measure => simp [intOf]; omega
        · gi_wp2
          obtain rfl : k = m := by omega
          go_roundw
          case rel => exact ⟨i + 1, by omega, by go_num, by simpa [apAll] using HO.out, HB.out⟩
          case measure => simp [intOf]; omega
    · gi_wp2
      obtain rfl : i = m := by omega
      go_ret
      exact ⟨_, _, rfl, HO.out, HB6.out.size, HB6.out.trans (HB.out.mono HB6.out.size)⟩
end Go.Proofs.YtpdmgecbapmgdaaGreat
end
section
namespace Go.Proofs.YtpdmgecbapmgdaaGreat
open Go.RowKit
section
variable {rs rl rw : Int} {sh : Nat → Shaft} {l : Nat → Nat}
theorem apCell_mem {i k w : Nat} (hn : nearOf rs rl rw (sh (l i)) (sh (l k)) w ≠ 1) : ∀ x, w < x → (⟨l i, l k, w, nearOf rs rl rw (sh (l i)) (sh (l k)) w⟩ : Ap) ∈ apCell rs rl rw sh l i k x
  | 0, h => absurd h (by omega)
  | x + 1, h => by
    simp only [apCell, List.mem_append]
    by_cases e : w = x
    · subst e
      right
      rw [if_neg hn]
      exact List.mem_singleton.2 rfl
    · exact .inl (apCell_mem hn x (by omega))
theorem apRow_mem {i k w : Nat} (hn : nearOf rs rl rw (sh (l i)) (sh (l k)) w ≠ 1) (hw : w < 3) : ∀ t, i < k → k < i + 1 + t → (⟨l i, l k, w, nearOf rs rl rw (sh (l i)) (sh (l k)) w⟩ : Ap) ∈ apRow rs rl rw sh l i t
  | 0, h1, h2 => absurd h1 (by omega)
  | t + 1, h1, h2 => by
    simp only [apRow, List.mem_append]
    by_cases e : k = i + 1 + t
    · subst e
      exact .inr (apCell_mem hn 3 hw)
    · exact .inl (apRow_mem hn hw t h1 (by omega))
theorem apAll_mem {m j k w : Nat} (hn : nearOf rs rl rw (sh (l j)) (sh (l k)) w ≠ 1) (hw : w < 3) (hjk : j < k) (hk : k < m) : ∀ i, j < i → (⟨l j, l k, w, nearOf rs rl rw (sh (l j)) (sh (l k)) w⟩ : Ap) ∈ apAll rs rl rw sh l m i
  | 0, h => absurd h (by omega)
  | i + 1, h => by
    simp only [apAll, List.mem_append]
    by_cases e : j = i
    · subst e
      exact .inr (apRow_mem hn hw _ hjk (by omega))
    · exact .inl (apAll_mem hn hw hjk hk i (by omega))
theorem ap_two {m : Nat} : matchZ rs rl rw sh l m = 2 ↔ ∃ e ∈ apAll rs rl rw sh l m m, e.sure = 2 := by
  constructor
  · intro h
    obtain ⟨j, i, h1, h2, w, h3, h4⟩ := matchZ_two.1 h
    exact ⟨_, apAll_mem (by rw [h4]; decide) h3 h1 h2 m (by omega), h4⟩
  · rintro ⟨e, he, h⟩
    obtain ⟨j, k, h1, h2, _, _, h3, h4, _⟩ := apAll_ok m (Nat.le_refl _) e he
    exact matchZ_two.2 ⟨j, k, h1, h2, e.what, h3, by rw [← h4, h]⟩
end
structure ApAt (w : World) (b p : Nat) (x : Ap) : Prop where
  h0 : w.cell? ⟨b, p, none⟩ = some (.int .i64 x.one)
  h1 : w.cell? ⟨b, p + 1, none⟩ = some (.int .i64 x.two)
  h2 : w.cell? ⟨b, p + 2, none⟩ = some (.int .i64 x.what)
  h3 : w.cell? ⟨b, p + 3, none⟩ = some (.int .i64 x.sure)
abbrev apAgg (x : Ap) : Value := .agg #[.int .i64 x.one, .int .i64 x.two, .int .i64 x.what, .int .i64 x.sure]
def ApsAt (w : World) (A : Option Addr) (L : List Ap) : Prop := ∀ k (h : k < L.length), ∃ b, A = some ⟨b, 0, none⟩ ∧ ApAt w b (k * 4) L[k]
theorem ApAt.below {W w : World} (h : Below W.heap.size W w) {b p : Nat} {x : Ap} (hx : ApAt W b p x) : ApAt w b p x :=
  ⟨Below.old h hx.h0, Below.old h hx.h1, Below.old h hx.h2, Below.old h hx.h3⟩
theorem ApsAt.below {W w : World} (h : Below W.heap.size W w) {A : Option Addr} {L : List Ap} (hx : ApsAt W A L) : ApsAt w A L := fun k hk => by
  obtain ⟨b, e, h1⟩ := hx k hk
  exact ⟨b, e, h1.below h⟩
theorem ApAt.lt {w : World} {b p : Nat} {x : Ap} (h : ApAt w b p x) : b < w.heap.size := World.block_lt_of_cell? w _ h.h0
theorem apVs_get : ∀ (L : List Ap) (k j : Nat) (hk : k < L.length), j < 4 → (apVs L)[k * 4 + j]? = (apV L[k])[j]?
  | [], k, j, hk, _ => absurd hk (by simp)
  | x :: L, k, j, hk, hj => by
    have e : apVs (x :: L) = apV x ++ apVs L := rfl
    rw [e]
    cases k with
    | zero =>
      rw [List.getElem?_append_left (by simp [apV]; omega)]
      simp
    | succ k =>
      rw [List.getElem?_append_right (by simp [apV]; omega)]
      have h1 := apVs_get L k j (by simpa using hk) hj
      simp only [List.getElem_cons_succ]
      rw [← h1]
      congr 1
      simp [apV]
      omega
theorem aps_own {w : World} {base : Nat} {sl : Value} {L : List Ap} (h : w.ownsRow base 62 4 sl L.length (apVs L)) : ∃ (A : Option Addr) (c : Nat), sl = .slice A L.length c ∧ L.length ≤ c ∧ ApsAt w A L := by
  rcases h.2 with ⟨rfl, h0⟩ | ⟨g, cap, cur, rfl, _, _, hc, _⟩
  · refine ⟨none, 0, by rw [h0], by omega, fun k hk => absurd hk (by omega)⟩
  · refine ⟨_, cap, rfl, hc, fun k hk => ⟨g, rfl, ?_⟩⟩
    have key : ∀ j, j < 4 → w.cell? ⟨g, k * 4 + j, none⟩ = (apV L[k])[j]? := fun j hj => by
      rw [h.cellAt _ (by omega), apVs_get L k j hk hj]
    exact ⟨by simpa [apV] using key 0 (by omega), by simpa [apV] using key 1 (by omega), by simpa [apV] using key 2 (by omega), by simpa [apV] using key 3 (by omega)⟩
theorem refMatch_any (rs rl rw many : Int) (A : Option Addr) (n c : Nat) (sh : Nat → Shaft) (LA : Option Addr) (m lc : Nat) (l : Nat → Nat) (W : World) (hc : n ≤ c) (hst : Hid (StockOk rs rl rw many n sh)) (hsh : Hid (ShaftsAt W A n sh))
    (hm : m ≤ 9) (hmc : m ≤ lc) (hl : Hid (∀ k, k < m → l k < n)) (hi : Hid (IntsAt W LA m fun k => (l k : Int))) :
    CallsIn Fc 0 Tryz.prog 61 #[stockV rs rl rw many A n c, .slice LA m lc] W (SaysInt (matchZ rs rl rw sh l m) W) := by
  have hB1 : Below W.heap.size W (W.alloc (.cells #[.int .i64 rs, .int .i64 rl, .int .i64 rw, .int .i64 many, .slice A n c] 26)) := (Below.refl _ _).alloc (Nat.le_refl _) _
  have HB1 := Lib.hid hB1
  clear hB1
  have hlen : (apAll rs rl rw sh l m m).length ≤ 300 := by have := apAll_len rs rl rw sh l hm m; omega
  have h2 : (∃ e ∈ apAll rs rl rw sh l m m, e.sure = 2) → matchZ rs rl rw sh l m = 2 := ap_two.2
  have h1 : apAll rs rl rw sh l m m = [] → matchZ rs rl rw sh l m = 1 := ap_yes.1
  have h0 : apAll rs rl rw sh l m m ≠ [] → (∀ e ∈ apAll rs rl rw sh l m m, e.sure ≠ 2) → matchZ rs rl rw sh l m = 0 := fun h3 h4 => by
    rcases matchZ_range rs rl rw sh l m with h | h | h
    · exact h
    · exact absurd (ap_yes.2 h) h3
    · obtain ⟨e, he, h5⟩ := ap_two.1 h
      exact absurd h5 (h4 e he)
  have H2 := Lib.hid h2
  have H1 := Lib.hid h1
  have H0 := Lib.hid h0
  clear h0 h1 h2
  have hcall := fun w (hb : Below W.heap.size W w) => refApart_any rs rl rw many A n c sh LA m lc l w hc hst (Lib.hid (hsh.out.below hb)) hm hmc hl (Lib.hid (hi.out.below hb))
  have HC := Lib.hid hcall
  clear hcall
  generalize apAll rs rl rw sh l m m = L at *
  generalize matchZ rs rl rw sh l m = mz at *
  gi_enter Tryz.func61, Tryz.ntmps61
  gi_wp2_with (gi_at_call 67; refine (HC.out _ HB1.out).mono ?_; rintro e w2 ⟨sl, base, rfl, hown, hbase, hb2⟩
               obtain ⟨LB, cb, rfl, hcb, haps⟩ := aps_own hown
               have HA := Lib.hid haps
               have HB2 := Lib.hid (HB1.out.trans (hb2.mono HB1.out.size))
               clear hown hb2 haps hbase)
  gi_loopw [5, 7] (fun ov iv wr => ∃ k : Nat, k ≤ L.length ∧ iv = .int .i64 k ∧ (∃ q : Int, ov = .int .i64 q ∧ Hid (q = if k = 0 then 1 else 0)) ∧ Below w2.heap.size w2 wr ∧ ∀ j (h : j < L.length), j < k → L[j].sure ≠ 2) (fun _ iv _ => L.length - (intOf iv).toNat)
  case atStart => exact ⟨0, Nat.zero_le _, rfl, ⟨1, rfl, Lib.hid rfl⟩, Below.refl _ _, fun j _ h => by omega⟩
  case round =>
    obtain ⟨k, hk, rfl, ⟨q, rfl, hq⟩, hb, hz⟩ := hrel
    have HZ := Lib.hid hz
    clear hz
    by_cases hlt : k < L.length
    · obtain ⟨b, rfl, hx⟩ := HA.out k hlt
      obtain ⟨x0, x1, x2, x3⟩ := hx.below hb
      have HB := Lib.hid hb
      clear hb hx
      by_cases h2 : L[k].sure = 2
      · rw [h2] at x3
        have hv := H2.out ⟨L[k], List.getElem_mem hlt, h2⟩
        gi_wp2
        go_ret
        exact ⟨by first | rfl | (rw [hv]; rfl), HB2.out.trans (HB.out.mono HB2.out.size)⟩
      · gi_wp2
        go_roundw
        case rel => exact ⟨k + 1, by omega, by go_num, ⟨0, rfl, Lib.hid (by rw [if_neg (by omega)])⟩, HB.out, fun j hj hjk => by
          rcases Nat.lt_succ_iff_lt_or_eq.1 hjk with h | rfl
          · exact HZ.out j hj h
          · exact h2⟩
        case measure => simp [intOf]; omega
    · obtain rfl : k = L.length := by omega
      have HB := Lib.hid hb
      clear hb
      have hno : ∀ e ∈ L, e.sure ≠ 2 := fun e he => by
        obtain ⟨j, hj, rfl⟩ := List.mem_iff_getElem.1 he
        exact HZ.out j hj hj
      have hv : q = mz := by
        rw [hq.out]
        by_cases hL : L.length = 0
        · rw [if_pos hL, H1.out (List.length_eq_zero_iff.1 hL)]
        · rw [if_neg hL, H0.out (fun e => hL (by rw [e]; rfl)) hno]
      have HV := Lib.hid hv
      clear hv
      gi_wp2
      go_ret
      exact ⟨by first | rfl | (rw [HV.out]; rfl) | (rw [← HV.out]; rfl), HB2.out.trans (HB.out.mono HB2.out.size)⟩
theorem SameAparts_yes (A B : Option Addr) (L : List Ap) (c c2 : Nat) (W : World) (hn : L.length ≤ 300) (hc : L.length ≤ c) (hc2 : L.length ≤ c2) (hA : Hid (ApsAt W A L)) (hB : Hid (ApsAt W B L)) :
    CallsIn Fc 0 Tryz.prog 21 #[.slice A L.length c, .slice B L.length c2] W (SaysBool true W) := by
  gi_enter Tryz.func21, Tryz.ntmps21
  gi_wp2
  gi_loopw [5] (fun v wr => ∃ i : Nat, i ≤ L.length ∧ v = .int .i64 i ∧ Below W.heap.size W wr) (fun v _ => L.length - (intOf v).toNat)
  case atStart => exact ⟨0, by omega, rfl, Below.refl _ _⟩
  case round =>
    obtain ⟨i, hi, rfl, hb⟩ := hrel
    have HB := Lib.hid hb
    clear hb
    by_cases hlt : i < L.length
    · obtain ⟨b, rfl, hx⟩ := hA.out i hlt
      obtain ⟨b', rfl, hy⟩ := hB.out i hlt
      have HX := Lib.hid (hx.below HB.out)
      have HY := Lib.hid (hy.below HB.out)
      gi_wp2
      generalize L[i] = x at *
      refine wpIn_region_D (D := [(17, .slice (some ⟨b, 0, none⟩) L.length c), (18, .int .i64 i), (19, .pointer (some ⟨b, i * 4, none⟩)), (20, apAgg x), (21, .slice (some ⟨b', 0, none⟩) L.length c2), (22, .int .i64 i), (23, .pointer (some ⟨b', i * 4, none⟩)), (24, apAgg x), (25, .bool false)])
        (I := fun w => Below W.heap.size W w ∧ ApAt w b (i * 4) x ∧ ApAt w b' (i * 4) x) (z := 26) (by kernel_rfl) (by kernel_rfl) (by kernel_rfl) (by kernel_rfl) (by kernel_rfl) rfl rfl ⟨HB.out.drew, by simpa using HX.out.below (Below.refl _ _).drew, by simpa using HY.out.below (Below.refl _ _).drew⟩ ?_ ?_
      · intro j a w hj hd hz hold hf hI
        have HI := Lib.hid hI
        clear hI
        obtain ⟨x0, x1, x2, x3⟩ := HI.out.2.1
        obtain ⟨y0, y1, y2, y3⟩ := HI.out.2.2
        have s0 := at_slot hz (hold 0 (by kernel_rfl)) (by omega)
        have s1 := at_slot hz (hold 1 (by kernel_rfl)) (by omega)
        have s5 := at_slot hz (hold 5 (by kernel_rfl)) (by omega)
        clear hold
        have hjs : j = 0 ∨ j = 1 ∨ j = 2 ∨ j = 3 ∨ j = 4 ∨ j = 5 ∨ j = 6 ∨ j = 7 ∨ j = 8 := by have : j < 9 := hj; omega
        rcases hjs with rfl | rfl | rfl | rfl | rfl | rfl | rfl | rfl | rfl
        all_goals
          try have f17 := at_slot hz (hf 0 17 _ rfl rfl) (by omega)
          try have f18 := at_slot hz (hf 1 18 _ rfl rfl) (by omega)
          try have f19 := at_slot hz (hf 2 19 _ rfl rfl) (by omega)
          try have f21 := at_slot hz (hf 4 21 _ rfl rfl) (by omega)
          try have f22 := at_slot hz (hf 5 22 _ rfl rfl) (by omega)
          try have f23 := at_slot hz (hf 6 23 _ rfl rfl) (by omega)
          try have f20 := at_slot hz (hf 3 20 _ rfl rfl) (by omega)
          try have f24 := at_slot hz (hf 7 24 _ rfl rfl) (by omega)
          refine wpOpIn_step rfl fun K hK => ?_
          go_simp
          exact hK _ _ ⟨_, _, rfl, rfl, rfl, HI.out⟩
      · intro w hI
        have HI := Lib.hid hI.1
        clear hI
        simp only [List.foldl_cons, List.foldl_nil, List.setIfInBounds_toArray, List.set_cons_succ, List.set_cons_zero]
        gi_wp2
        go_roundw
        case rel => exact ⟨i + 1, by omega, by go_num, HI.out⟩
        case measure => simp [intOf]; omega
    · gi_wp2
      go_ret
      exact ⟨rfl, HB.out⟩
end Go.Proofs.YtpdmgecbapmgdaaGreat
end
section
namespace Go.Proofs.YtpdmgecbapmgdaaGreat
open Go.RowKit
theorem asc_ok {n m : Nat} {l : Nat → Int} (h : ascZ n l m = 0) : (∀ k, k < m → 0 ≤ l k ∧ l k < n) ∧ (∀ k, k + 1 < m → l k < l (k + 1)) := by
  have hz := firstZ_zero.1 h
  refine ⟨fun k hk => ?_, fun k hk => ?_⟩
  · have h1 := hz k hk
    unfold itemZ at h1
    split at h1
    · assumption
    · cases h1
  · have h1 := hz (k + 1) hk
    unfold itemZ at h1
    split at h1
    · split at h1
      · cases h1
      · next h2 =>
        by_cases h3 : l k < l (k + 1)
        · exact h3
        · exact absurd ⟨by omega, by simpa using h3⟩ h2
    · cases h1
theorem asc_lt {n m : Nat} {l : Nat → Int} (h : ascZ n l m = 0) : ∀ k j, j < k → k < m → l j < l k
  | 0, j, hj, _ => absurd hj (by omega)
  | k + 1, j, hj, hk => by
    have h1 := (asc_ok h).2 k hk
    by_cases e : j = k
    · subst e; exact h1
    · have h2 := asc_lt h k j (by omega) (by omega)
      omega
theorem asc_ge {n m : Nat} {l : Nat → Int} (h : ascZ n l m = 0) : ∀ k, k < m → (k : Int) ≤ l k
  | 0, hk => ((asc_ok h).1 0 hk).1
  | k + 1, hk => by
    have h1 := asc_ge h k (by omega)
    have h2 := (asc_ok h).2 k hk
    omega
theorem asc_len {n m : Nat} {l : Nat → Int} (h : ascZ n l m = 0) : m ≤ n := by
  rcases Nat.eq_zero_or_pos m with h0 | h0
  · omega
  · have h1 := asc_ge h (m - 1) (by omega)
    have h2 := ((asc_ok h).1 (m - 1) (by omega)).2
    omega
theorem ints_nat {W : World} {LA : Option Addr} {n m : Nat} {l : Nat → Int} (h : ascZ n l m = 0) (hi : IntsAt W LA m l) : IntsAt W LA m fun k => ((l k).toNat : Int) := fun k hk => by
  obtain ⟨b, o, e, hx⟩ := hi k hk
  refine ⟨b, o, e, ?_⟩
  have e1 : ((l k).toNat : Int) = l k := Int.toNat_of_nonneg ((asc_ok h).1 k hk).1
  show W.cell? _ = some (.int .i64 ((l k).toNat : Int))
  rw [e1]
  exact hx
theorem askL_zero {rs rl rw many : Int} {n : Nat} {sh : Nat → Shaft} {l : Nat → Int} {m : Nat} (h : askLZ rs rl rw many n sh l m = 0) : stockZ rs rl rw many n sh = 0 ∧ ascZ n l m = 0 := by
  unfold askLZ at h
  split at h
  · next h1 => exact ⟨h1, h⟩
  · next h1 => exact absurd h h1
noncomputable def mzOf (rs rl rw many : Int) (n : Nat) (sh : Nat → Shaft) (l : Nat → Int) (m : Nat) : Int := if askLZ rs rl rw many n sh l m = 0 then matchZ rs rl rw sh (fun k => (l k).toNat) m else 0
def SaysTwo (v g : Int) (w : World) (e : Ending) (w' : World) : Prop := e = .returned (.tuple #[.int .i64 v, .int .i64 g]) ∧ Below w.heap.size w w'
theorem Match_exact (rs rl rw many : Int) (A : Option Addr) (n c : Nat) (sh : Nat → Shaft) (LA : Option Addr) (m lc : Nat) (l : Nat → Int) (W : World) (hn : n ≤ 20) (hc : n ≤ c) (hm : m ≤ 20) (hmc : m ≤ lc) (hsh : Hid (ShaftsAt W A n sh)) (hnm : Hid (∀ k, k < n → (sh k).name.size ≤ 100)) (hi : Hid (IntsAt W LA m l)) :
    CallsIn Fc 0 Tryz.prog 15 #[stockV rs rl rw many A n c, .slice LA m lc] W (SaysTwo (mzOf rs rl rw many n sh l m) (askLZ rs rl rw many n sh l m) W) := by
  by_cases h0 : askLZ rs rl rw many n sh l m = 0
  · have e : mzOf rs rl rw many n sh l m = matchZ rs rl rw sh (fun k => (l k).toNat) m := if_pos h0
    obtain ⟨h1, h2⟩ := askL_zero h0
    have hst := stock_ok h1
    have hn9 := hst.count
    have hmn := asc_len h2
    rw [e, h0]
    refine (Match_any rs rl rw many A n c sh LA m lc (fun k => (l k).toNat) W hc (Lib.hid hst) hsh (by omega) hmc (Lib.hid fun k hk => by have := (asc_ok h2).1 k hk; omega) (Lib.hid fun j k hj hk => by have a1 := asc_lt h2 k j hj hk; have a2 := (asc_ok h2).1 j (by omega); omega) (Lib.hid (ints_nat h2 hi.out))).mono ?_
    rintro e w' ⟨rfl, hb⟩
    exact ⟨rfl, hb⟩
  · have e : mzOf rs rl rw many n sh l m = 0 := if_neg h0
    rw [e]
    exact (Match_foul rs rl rw many A n c sh LA m lc l W hn hc hm hsh hnm hi _ (Lib.hid rfl) (Lib.hid h0)).mono fun e w' h => h
theorem RefMatch_exact (rs rl rw many : Int) (A : Option Addr) (n c : Nat) (sh : Nat → Shaft) (LA : Option Addr) (m lc : Nat) (l : Nat → Int) (W : World) (hn : n ≤ 20) (hc : n ≤ c) (hm : m ≤ 20) (hmc : m ≤ lc) (hsh : Hid (ShaftsAt W A n sh)) (hnm : Hid (∀ k, k < n → (sh k).name.size ≤ 100)) (hi : Hid (IntsAt W LA m l)) :
    CallsIn Fc 0 Tryz.prog 16 #[stockV rs rl rw many A n c, .slice LA m lc] W (SaysTwo (mzOf rs rl rw many n sh l m) (askLZ rs rl rw many n sh l m) W) := by
  have hB1 : Below W.heap.size W (W.alloc (.cells #[.int .i64 rs, .int .i64 rl, .int .i64 rw, .int .i64 many, .slice A n c] 26)) := (Below.refl _ _).alloc (Nat.le_refl _) _
  have HB1 := Lib.hid hB1
  clear hB1
  have hask := fun w (hb : Below W.heap.size W w) => askedList_any rs rl rw many A n c sh LA m lc l w hn hc hm hmc (Lib.hid (hsh.out.below hb)) hnm (Lib.hid (hi.out.below hb))
  have HK := Lib.hid hask
  clear hask
  by_cases h0 : askLZ rs rl rw many n sh l m = 0
  · have e : mzOf rs rl rw many n sh l m = matchZ rs rl rw sh (fun k => (l k).toNat) m := if_pos h0
    obtain ⟨h1, h2⟩ := askL_zero h0
    have hst := stock_ok h1
    have hn9 := hst.count
    have hmn := asc_len h2
    have hcall := fun w (hb : Below W.heap.size W w) => refMatch_any rs rl rw many A n c sh LA m lc (fun k => (l k).toNat) w hc (Lib.hid hst) (Lib.hid (hsh.out.below hb)) (by omega) hmc (Lib.hid fun k hk => by have := (asc_ok h2).1 k hk; omega) (Lib.hid (ints_nat h2 (hi.out.below hb)))
    have HC := Lib.hid hcall
    clear hcall hst h1 h2
    rw [e, h0]
    rw [h0] at HK
    clear e h0
    generalize matchZ rs rl rw sh (fun k => (l k).toNat) m = mz at *
    gi_enter Tryz.func16, Tryz.ntmps16
    gi_wp2_with (first
      | (gi_at_call 60; refine (HK.out _ HB1.out).mono ?_; rintro e w2 ⟨rfl, hb2⟩
         have e0 : w2.cell? ⟨W.heap.size, 0, none⟩ = some (.int .i64 rs) := Below.old hb2 (by go_simp)
         have e1 : w2.cell? ⟨W.heap.size, 1, none⟩ = some (.int .i64 rl) := Below.old hb2 (by go_simp)
         have e2 : w2.cell? ⟨W.heap.size, 2, none⟩ = some (.int .i64 rw) := Below.old hb2 (by go_simp)
         have e3 : w2.cell? ⟨W.heap.size, 3, none⟩ = some (.int .i64 many) := Below.old hb2 (by go_simp)
         have e4 : w2.cell? ⟨W.heap.size, 4, none⟩ = some (.slice A n c) := Below.old hb2 (by go_simp)
         have HB2 := Lib.hid (HB1.out.trans (hb2.mono HB1.out.size)); clear hb2)
      | (gi_at_call 61; refine (HC.out _ HB2.out).mono ?_; rintro e w3 ⟨rfl, hb3⟩; have HB3 := Lib.hid (HB2.out.trans (hb3.mono HB2.out.size)); clear hb3))
    go_ret2
    exact ⟨rfl, HB3.out⟩
  · have e : mzOf rs rl rw many n sh l m = 0 := if_neg h0
    rw [e]
    clear e
    generalize askLZ rs rl rw many n sh l m = z at *
    gi_enter Tryz.func16, Tryz.ntmps16
    gi_wp2_with (gi_at_call 60; refine (HK.out _ HB1.out).mono ?_; rintro e w2 ⟨rfl, hb2⟩; have HB2 := Lib.hid (HB1.out.trans (hb2.mono HB1.out.size)); clear hb2)
    go_ret2
    exact ⟨rfl, HB2.out⟩
noncomputable def apOf (rs rl rw many : Int) (n : Nat) (sh : Nat → Shaft) (l : Nat → Int) (m : Nat) : List Ap := if askLZ rs rl rw many n sh l m = 0 then apAll rs rl rw sh (fun k => (l k).toNat) m m else []
theorem apOf_len (rs rl rw many : Int) (n : Nat) (sh : Nat → Shaft) (l : Nat → Int) (m : Nat) : (apOf rs rl rw many n sh l m).length ≤ 300 := by
  unfold apOf
  split
  · next h =>
    obtain ⟨h1, h2⟩ := askL_zero h
    have := asc_len h2
    have := (stock_ok h1).count
    have := apAll_len rs rl rw sh (fun k => (l k).toNat) (m := m) (by omega) m
    omega
  · simp
def ApartRel (L : List Ap) (g : Int) (W : World) (e : Ending) (w' : World) : Prop := ∃ (B : Option Addr) (k : Nat), e = .returned (.tuple #[.slice B L.length k, .int .i64 g]) ∧ L.length ≤ k ∧ ApsAt w' B L ∧ Below W.heap.size W w'
theorem Apart_exact (rs rl rw many : Int) (A : Option Addr) (n c : Nat) (sh : Nat → Shaft) (LA : Option Addr) (m lc : Nat) (l : Nat → Int) (W : World) (hn : n ≤ 20) (hc : n ≤ c) (hm : m ≤ 20) (hmc : m ≤ lc) (hsh : Hid (ShaftsAt W A n sh)) (hnm : Hid (∀ k, k < n → (sh k).name.size ≤ 100)) (hi : Hid (IntsAt W LA m l)) :
    CallsIn Fc 0 Tryz.prog 19 #[stockV rs rl rw many A n c, .slice LA m lc] W (ApartRel (apOf rs rl rw many n sh l m) (askLZ rs rl rw many n sh l m) W) := by
  by_cases h0 : askLZ rs rl rw many n sh l m = 0
  · have e : apOf rs rl rw many n sh l m = apAll rs rl rw sh (fun k => (l k).toNat) m m := if_pos h0
    obtain ⟨h1, h2⟩ := askL_zero h0
    have hst := stock_ok h1
    have hn9 := hst.count
    have hmn := asc_len h2
    rw [e, h0]
    refine (Apart_any rs rl rw many A n c sh LA m lc (fun k => (l k).toNat) W hc (Lib.hid hst) hsh (by omega) hmc (Lib.hid fun k hk => by have := (asc_ok h2).1 k hk; omega) (Lib.hid fun j k hj hk => by have a1 := asc_lt h2 k j hj hk; have a2 := (asc_ok h2).1 j (by omega); omega) (Lib.hid (ints_nat h2 hi.out))).mono ?_
    rintro e w' ⟨sl, base, rfl, hown, _, hb⟩
    obtain ⟨B, k, rfl, hk, hx⟩ := aps_own hown
    exact ⟨B, k, rfl, hk, hx, hb⟩
  · have e : apOf rs rl rw many n sh l m = [] := if_neg h0
    rw [e]
    refine (Apart_foul rs rl rw many A n c sh LA m lc l W hn hc hm hsh hnm hi _ (Lib.hid rfl) (Lib.hid h0)).mono ?_
    rintro e w' ⟨rfl, hb⟩
    exact ⟨none, 0, rfl, Nat.le_refl _, fun k hk => absurd hk (by simp), hb⟩
theorem RefApart_exact (rs rl rw many : Int) (A : Option Addr) (n c : Nat) (sh : Nat → Shaft) (LA : Option Addr) (m lc : Nat) (l : Nat → Int) (W : World) (hn : n ≤ 20) (hc : n ≤ c) (hm : m ≤ 20) (hmc : m ≤ lc) (hsh : Hid (ShaftsAt W A n sh)) (hnm : Hid (∀ k, k < n → (sh k).name.size ≤ 100)) (hi : Hid (IntsAt W LA m l)) :
    CallsIn Fc 0 Tryz.prog 20 #[stockV rs rl rw many A n c, .slice LA m lc] W (ApartRel (apOf rs rl rw many n sh l m) (askLZ rs rl rw many n sh l m) W) := by
  have hB1 : Below W.heap.size W (W.alloc (.cells #[.int .i64 rs, .int .i64 rl, .int .i64 rw, .int .i64 many, .slice A n c] 26)) := (Below.refl _ _).alloc (Nat.le_refl _) _
  have HB1 := Lib.hid hB1
  clear hB1
  have hask := fun w (hb : Below W.heap.size W w) => askedList_any rs rl rw many A n c sh LA m lc l w hn hc hm hmc (Lib.hid (hsh.out.below hb)) hnm (Lib.hid (hi.out.below hb))
  have HK := Lib.hid hask
  clear hask
  by_cases h0 : askLZ rs rl rw many n sh l m = 0
  · have e : apOf rs rl rw many n sh l m = apAll rs rl rw sh (fun k => (l k).toNat) m m := if_pos h0
    obtain ⟨h1, h2⟩ := askL_zero h0
    have hst := stock_ok h1
    have hn9 := hst.count
    have hmn := asc_len h2
    have hcall := fun w (hb : Below W.heap.size W w) => refApart_any rs rl rw many A n c sh LA m lc (fun k => (l k).toNat) w hc (Lib.hid hst) (Lib.hid (hsh.out.below hb)) (by omega) hmc (Lib.hid fun k hk => by have := (asc_ok h2).1 k hk; omega) (Lib.hid (ints_nat h2 (hi.out.below hb)))
    have HC := Lib.hid hcall
    clear hcall hst h1 h2
    rw [e, h0]
    rw [h0] at HK
    clear e h0
    generalize apAll rs rl rw sh (fun k => (l k).toNat) m m = L at *
    gi_enter Tryz.func20, Tryz.ntmps20
    gi_wp2_with (first
      | (gi_at_call 60; refine (HK.out _ HB1.out).mono ?_; rintro e w2 ⟨rfl, hb2⟩
         have e0 : w2.cell? ⟨W.heap.size, 0, none⟩ = some (.int .i64 rs) := Below.old hb2 (by go_simp)
         have e1 : w2.cell? ⟨W.heap.size, 1, none⟩ = some (.int .i64 rl) := Below.old hb2 (by go_simp)
         have e2 : w2.cell? ⟨W.heap.size, 2, none⟩ = some (.int .i64 rw) := Below.old hb2 (by go_simp)
         have e3 : w2.cell? ⟨W.heap.size, 3, none⟩ = some (.int .i64 many) := Below.old hb2 (by go_simp)
         have e4 : w2.cell? ⟨W.heap.size, 4, none⟩ = some (.slice A n c) := Below.old hb2 (by go_simp)
         have HB2 := Lib.hid (HB1.out.trans (hb2.mono HB1.out.size)); clear hb2)
      | (gi_at_call 67; refine (HC.out _ HB2.out).mono ?_; rintro e w3 ⟨sl, base, rfl, hown, _, hb3⟩
         obtain ⟨B, k, rfl, hk, hx⟩ := aps_own hown
         have HX := Lib.hid hx
         have HB3 := Lib.hid (HB2.out.trans (hb3.mono HB2.out.size)); clear hb3 hown hx))
    go_ret2
    exact ⟨B, k, rfl, hk, HX.out, HB3.out⟩
  · have e : apOf rs rl rw many n sh l m = [] := if_neg h0
    rw [e]
    clear e
    generalize askLZ rs rl rw many n sh l m = z at *
    gi_enter Tryz.func20, Tryz.ntmps20
    gi_wp2_with (gi_at_call 60; refine (HK.out _ HB1.out).mono ?_; rintro e w2 ⟨rfl, hb2⟩; have HB2 := Lib.hid (HB1.out.trans (hb2.mono HB1.out.size)); clear hb2)
    go_ret2
    exact ⟨none, 0, rfl, Nat.le_refl _, fun k hk => absurd hk (by simp), HB2.out⟩
end Go.Proofs.YtpdmgecbapmgdaaGreat
end
