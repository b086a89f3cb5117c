/- A part of the proof that ArrowShots returns true for every input: no further condition. -/
import Derived.Test.YtlabfeofejemjaaGreatGp1
set_option linter.unusedSimpArgs false
set_option linter.unusedVariables false
set_option maxHeartbeats 4000000
set_option maxRecDepth 100000
section
namespace Go.Proofs.YtlabfeofejemjaaGreat
open Go.RowKit
theorem reachU_own {r : Rl} {x : Sh} : reachU r x x.d = wideU r x := by unfold reachU; rw [show x.d - x.d = 0 by omega]; simp
theorem reachV_own {r : Rl} {x : Sh} : reachV r x x.d = wideV r x := by unfold reachV; rw [show x.d - x.d = 0 by omega]; simp
theorem fits_iff {r : Rl} {sh : Nat → Sh} {n : Nat} (hok : CardOk r sh n) : (∀ i, i < n → bU r sh (sh i).d n ≤ bV r sh (sh i).d n) ↔ AllAgree r sh n := by
  constructor
  · intro h i j hij hj
    have h1 := h j hj
    rw [bU_le] at h1
    have h2 := (le_bV n).1 (h1.2 i (by omega))
    have h3 := (le_bV n).1 (h1.2 j hj)
    have a1 := h2.2 j hj
    have a2 := h3.2 i (by omega)
    rw [reachV_own] at a1
    rw [reachU_own] at a2
    have a3 := reach_bounds hok.rule (hok.each i (by omega)) (hok.each j hj).d0 (hok.each j hj).d1
    have a4 := wide_bounds hok.rule (hok.each j hj)
    exact agree_iff.2 ⟨a1, a2, a3.2.1, a4.2.1⟩
  · intro h i hi
    exact fit_bound hok h (hok.each i hi).d0 (hok.each i hi).d1 n (Nat.le_refl _)
def SaysProp (p : Prop) (W : World) (e : Ending) (w' : World) : Prop := ∃ g : Bool, e = .returned (.bool g) ∧ (g = true ↔ p) ∧ Below W.heap.size W w'
theorem FitsOf_any (r : Rl) (A : Option Addr) (n c : Nat) (sh : Nat → Sh) (LA : Option Addr) (m lc : Nat) (l : Nat → Nat) (W : World) (hc : n ≤ c) (hm : m ≤ 8) (hmc : m ≤ lc) (hok : Hid (CardOk r sh n)) (hsh : Hid (ShotsAt W A n sh)) (hl : Hid (∀ k, k < m → l k < n)) (hi : Hid (IntsAt W LA m fun k => (l k : Int))) :
    CallsIn Fc 0 Tryz.prog 26 #[cardV r A n c, .slice LA m lc] W (SaysProp (AllAgree r (sel sh l) m) W) := by
  have hn := hok.out.count
  have hsel : CardOk r (sel sh l) m := ⟨hok.out.rule, hm, fun k hk => hok.out.each _ (hl.out k hk)⟩
  have hiff := fits_iff hsel
  have HF := Lib.hid hiff
  clear hsel hiff
  generalize hP : AllAgree r (sel sh l) m = PP at *
  clear hP
  have hcall := fun k (hk : k < m) w (hb : Below W.heap.size W w) => SpanAt_any r A n c sh LA m lc l (sh (l k)).d w hc (by omega) (by omega) hmc (hok.out.each _ (hl.out k hk)).d0 (hok.out.each _ (hl.out k hk)).d1 hok (Lib.hid (hsh.out.below hb)) hl (Lib.hid (hi.out.below hb))
  have HC := Lib.hid hcall
  clear hcall
  obtain ⟨B, hB⟩ : ∃ B : Obj, B = .cells #[.int .i64 r.ls, .int .i64 r.ms, .int .i64 r.wd, .int .i64 r.lt, .slice A n c] 26 := ⟨_, rfl⟩
  gi_enter Tryz.func26, Tryz.ntmps26
  gi_wp2
  rw [← hB]
  gi_loopw [5] (fun iv wr => ∃ k : Nat, k ≤ m ∧ iv = .int .i64 k ∧ Below (W.heap.size + 1) (W.alloc B) wr ∧ ∀ i, i < k → bU r (sel sh l) (sel sh l i).d m ≤ bV r (sel sh l) (sel sh l i).d m) (fun iv _ => m - (intOf iv).toNat)
  case atStart => exact ⟨0, Nat.zero_le _, rfl, Below.refl _ _, fun i h => by omega⟩
  case round =>
    obtain ⟨k, hk, rfl, hb, hall⟩ := hrel
    have HALL := Lib.hid hall
    have HBW : Hid (Below W.heap.size W wr) := Lib.hid (((Below.refl W.heap.size W).alloc (Nat.le_refl _) _).trans (hb.mono (by omega)))
    have HB := Lib.hid hb
    have hsz : W.heap.size + 1 ≤ wr.heap.size := by have := hb.size; simpa using this
    clear hb hall
    by_cases hlt : k < m
    · have hkl := hl.out k hlt
      obtain ⟨b, o, rfl, hy⟩ := hsh.out (l k) hkl
      obtain ⟨bl, ol, rfl, hq⟩ := hi.out k hlt
      have HY := Lib.hid hy
      have HQ := Lib.hid hq
      clear hy hq
      gi_wp2
      refine wpIn_region_O 12 13 6 [some (13, cardV r (some ⟨b, o, none⟩) n c), some (14, .slice (some ⟨bl, ol, none⟩) m lc), some (15, .pointer (some ⟨W.heap.size, 4, none⟩)), some (16, .slice (some ⟨b, o, none⟩) n c), some (17, .slice (some ⟨bl, ol, none⟩) m lc), some (18, .int .i64 k), some (19, .pointer (some ⟨bl, ol + k, none⟩)), some (20, .int .i64 (l k)), some (21, .pointer (some ⟨b, o + l k * 5, none⟩)), some (22, .pointer (some ⟨b, o + l k * 5, none⟩)), some (23, .int .i64 (sh (l k)).d), some (24, spanV (bU r (sel sh l) (sh (l k)).d m) (bV r (sel sh l) (sh (l k)).d m)), none, none]
        (I := fun w => Below wr.heap.size wr w) (lo := wr.heap.size) (z := 30) (u1 := bU r (sel sh l) (sh (l k)).d m) (v1 := bV r (sel sh l) (sh (l k)).d m) (by kernel_rfl) (by kernel_rfl) (by decide) (by decide) (by decide) rfl rfl rfl (by kernel_rfl) (by kernel_rfl) (by omega) (by kernel_rfl) rfl rfl
        (fun w h => h.size) (fun w x h => h.alloc h.size _) (fun w p j x h hp => h.setCell hp _) (Below.refl _ _).drew ?_ ?_ ?_ ?_
      · intro j a w hj hj1 hj2 hd hz hold hf hI
        have HI := Lib.hid hI
        have hcb := HB.out.trans (hI.mono hsz)
        rw [hB] at hcb
        obtain ⟨c0, c1, c2, c3, c4⟩ := box_cells hcb
        have hbw := HBW.out.trans (hI.mono HBW.out.size)
        obtain ⟨x0, x1, x2, x3, x4⟩ := HY.out.below hbw
        have q0 := Below.old hbw HQ.out
        have HBK := Lib.hid hbw
        clear hI hbw hcb
        have s1 := at_slot hz (hold 1 (by kernel_rfl) (by omega)) (by omega)
        have s2 := at_slot hz (hold 2 (by kernel_rfl) (by omega)) (by omega)
        have s5 := at_slot hz (hold 5 (by kernel_rfl) (by omega)) (by omega)
        clear hold
        have hjs : j = 0 ∨ j = 1 ∨ j = 2 ∨ j = 3 ∨ j = 4 ∨ j = 5 ∨ j = 6 ∨ j = 7 ∨ j = 8 ∨ j = 9 ∨ j = 10 ∨ j = 11 := by have : j < 14 := hj; omega
        rcases hjs with rfl | rfl | rfl | rfl | rfl | rfl | rfl | rfl | rfl | rfl | rfl | rfl
        · refine wpOpIn_step rfl fun K hK => ?_
          go_simp
          exact hK _ _ ⟨_, _, rfl, rfl, rfl, HI.out, Below.refl _ _⟩
        · refine wpOpIn_step rfl fun K hK => ?_
          go_simp
          exact hK _ _ ⟨_, _, rfl, rfl, rfl, HI.out, Below.refl _ _⟩
        · refine wpOpIn_step rfl fun K hK => ?_
          go_simp
          exact hK _ _ ⟨_, _, rfl, rfl, rfl, HI.out, Below.refl _ _⟩
        · have f15 := at_slot hz (hf 2 15 _ (by kernel_rfl) rfl) (by omega)
          refine wpOpIn_step rfl fun K hK => ?_
          go_simp
          exact hK _ _ ⟨_, _, rfl, rfl, rfl, HI.out, Below.refl _ _⟩
        · refine wpOpIn_step rfl fun K hK => ?_
          go_simp
          exact hK _ _ ⟨_, _, rfl, rfl, rfl, HI.out, Below.refl _ _⟩
        · refine wpOpIn_step rfl fun K hK => ?_
          go_simp
          exact hK _ _ ⟨_, _, rfl, rfl, rfl, HI.out, Below.refl _ _⟩
        · have f17 := at_slot hz (hf 4 17 _ (by kernel_rfl) rfl) (by omega)
          have f18 := at_slot hz (hf 5 18 _ (by kernel_rfl) rfl) (by omega)
          refine wpOpIn_step rfl fun K hK => ?_
          go_simp
          exact hK _ _ ⟨_, _, rfl, rfl, rfl, HI.out, Below.refl _ _⟩
        · have f19 := at_slot hz (hf 6 19 _ (by kernel_rfl) rfl) (by omega)
          refine wpOpIn_step rfl fun K hK => ?_
          go_simp
          exact hK _ _ ⟨_, _, rfl, rfl, rfl, HI.out, Below.refl _ _⟩
        · have f16 := at_slot hz (hf 3 16 _ (by kernel_rfl) rfl) (by omega)
          have f20 := at_slot hz (hf 7 20 _ (by kernel_rfl) rfl) (by omega)
          refine wpOpIn_step rfl fun K hK => ?_
          go_simp
          exact hK _ _ ⟨_, _, rfl, rfl, rfl, HI.out, Below.refl _ _⟩
        · have f21 := at_slot hz (hf 8 21 _ (by kernel_rfl) rfl) (by omega)
          refine wpOpIn_step rfl fun K hK => ?_
          go_simp
          exact hK _ _ ⟨_, _, rfl, rfl, rfl, HI.out, Below.refl _ _⟩
        · have f22 := at_slot hz (hf 9 22 _ (by kernel_rfl) rfl) (by omega)
          refine wpOpIn_step rfl fun K hK => ?_
          go_simp
          exact hK _ _ ⟨_, _, rfl, rfl, rfl, HI.out, Below.refl _ _⟩
        · have f13 := at_slot hz (hf 0 13 _ (by kernel_rfl) rfl) (by omega)
          have f14 := at_slot hz (hf 1 14 _ (by kernel_rfl) rfl) (by omega)
          have f23 := at_slot hz (hf 10 23 _ (by kernel_rfl) rfl) (by omega)
          refine wpOpIn_step rfl fun K hK => ?_
          go_simp
          refine (HC.out k hlt w HBK.out).mono ?_
          rintro e w' ⟨rfl, hb'⟩
          exact hK _ _ ⟨_, _, rfl, rfl, rfl, HI.out.trans (hb'.mono HI.out.size), hb'⟩
      · intro a w hd hz
        refine wpOpIn_step rfl fun K hK => ?_
        go_simp
        exact hK _ _ ⟨rfl, rfl, rfl⟩
      · intro a w p u v hd hz hp hs hf
        have f6 := at_slot hz hp (by omega)
        have f24 := at_slot hz (hf 11 24 _ (by kernel_rfl) rfl) (by omega)
        have z0 := hs.frozen 0
        have z1 := hs.frozen 1
        obtain ⟨y0, y1⟩ := hs.cell
        refine wpOpIn_step rfl fun K hK => ?_
        go_simp
        exact hK _ _ ⟨hd, rfl, rfl⟩
      · intro w4 p hI hp hs
        have HB4 := Lib.hid (HB.out.trans (hI.mono hsz))
        obtain ⟨y0, y1⟩ := hs.cell
        clear hI hs
        simp only [List.filterMap_cons, List.filterMap_nil, List.foldl_cons, List.foldl_nil, List.setIfInBounds_toArray, List.set_cons_succ, List.set_cons_zero]
        have hno : ¬ (bU r (sel sh l) (sh (l k)).d m ≤ bV r (sel sh l) (sh (l k)).d m) → ¬ PP := fun h hp => h (HF.out.2 hp k hlt)
        have hnx : bU r (sel sh l) (sh (l k)).d m ≤ bV r (sel sh l) (sh (l k)).d m → ∀ i, i < k + 1 → bU r (sel sh l) (sel sh l i).d m ≤ bV r (sel sh l) (sel sh l i).d m := fun h i hi => by
          rcases Nat.lt_succ_iff_lt_or_eq.1 hi with h' | rfl
          · exact HALL.out i h'
          · exact h
        have HNO := Lib.hid hno
        have HNX := Lib.hid hnx
        clear hno hnx
        generalize bU r (sel sh l) (sh (l k)).d m = U at *
        generalize bV r (sel sh l) (sh (l k)).d m = V at *
        by_cases hle : U > V
        · have hnp := HNO.out (Int.not_le.2 hle)
          have HNP := Lib.hid hnp
          clear hnp
          gi_wp2
          go_ret
          exact ⟨false, rfl, ⟨fun h => (by cases h), fun h => absurd h HNP.out⟩, ((Below.refl W.heap.size W).alloc (Nat.le_refl _) _).trans (HB4.out.mono (by omega))⟩
        · have hn2 := HNX.out (Int.not_lt.1 hle)
          have HN2 := Lib.hid hn2
          clear hn2
          gi_wp2
          go_roundw
          case rel => exact ⟨k + 1, by omega, by go_num, HB4.out, HN2.out⟩
          case measure => simp [intOf]; omega
    · obtain rfl : k = m := by omega
      have hp := HF.out.1 HALL.out
      have HP := Lib.hid hp
      clear hp
      gi_wp2
      go_ret
      exact ⟨true, rfl, ⟨fun _ => HP.out, fun _ => rfl⟩, HBW.out⟩
end Go.Proofs.YtlabfeofejemjaaGreat
end
section
namespace Go.Proofs.YtlabfeofejemjaaGreat
open Go.RowKit
def hasZ (n : Nat) (k : Int) : Int := if 0 ≤ k ∧ k < n then 0 else 6
theorem hasShot1_any (sp ip : Nat) (r : Rl) (A : Option Addr) (n c : Nat) (k : Int) (w : World) (hi : w.cell? ⟨ip, 0, none⟩ = some (.int .i64 k)) (c4 : w.cell? ⟨sp, 4, none⟩ = some (.slice A n c)) :
    CallsIn Fc 0 Tryz.prog 77 #[ptr ip, ptr sp] w (SaysInt (hasZ n k) w) := by
  unfold hasZ
  gi_enter Tryz.func77, Tryz.ntmps77
  by_cases h1 : k < 0
  · rw [if_neg (by omega)]
    gi_wp2
    go_ret
    exact ⟨rfl, Below.refl _ _⟩
  · by_cases h2 : k ≥ n
    · rw [if_neg (by omega)]
      gi_wp2
      go_ret
      exact ⟨rfl, Below.refl _ _⟩
    · rw [if_pos (by omega)]
      gi_wp2
      go_ret
      exact ⟨rfl, Below.refl _ _⟩
theorem hasShot_chk (r : Rl) (A : Option Addr) (n c : Nat) (k : Int) (W : World) : CallsIn Fc 0 Tryz.prog 47 #[cardV r A n c, .int .i64 k] W fun e w' => ∃ v, e = .returned v ∧ CheckIs v (hasZ n k) w' ∧ Below W.heap.size W w' := by
  gi_enter Tryz.func47, Tryz.ntmps47
  gi_wp2
  go_ret
  exact ⟨_, rfl, .inr (.inl ⟨_, _, rfl, fun w' hb => hasShot1_any _ _ r A n c k w' (Below.old hb (by go_simp)) (Below.old hb (by go_simp))⟩), ((Below.refl _ _).alloc (Nat.le_refl _) _).alloc (by simp) _⟩
def wdL (r : Rl) (sh : Nat → Sh) (n : Nat) (k : Int) : List Int := [cardZ r sh n, hasZ n k]
theorem wdL_ok {r : Rl} {sh : Nat → Sh} {n : Nat} {k : Int} : firstL (wdL r sh n k) = 0 ↔ CardOk r sh n ∧ 0 ≤ k ∧ k < n := by
  rw [firstL_zero]
  simp only [wdL, List.mem_cons, List.not_mem_nil, or_false, forall_eq_or_imp, forall_eq, cardZ_ok, hasZ]
  constructor
  · rintro ⟨h1, h2⟩
    refine ⟨h1, ?_⟩
    split at h2
    · assumption
    · cases h2
  · rintro ⟨h1, h2⟩
    exact ⟨h1, if_pos h2⟩
theorem Wide_any (r : Rl) (A : Option Addr) (n c : Nat) (sh : Nat → Sh) (d : Int) (W : World) (hn : n ≤ 20) (hc : n ≤ c) (hsh : Hid (ShotsAt W A n sh)) (z u v : Int) (hzz : Hid (firstL (wdL r sh n d) = z)) (h0 : Hid (z = 0 → u = wideU r (sh d.toNat) ∧ v = wideV r (sh d.toNat))) (h1 : Hid (z ≠ 0 → u = 0 ∧ v = 0)) :
    CallsIn Fc 0 Tryz.prog 9 #[cardV r A n c, .int .i64 d] W (SaysMark u v z W) := by
  have hchk : ∀ w, Below W.heap.size W w → CheckIs (.func (.func 46) #[cardV r A n c] #[]) (cardZ r sh n) w := fun w hb => .inl ⟨46, _, by simp, rfl, fun w' hb' => check_any r A n c sh w' hn hc (Lib.hid ((hsh.out.below hb).below hb'))⟩
  have HCK := Lib.hid hchk
  clear hchk
  have hbd : z = 0 → ∀ w, Below W.heap.size W w → CallsIn Fc 0 Tryz.prog 48 #[cardV r A n c, .int .i64 d] w (SaysSpan u v w) := fun e w hb => by
    obtain ⟨hok, d0, d1⟩ := wdL_ok.1 (hzz.out.trans e)
    obtain ⟨rfl, rfl⟩ := h0.out e
    obtain ⟨k, rfl⟩ : ∃ k : Nat, d = k := ⟨d.toNat, by omega⟩
    exact wide_any r A n c k sh w (by omega) hok.count (Lib.hid hok.rule) (Lib.hid (hok.each k (by omega))) (Lib.hid (hsh.out.below hb))
  have HBD := Lib.hid hbd
  clear hbd h0
  gi_enter Tryz.func9, Tryz.ntmps9
  gi_wp2
  generalize hW3 : ((W.alloc (.cells #[.int .i64 r.ls, .int .i64 r.ms, .int .i64 r.wd, .int .i64 r.lt, .slice A n c] 26)).alloc (.cells #[.int .i64 0, .int .i64 0] 29)).alloc (.cells #[.int .i64 r.ls, .int .i64 r.ms, .int .i64 r.wd, .int .i64 r.lt, .slice A n c] 90) = W3 at *
  have hb3 : Below W.heap.size W W3 := by rw [← hW3]; exact (((Below.refl _ _).alloc (Nat.le_refl _) _).alloc (by simp) _).alloc (by simp; omega) _
  have hbx : W3.heap[W.heap.size + 2]? = some (.cells #[.int .i64 r.ls, .int .i64 r.ms, .int .i64 r.wd, .int .i64 r.lt, .slice A n c] 90 (0, 0)) := by rw [← hW3, heap_top _ _ (by simp)]
  have s1 : SpanAt W3 (W.heap.size + 1) 0 0 := by rw [← hW3]; exact span_mid _ _ _ _ _
  clear hW3
  have e0 : W3.cell? ⟨W.heap.size + 2, 0, none⟩ = some (.int .i64 r.ls) := by simp [World.cell?, hbx]
  have e1 : W3.cell? ⟨W.heap.size + 2, 1, none⟩ = some (.int .i64 r.ms) := by simp [World.cell?, hbx]
  have e2 : W3.cell? ⟨W.heap.size + 2, 2, none⟩ = some (.int .i64 r.wd) := by simp [World.cell?, hbx]
  have e3 : W3.cell? ⟨W.heap.size + 2, 3, none⟩ = some (.int .i64 r.lt) := by simp [World.cell?, hbx]
  have e4 : W3.cell? ⟨W.heap.size + 2, 4, none⟩ = some (.slice A n c) := by simp [World.cell?, hbx]
  have HE := Lib.hid (And.intro e0 (And.intro e1 (And.intro e2 (And.intro e3 e4))))
  have HS1 := Lib.hid s1
  have HB3 := Lib.hid hb3
  clear e0 e1 e2 e3 e4 hbx hb3 s1
  refine wpIn_region_K (R := [.val 10 (cardV r A n c), .val 11 (.func (.func 46) #[cardV r A n c] #[]), .val 12 (cardV r A n c), .val 13 (.int .i64 d), .chk 14 (hasZ n d), .row 15 [cardZ r sh n, hasZ n d], .val 16 (.int .i64 z), .val 7 (.int .i64 z)])
    (I := fun w => Below W3.heap.size W3 w) (z := 24) (by kernel_rfl) (by kernel_rfl) rfl (by kernel_rfl) rfl rfl (Below.refl _ _).drew ?_ ?_
  · intro j a w hj hd hz hold hv hc hr hI
    have HI := Lib.hid hI
    obtain ⟨c0, c1, c2, c3, c4⟩ := HE.out
    have c0 := Below.old hI c0
    have c1 := Below.old hI c1
    have c2 := Below.old hI c2
    have c3 := Below.old hI c3
    have c4 := Below.old hI c4
    have HBW := Lib.hid (HB3.out.trans (hI.mono HB3.out.size))
    clear hI
    have s1 := at_slot hz (hold 1 (by kernel_rfl)) (by omega)
    have s6 := at_slot hz (hold 6 (by kernel_rfl)) (by omega)
    clear hold
    have hjs : j = 0 ∨ j = 1 ∨ j = 2 ∨ j = 3 ∨ j = 4 ∨ j = 5 ∨ j = 6 ∨ j = 7 := by have : j < 8 := hj; omega
    rcases hjs with rfl | rfl | rfl | rfl | rfl | rfl | rfl | rfl
    · refine wpOpIn_step rfl fun K hK => ?_
      go_simp
      exact hK _ _ ⟨rfl, HI.out, Below.refl _ _, rfl⟩
    · have f10 := at_slot hz (hv 0 10 _ (by kernel_rfl) rfl) (by omega)
      refine wpOpIn_step rfl fun K hK => ?_
      go_simp
      exact hK _ _ ⟨rfl, HI.out, Below.refl _ _, rfl⟩
    · refine wpOpIn_step rfl fun K hK => ?_
      go_simp
      exact hK _ _ ⟨rfl, HI.out, Below.refl _ _, rfl⟩
    · refine wpOpIn_step rfl fun K hK => ?_
      go_simp
      exact hK _ _ ⟨rfl, HI.out, Below.refl _ _, rfl⟩
    · have f12 := at_slot hz (hv 2 12 _ (by kernel_rfl) rfl) (by omega)
      have f13 := at_slot hz (hv 3 13 _ (by kernel_rfl) rfl) (by omega)
      refine wpOpIn_step rfl fun K hK => ?_
      go_simp
      refine (hasShot_chk r A n c d w).mono ?_
      rintro e w' ⟨v, rfl, hl, hb'⟩
      exact hK _ _ ⟨rfl, HI.out.trans (hb'.mono HI.out.size), hb', _, rfl, hl⟩
    · have f11 := at_slot hz (hv 1 11 _ (by kernel_rfl) rfl) (by omega)
      have p14 := hc 4 14 _ (by kernel_rfl) rfl
      obtain ⟨i14, y14, u14, q14⟩ := p14.shape
      rw [q14] at p14
      have f14 := at_slot hz q14 (by omega)
      refine wpOpIn_step rfl fun K hK => ?_
      go_simp
      have hb' : ∀ x, Below w.heap.size w (w.alloc x) := fun x => (Below.refl _ _).alloc (Nat.le_refl _) _
      refine hK _ _ ⟨rfl, HI.out.trans ((hb' _).mono HI.out.size), hb' _, w.heap.size, rfl, fun i hi => ?_⟩
      have hi4 : i = 0 ∨ i = 1 := by have : i < 2 := hi; omega
      rcases hi4 with rfl | rfl
      · exact ⟨_, by simp, (HCK.out _ HBW.out : CheckIs _ _ w).below (hb' _)⟩
      · exact ⟨_, by simp, p14.below (hb' _)⟩
    · obtain ⟨g15, q15, hrow⟩ := hr 5 15 _ (by kernel_rfl) rfl
      have f15 := at_slot hz q15 (by omega)
      simp only [List.length_cons, List.length_nil, Nat.reduceAdd] at f15
      refine wpOpIn_step rfl fun K hK => ?_
      go_simp
      refine (foul_row _ (wdL r sh n d) _ (show 2 ≤ 100 by decide) hrow 2 rfl).mono ?_
      rw [hzz.out]; rintro e w' ⟨rfl, hb'⟩
      exact hK _ _ ⟨rfl, HI.out.trans (hb'.mono HI.out.size), hb', rfl⟩
    · have f16 := at_slot hz (hv 6 16 _ (by kernel_rfl) rfl) (by omega)
      refine wpOpIn_step rfl fun K hK => ?_
      go_simp
      exact hK _ _ ⟨rfl, HI.out, Below.refl _ _, rfl⟩
  · intro w X hI
    have HBW := Lib.hid (HB3.out.trans (hI.mono HB3.out.size))
    obtain ⟨c0, c1, c2, c3, c4⟩ := HE.out
    have c0 := Below.old hI c0
    have c1 := Below.old hI c1
    have c2 := Below.old hI c2
    have c3 := Below.old hI c3
    have c4 := Below.old hI c4
    have hs := HS1.out.below hI
    clear hI
    simp only [List.map_cons, List.map_nil, Role.out, List.foldl_cons, List.foldl_nil, List.setIfInBounds_toArray, List.set_cons_succ, List.set_cons_zero]
    by_cases h0 : z = 0
    · have hb := HBD.out h0
      have HB := Lib.hid hb
      have HS := Lib.hid hs
      clear hb hs
      subst h0
      gi_wp2_with (gi_at_call 48; refine (HB.out _ HBW.out).mono ?_; rintro e w' ⟨rfl, hb'⟩
                   have hs := HS.out.below hb'
                   have z0 := hs.frozen 0
                   have z1 := hs.frozen 1
                   obtain ⟨q0, q1⟩ := hs.cell
                   have HS' := Lib.hid hs
                   have HB' := Lib.hid (HBW.out.trans (hb'.mono HBW.out.size))
                   clear hb' hs)
      refine bodyPost_ret (v := .tuple #[spanV u v, .int .i64 0]) (results_common rfl rfl rfl ?_) rfl ⟨rfl, ?_⟩
      · exact HS'.out.set _ _
      · exact (HB'.out.setCell (by simp) _).setCell (by simp) _
    · obtain ⟨rfl, rfl⟩ := h1.out h0
      have z0 := hs.frozen 0
      have z1 := hs.frozen 1
      obtain ⟨q0, q1⟩ := hs.cell
      have HS := Lib.hid hs
      clear hs
      gi_wp2
      refine bodyPost_ret (v := .tuple #[spanV 0 0, .int .i64 z]) (results_common rfl rfl rfl ?_) rfl ⟨rfl, ?_⟩
      · exact HS.out.set _ _
      · exact (HBW.out.setCell (by simp) _).setCell (by simp) _
theorem PicksAt.at {w : World} {A : Option Addr} {n : Nat} {p : Nat → Int} (h : PicksAt w A n p) (k : Nat) : 0 ≤ choiceZ n p k ∧ choiceZ n p k ≤ 65535 := choice_le h k
end Go.Proofs.YtlabfeofejemjaaGreat
end
section
namespace Go.Proofs.YtlabfeofejemjaaGreat
open Go.RowKit
def memb (b : Nat) (k : Nat) : List Nat := (List.range k).filter fun i => b.testBit i
theorem memb_next (b k : Nat) : memb b (k + 1) = memb b k ++ if b.testBit k = true then [k] else [] := by
  simp only [memb, List.range_succ, List.filter_append, List.filter_cons, List.filter_nil]
theorem memb_len (b : Nat) : ∀ k, (memb b k).length ≤ k
  | 0 => by simp [memb]
  | k + 1 => by
    have := memb_len b k
    rw [memb_next, List.length_append]
    split <;> simp <;> omega
theorem bit_all : ∀ b : Fin 256, ∀ k : Fin 8, Go.bits BinOp.and IntKind.i64 (b.val : Int) (wrap64 (2 ^ k.val)) = if b.val.testBit k.val = true then 2 ^ k.val else 0 := by decide +kernel
theorem bit_yes {b k : Nat} (hb : b < 256) (hk : k < 8) (h : b.testBit k = true) : Go.bits BinOp.and IntKind.i64 (b : Int) (wrap64 (2 ^ k)) = 2 ^ k := by
  have := bit_all ⟨b, hb⟩ ⟨k, hk⟩
  simpa [h] using this
theorem bit_no {b k : Nat} (hb : b < 256) (hk : k < 8) (h : b.testBit k = false) : Go.bits BinOp.and IntKind.i64 (b : Int) (wrap64 (2 ^ k)) = 0 := by
  have := bit_all ⟨b, hb⟩ ⟨k, hk⟩
  simpa [h] using this
theorem members_any (b : Nat) (W : World) (hb8 : b < 256) : CallsIn Fc 0 Tryz.prog 79 #[.int .i64 b] W (SaysInts (memb b 8).length (fun k => (((memb b 8).getD k 0 : Nat) : Int)) W) := by
  obtain ⟨i0, hi, hz0, hz1, hz2⟩ := info_parts i3
  have HI := Lib.hid hi
  have HZ0 := Lib.hid hz0
  have HZ1 := Lib.hid hz1
  have HZ2 := Lib.hid hz2
  clear hi hz0 hz1 hz2
  gi_enter Tryz.func79, Tryz.ntmps79
  gi_wp2
  gi_loopw [3, 5] (fun sl i wr => ∃ k : Nat, k ≤ 8 ∧ i = .int .i64 k ∧ wr.ownsRow W.heap.size 3 1 sl (memb b k).length ((memb b k).map intV) ∧ Below W.heap.size W wr) (fun _ i _ => 8 - (intOf i).toNat)
  case atStart => exact ⟨0, by omega, rfl, ⟨rfl, .inl ⟨rfl, rfl⟩⟩, Below.refl _ _⟩
  case round =>
    obtain ⟨k, hk, rfl, ho, hb⟩ := hrel
    have HO := Lib.hid ho
    have HB := Lib.hid hb
    have hs := hb.size
    clear ho hb
    by_cases hlt : k < 8
    · cases ht : b.testBit k with
      | true =>
        have hz := bit_yes hb8 hlt ht
        have hne : ¬ (2 : Int) ^ k = 0 := by have : (0 : Int) < 2 ^ k := Int.pow_pos (by omega); omega
        have hln := memb_len b k
        gi_wp2_with (gi_at_builtin; go_loud (refine wpListIn_append_own _ rfl _ _ 36 rfl W.heap.size 3 i0 (.int .i64 0) 1 8 u30 HI.out HZ0.out HZ1.out HZ2.out rfl (by decide) _ _ _ rfl (HO.out.alloc _) ⟨wr.heap.size, 0, none⟩ 1 1 [intV k] rfl rfl (cells_new _ _ _) (by simp [Value.oneCell']) (by simp [maxLen]; omega) (by omega) (by simp; omega) ?_); intro v' w4 hown4 hg4 hnil4)
        have hx4 := HO.out.alloc (.cells #[intV k] 3)
        go_roundw
        case rel =>
          refine ⟨k + 1, by omega, by go_num, ?_, (HB.out.alloc (by omega) _).grown hg4 (by simp; omega) (fun g hg => (hx4.lt g hg).1)⟩
          rw [memb_next, if_pos ht]
          simpa using hown4
        case measure => simp [intOf]; omega
      | false =>
        have hz := bit_no hb8 hlt ht
        gi_wp2
        go_roundw
        case rel =>
          refine ⟨k + 1, by omega, by go_num, ?_, HB.out⟩
          rw [memb_next, if_neg (by rw [ht]; simp), List.append_nil]
          exact HO.out
        case measure => simp [intOf]; omega
    · obtain rfl : k = 8 := by omega
      obtain ⟨LA, lc, rfl, h1, h2⟩ := ints_own HO.out
      have H2 := Lib.hid h2
      clear h2
      gi_wp2
      go_ret
      exact ⟨LA, lc, rfl, h1, H2.out, HB.out⟩
def cmpZ (a b : Int) : Int := if a < b then -1 else if b < a then 1 else 0
theorem isNaN_any (a : Int) (W : World) : CallsIn Fc 0 Tryz.prog 113 #[.int .i64 a] W fun e w' => e = .returned (.bool false) ∧ W = w' := by
  gi_enter Tryz.func113, Tryz.ntmps113
  gi_wp2
  go_ret
  exact ⟨rfl, rfl⟩
theorem Compare_any (a b : Int) (W : World) : CallsIn Fc 0 Tryz.prog 81 #[.int .i64 a, .int .i64 b] W fun e w' => e = .returned (.int .i64 (cmpZ a b)) ∧ W = w' := by
  by_cases h1 : a < b
  · gi_enter Tryz.func81, Tryz.ntmps81
    gi_wp2_with (gi_at_call 113; refine (isNaN_any _ _).mono ?_; rintro e w' ⟨rfl, rfl⟩)
    go_ret
    exact ⟨by rw [cmpZ, if_pos h1]; rfl, rfl⟩
  · have h3 : ¬ a < b := h1
    by_cases h2 : b < a
    · gi_enter Tryz.func81, Tryz.ntmps81
      gi_wp2_with (gi_at_call 113; refine (isNaN_any _ _).mono ?_; rintro e w' ⟨rfl, rfl⟩)
      go_ret
      exact ⟨by rw [cmpZ, if_neg (by omega), if_pos (by omega)]; rfl, rfl⟩
    · gi_enter Tryz.func81, Tryz.ntmps81
      gi_wp2_with (gi_at_call 113; refine (isNaN_any _ _).mono ?_; rintro e w' ⟨rfl, rfl⟩)
      go_ret
      exact ⟨by rw [cmpZ, if_neg (by omega), if_neg (by omega)]; rfl, rfl⟩
end Go.Proofs.YtlabfeofejemjaaGreat
end
section
namespace Go.Proofs.YtlabfeofejemjaaGreat
open Go.RowKit
def LexLt (a b : Nat → Nat) (m : Nat) : Prop := ∃ i, i < m ∧ (∀ j, j < i → a j = b j) ∧ a i < b i
def SaysLess (p : Prop) (W : World) (e : Ending) (w' : World) : Prop := ∃ z : Int, e = .returned (.int .i64 z) ∧ (z < 0 ↔ p) ∧ W = w'
theorem CompareFunc_any (LA LB : Option Addr) (m lc kc : Nat) (a b : Nat → Nat) (W : World) (hm : m ≤ 8) (hc : m ≤ lc) (hk : m ≤ kc) (ha : Hid (IntsAt W LA m fun k => (a k : Int))) (hb : Hid (IntsAt W LB m fun k => (b k : Int))) :
    CallsIn Fc 0 Tryz.prog 112 #[.slice LA m lc, .slice LB m kc, .func (.func 81) #[] #[]] W (SaysLess (LexLt a b m) W) := by
  gi_enter Tryz.func112, Tryz.ntmps112
  gi_wp2
  gi_loopw [13] (fun x wr => ∃ k : Nat, k ≤ m ∧ x = .int .i64 k ∧ wr = W ∧ ∀ j, j < k → a j = b j) (fun x _ => m - (intOf x).toNat)
  case atStart => exact ⟨0, by omega, rfl, rfl, fun j hj => by omega⟩
  case round =>
    obtain ⟨k, hk, rfl, rfl, heq⟩ := hrel
    have HEQ := Lib.hid heq
    clear heq
    by_cases hlt : k < m
    · obtain ⟨b1, o1, rfl, q1⟩ := ha.out k hlt
      obtain ⟨b2, o2, rfl, q2⟩ := hb.out k hlt
      have hnlt : ¬ (k : Int) ≥ m := by omega
      by_cases h1 : a k < b k
      · have hz : cmpZ (a k) (b k) = -1 := by unfold cmpZ; rw [if_pos (by omega)]
        have hp : LexLt a b m := ⟨k, hlt, HEQ.out, h1⟩
        gi_wp2_with (gi_at_call 81; refine (Compare_any _ _ _).mono ?_; rintro e w' ⟨rfl, rfl⟩)
        go_ret
        exact ⟨-1, by first | rfl | simp [hz], ⟨fun _ => hp, fun _ => by omega⟩, rfl⟩
      · by_cases h2 : b k < a k
        · have hz : cmpZ (a k) (b k) = 1 := by unfold cmpZ; rw [if_neg (by omega), if_pos (by omega)]
          have hp : ¬ LexLt a b m := by
            rintro ⟨i, hi, he, hlt'⟩
            rcases Nat.lt_trichotomy i k with h | h | h
            · have := HEQ.out i h; omega
            · subst h; omega
            · have := he k h; omega
          gi_wp2_with (gi_at_call 81; refine (Compare_any _ _ _).mono ?_; rintro e w' ⟨rfl, rfl⟩)
          go_ret
          exact ⟨1, by first | rfl | simp [hz], ⟨fun h => (by omega), fun h => absurd h hp⟩, rfl⟩
        · have hz : cmpZ (a k) (b k) = 0 := by unfold cmpZ; rw [if_neg (by omega), if_neg (by omega)]
          have he := Lib.hid (show a k = b k by omega)
          gi_wp2_with (gi_at_call 81; refine (Compare_any _ _ _).mono ?_; rintro e w' ⟨rfl, rfl⟩)
          go_roundw
          case rel => exact ⟨k + 1, by omega, by go_num, trivial, fun j hj => by
            by_cases e : j = k
            · subst e; exact he.out
            · exact HEQ.out j (by omega)⟩
          case measure => simp [intOf]; omega
    · obtain rfl : k = m := by omega
      have hp : ¬ LexLt a b k := by
        rintro ⟨i, hi, he, hlt'⟩
        have := HEQ.out i hi
        omega
      gi_wp2
      go_ret
      exact ⟨0, rfl, ⟨fun h => (by omega), fun h => absurd h hp⟩, rfl⟩
def Better (a : Nat → Nat) (m : Nat) (b : Nat → Nat) (k : Nat) : Prop := k < m ∨ (m = k ∧ LexLt a b m)
theorem better_any (LA LB : Option Addr) (m lc k kc : Nat) (a b : Nat → Nat) (W : World) (hm : m ≤ 8) (hm' : k ≤ 8) (hc : m ≤ lc) (hk : k ≤ kc) (ha : Hid (IntsAt W LA m fun k => (a k : Int))) (hb : Hid (IntsAt W LB k fun k => (b k : Int))) :
    CallsIn Fc 0 Tryz.prog 80 #[.slice LA m lc, .slice LB k kc, .func (.func 81) #[] #[]] W fun e w' => ∃ g : Bool, e = .returned (.bool g) ∧ (g = true ↔ Better a m b k) ∧ W = w' := by
  by_cases h : m = k
  · subst h
    have hne : ¬ (m : Int) ≠ m := by omega
    gi_enter Tryz.func80, Tryz.ntmps80
    gi_wp2_with (gi_at_call 112; refine (CompareFunc_any LA LB m lc kc a b _ hm hc hk ha hb).mono ?_; rintro e w' ⟨z, rfl, hz, rfl⟩)
    go_ret
    refine ⟨decide (z < 0), by simp, ?_, rfl⟩
    simp only [decide_eq_true_eq, Better]
    rw [hz]
    exact ⟨fun h => .inr ⟨trivial, h⟩, fun h => by rcases h with h | h; omega; exact h.2⟩
  · gi_enter Tryz.func80, Tryz.ntmps80
    gi_wp2
    go_ret
    refine ⟨decide (k < m), by simp, ?_, rfl⟩
    simp only [decide_eq_true_eq, Better]
    exact ⟨fun h => .inl h, fun h' => by rcases h' with h' | h'; exact h'; exact absurd h'.1 h⟩
end Go.Proofs.YtlabfeofejemjaaGreat
end
section
namespace Go.Proofs.YtlabfeofejemjaaGreat
open Go.RowKit
section
variable {F : Fence} {nF : Nat} {P : Program} {b : Frame} {a : Act} {k : List Item} {cs : List Frame} {w : World} {Q : Exit → Act → World → Prop}
theorem stepR_scope {c : Code} : step P (lone (b.atR a (.code (.scope c) :: k)) cs w) = .next (lone (b.atR a (.code c :: .inScope c :: k)) cs w) :=
  step_lone_go (by simp [stepG, stepG.exec, Frame.atR])
theorem stepR_inScope {c : Code} : step P (lone (b.atR a (.inScope c :: k)) cs w) = .next (lone (b.atR a k) cs w) :=
  step_lone_go (by simp [stepG, stepG.exec, Frame.atR])
theorem wpIn_scope {c : Code} (h : c.wpIn F nF P (Exit.noGoto Q) a w) : (Code.scope c).wpIn F nF P Q a w := by
  intro b k cs hro hb hr
  have h0 : (lone (b.atR a (.code (.scope c) :: k)) cs w).fenced P F := fenced_calm hb hr rfl
  obtain ⟨e, a₁, w₁, hq, harr⟩ := h b (.inScope c :: k) cs hro hb hr
  cases e with
  | normal => exact ⟨.normal, a₁, w₁, hq, .head h0 stepR_scope (StepsIn.trans harr (.one (fenced_calm hb hr rfl) stepR_inScope))⟩
  | exit id =>
    have hx : exitTo id (.inScope c :: k) = exitTo id k := by simp [exitTo]
    exact ⟨_, a₁, w₁, hq, fun k' hk => .head h0 stepR_scope (harr.1 k' (by rw [hx]; exact hk)),
      fun hr' hk => let ⟨k₁, h1, h2⟩ := harr.2 hr' (by rw [hx]; exact hk); ⟨k₁, h1, .head h0 stepR_scope h2⟩⟩
  | goto l => exact hq.elim
  | ret => exact ⟨_, a₁, w₁, hq, .of_steps (.one h0 stepR_scope) harr⟩
  | panic ch => exact ⟨_, a₁, w₁, hq, .of_steps (.one h0 stepR_scope) harr⟩
  | outgrown => exact ⟨_, a₁, w₁, hq, .of_steps (.one h0 stepR_scope) harr⟩
end
theorem five90 {w : World} {p : Nat} {t : TypeId} {a0 a1 a2 a3 a4 : Value} (h : w.heap[p]? = some (.cells #[a0, a1, a2, a3, a4] t (0, 0))) : w.cell? ⟨p, 0, none⟩ = some a0 ∧ w.cell? ⟨p, 1, none⟩ = some a1 ∧ w.cell? ⟨p, 2, none⟩ = some a2 ∧ w.cell? ⟨p, 3, none⟩ = some a3 ∧ w.cell? ⟨p, 4, none⟩ = some a4 := by
  refine ⟨?_, ?_, ?_, ?_, ?_⟩ <;> simp [World.cell?, h]
open Classical in
noncomputable def bst (r : Rl) (sh : Nat → Sh) : Nat → List Nat
  | 0 => []
  | b + 1 => if AllAgree r (sel sh fun k => (memb b 8).getD k 0) (memb b 8).length ∧ Better (fun k => (memb b 8).getD k 0) (memb b 8).length (fun k => (bst r sh b).getD k 0) (bst r sh b).length then memb b 8 else bst r sh b
theorem bst_len (r : Rl) (sh : Nat → Sh) : ∀ b, (bst r sh b).length ≤ 8
  | 0 => by simp [bst]
  | b + 1 => by
    rw [bst]
    split
    · exact memb_len b 8
    · exact bst_len r sh b
def mN (b : Nat) : Nat := (memb b 8).length
def mF (b k : Nat) : Nat := (memb b 8).getD k 0
noncomputable def bN (r : Rl) (sh : Nat → Sh) (b : Nat) : Nat := (bst r sh b).length
noncomputable def bF (r : Rl) (sh : Nat → Sh) (b k : Nat) : Nat := (bst r sh b).getD k 0
theorem bst_next {r : Rl} {sh : Nat → Sh} {b : Nat} (h1 : AllAgree r (sel sh (mF b)) (mN b)) (h2 : Better (mF b) (mN b) (bF r sh b) (bN r sh b)) : bN r sh (b + 1) = mN b ∧ bF r sh (b + 1) = mF b := by
  have : bst r sh (b + 1) = memb b 8 := by rw [bst]; exact if_pos ⟨h1, h2⟩
  exact ⟨by rw [bN, this, mN], by funext k; rw [bF, this, mF]⟩
theorem bst_stay {r : Rl} {sh : Nat → Sh} {b : Nat} (h : ¬ (AllAgree r (sel sh (mF b)) (mN b) ∧ Better (mF b) (mN b) (bF r sh b) (bN r sh b))) : bN r sh (b + 1) = bN r sh b ∧ bF r sh (b + 1) = bF r sh b := by
  have : bst r sh (b + 1) = bst r sh b := by rw [bst]; exact if_neg h
  exact ⟨by rw [bN, this, bN], by funext k; rw [bF, this, bF]⟩
theorem pow_le {n : Nat} (h : n ≤ 8) : 2 ^ n ≤ 256 := Nat.pow_le_pow_right (by omega) h
theorem shl_one : ∀ n : Fin 9, wrap64 (2 ^ n.val) = ((2 ^ n.val : Nat) : Int) := by decide +kernel
theorem memb_lt {b n : Nat} (hb : b < 2 ^ n) (hn : n ≤ 8) {k : Nat} (hk : k < mN b) : mF b k < n := by
  unfold mF
  unfold mN at hk
  have h1 : (memb b 8).getD k 0 ∈ memb b 8 := by simp [hk]
  have h2 : b.testBit ((memb b 8).getD k 0) = true := (List.mem_filter.1 h1).2
  generalize (memb b 8).getD k 0 = i at *
  rcases Nat.lt_or_ge i n with h | h
  · exact h
  · rw [Nat.testBit_lt_two_pow (Nat.lt_of_lt_of_le hb (Nat.pow_le_pow_right (by omega) h))] at h2
    cases h2
theorem trust_any (r : Rl) (A : Option Addr) (n c : Nat) (sh : Nat → Sh) (W : World) (hn : n ≤ 8) (hc : n ≤ c) (hr : Hid (RlOk r)) (hx : Hid (∀ k, k < n → ShOk (sh k))) (hsh : Hid (ShotsAt W A n sh)) :
    CallsIn Fc 0 Tryz.prog 55 #[cardV r A n c] W (SaysInts (bN r sh (2 ^ n)) (fun k => (bF r sh (2 ^ n) k : Int)) W) := by
  have hag := fun (i1 i2 : Nat) (w : World) (h1 : i1 < n) (h2 : i2 < n) (hb : Below W.heap.size W w) => agree_any r A n c i1 i2 sh w h1 h2 hn hr hx (Lib.hid (hsh.out.below hb))
  have HAG := Lib.hid hag
  clear hag
  have hpow := pow_le hn
  have hshl := shl_one ⟨n, by omega⟩
  simp only at hshl
  generalize hP : (2 : Nat) ^ n = P at *
  have HP := Lib.hid hP
  clear hP
  gi_enter Tryz.func55, Tryz.ntmps55
  gi_wp2
  refine wpIn_scope ?_
  gi_wp2
  refine wpIn_label ?_
  gi_wp2
  obtain ⟨W1, hW1⟩ : ∃ W1, W1 = W.alloc (.cells #[.int .i64 r.ls, .int .i64 r.ms, .int .i64 r.wd, .int .i64 r.lt, .slice A n c] 90) := ⟨_, rfl⟩
  have hb1 : Below W.heap.size W W1 := by rw [hW1]; exact (Below.refl _ _).alloc (Nat.le_refl _) _
  have hbx : W1.heap[W.heap.size]? = some (.cells #[.int .i64 r.ls, .int .i64 r.ms, .int .i64 r.wd, .int .i64 r.lt, .slice A n c] 90 (0, 0)) := by rw [hW1]; exact heap_new _ _
  rw [← hW1]
  clear hW1
  obtain ⟨e0, e1, e2, e3, e4⟩ := five90 hbx
  have HB1 := Lib.hid hb1
  clear hb1 hbx
  rw [hshl]
  gi_loopw [3, 15] (fun sl x wr => ∃ (b : Nat) (LA : Option Addr) (lc : Nat), b ≤ P ∧ x = .int .i64 b ∧ sl = .slice LA (bN r sh b) lc ∧ bN r sh b ≤ lc ∧ IntsAt wr LA (bN r sh b) (fun k => (bF r sh b k : Int)) ∧ Below W1.heap.size W1 wr) (fun _ x _ => P - (intOf x).toNat)
  case atStart => exact ⟨0, none, 0, by omega, rfl, rfl, Nat.le_refl _, fun k hk => absurd hk (by simp [bN, bst]), Below.refl _ _⟩
  case round =>
    obtain ⟨b, LB, lb, hb, rfl, rfl, hlb, hib, hbw⟩ := hrel
    have HIB := Lib.hid hib
    have HBW := Lib.hid hbw
    clear hib hbw
    have hl8 : bN r sh b ≤ 8 := bst_len r sh b
    by_cases hlt : b < P
    · have hm : ∀ w, CallsIn Fc 0 Tryz.prog 79 #[.int .i64 b] w (SaysInts (mN b) (fun k => (mF b k : Int)) w) := fun w => members_any b w (by omega)
      have hml : mN b ≤ 8 := memb_len b 8
      have hmn := fun k (hk : k < mN b) => memb_lt (b := b) (n := n) (by rw [HP.out]; exact hlt) hn hk
      have hstay := Lib.hid (bst_stay (r := r) (sh := sh) (b := b))
      have hnext := Lib.hid (bst_next (r := r) (sh := sh) (b := b))
      have HMN := Lib.hid hmn
      have HM := Lib.hid hm
      clear hmn hm
      gi_wp2_with (gi_at_call 79; refine (HM.out _).mono ?_; rintro e w2 ⟨LA, lc, rfl, hlc, hil, hb2⟩; have HIL := Lib.hid hil; have HB2 := Lib.hid (HBW.out.trans (hb2.mono HBW.out.size)); have HIB2 := Lib.hid (HIB.out.below hb2); clear hil hb2)
      gi_loopw [22] (fun x wr => ∃ i : Nat, i ≤ mN b ∧ x = .int .i64 i ∧ Below w2.heap.size w2 wr ∧ ∀ p q, p < q → q < i → agreeB r (sh (mF b p)) (sh (mF b q)) = true) (fun x _ => mN b - (intOf x).toNat)
      case atStart => exact ⟨0, by omega, rfl, Below.refl _ _, fun p q h1 h2 => by omega⟩
      case round =>
        obtain ⟨i, hi, rfl, hb3, hag3⟩ := hrel
        have HB3 := Lib.hid hb3
        have HAG3 := Lib.hid hag3
        clear hb3 hag3
        by_cases hlt2 : i < mN b
        · obtain ⟨bl, ol, rfl, hq⟩ := HIL.out i hlt2
          have hq := Below.old HB3.out hq
          gi_wp2
          gi_loopw [31] (fun x wr' => ∃ j : Nat, j ≤ i ∧ x = .int .i64 j ∧ Below wr.heap.size wr wr' ∧ ∀ p, p < j → agreeB r (sh (mF b p)) (sh (mF b i)) = true) (fun x _ => i - (intOf x).toNat)
          case atStart => exact ⟨0, by omega, rfl, Below.refl _ _, fun p h1 => by omega⟩
          case round =>
            obtain ⟨j, hj, rfl, hb4, hag4⟩ := hrel
            have HAG4 := Lib.hid hag4
            clear hag4
            have HB34 := Lib.hid (HB3.out.trans (hb4.mono HB3.out.size))
            have HB4 := Lib.hid hb4
            clear hb4
            by_cases hlt3 : j < i
            · have hjm : j < mN b := by omega
              obtain ⟨bl', ol', e', hq2⟩ := HIL.out j hjm
              cases e'
              have hq2 := Below.old HB34.out hq2
              have hbw1 := HB2.out.trans (HB34.out.mono HB2.out.size)
              have c0 := Below.old hbw1 e0
              have c1 := Below.old hbw1 e1
              have c2 := Below.old hbw1 e2
              have c3 := Below.old hbw1 e3
              have c4 := Below.old hbw1 e4
              have hcall := HAG.out (mF b j) (mF b i) _ (HMN.out j hjm) (HMN.out i hlt2) (HB1.out.trans (hbw1.mono HB1.out.size))
              have HCALL := Lib.hid hcall
              clear hcall hbw1
              cases hg : agreeB r (sh (mF b j)) (sh (mF b i)) with
              | true =>
                rw [hg] at HCALL
                gi_wp2_with (gi_at_call 78; refine HCALL.out.mono ?_; rintro e w5 ⟨rfl, hb5⟩; have HB5 := Lib.hid (HB4.out.trans (hb5.mono HB4.out.size)); clear hb5)
                go_roundw
                case rel =>
                  refine ⟨j + 1, by omega, by go_num, HB5.out, fun p hp => ?_⟩
                  by_cases e : p = j
                  · subst e; exact hg
                  · exact HAG4.out p (by omega)
                case measure => simp [intOf]; omega
              | false =>
                rw [hg] at HCALL
                gi_wp2_with (gi_at_call 78; refine HCALL.out.mono ?_; rintro e w5 ⟨rfl, hb5⟩; have HB5 := Lib.hid (HB34.out.trans (hb5.mono HB34.out.size)); clear hb5)
                obtain ⟨g1, g2⟩ := hstay.out fun h => by
                  have := h.1 j i hlt3 hlt2
                  simp only [sel] at this
                  rw [hg] at this
                  cases this
                go_roundw
                case rel => exact ⟨b + 1, LB, lb, by omega, by go_num, by rw [g1], by rw [g1]; exact hlb, by rw [g1, g2]; exact HIB2.out.below HB5.out, HB2.out.trans (HB5.out.mono HB2.out.size)⟩
                case measure => simp [intOf]; omega
            · obtain rfl : j = i := by omega
              gi_wp2
              go_roundw
              case rel =>
                refine ⟨j + 1, by omega, by go_num, HB34.out, fun p q h1 h2 => ?_⟩
                by_cases e : q = j
                · subst e; exact HAG4.out p h1
                · exact HAG3.out p q h1 (by omega)
              case measure => simp [intOf]; omega
        · obtain rfl : i = mN b := by omega
          have hal : AllAgree r (sel sh (mF b)) (mN b) := HAG3.out
          have hcall := better_any LA LB (mN b) lc (bN r sh b) lb (mF b) (bF r sh b) wr hml hl8 hlc hlb (Lib.hid (HIL.out.below HB3.out)) (Lib.hid (HIB2.out.below HB3.out))
          have HCALL := Lib.hid hcall
          have HAL := Lib.hid hal
          clear hcall hal
          by_cases hbt : Better (mF b) (mN b) (bF r sh b) (bN r sh b)
          · have G := Lib.hid (hnext.out HAL.out hbt)
            have HBT := Lib.hid hbt
            clear hbt
            gi_wp2_with (gi_at_call 80; refine HCALL.out.mono ?_; rintro e w5 ⟨g, rfl, hg, rfl⟩; obtain rfl : g = true := hg.2 HBT.out; clear hg)
            obtain ⟨g1, g2⟩ := G.out
            go_roundw
            case rel => exact ⟨b + 1, LA, lc, by omega, by go_num, by rw [g1], by rw [g1]; exact hlc, by rw [g1, g2]; exact HIL.out.below HB3.out, HB2.out.trans (HB3.out.mono HB2.out.size)⟩
            case measure => simp [intOf]; omega
          · obtain ⟨g1, g2⟩ := hstay.out fun h => hbt h.2
            gi_wp2_with (gi_at_call 80; refine HCALL.out.mono ?_; rintro e w5 ⟨g, rfl, hg, rfl⟩; obtain rfl : g = false := by (cases g; rfl; exact absurd (hg.1 rfl) hbt))
            go_roundw
            case rel => exact ⟨b + 1, LB, lb, by omega, by go_num, by rw [g1], by rw [g1]; exact hlb, by rw [g1, g2]; exact HIB2.out.below HB3.out, HB2.out.trans (HB3.out.mono HB2.out.size)⟩
            case measure => simp [intOf]; omega
    · obtain rfl : b = P := by omega
      gi_wp2
      try rw [Exit.noGoto_ret]
      go_ret
      exact ⟨LB, lb, rfl, hlb, HIB.out, HB1.out.trans (HBW.out.mono HB1.out.size)⟩
end Go.Proofs.YtlabfeofejemjaaGreat
end
section
namespace Go.Proofs.YtlabfeofejemjaaGreat
open Go.RowKit
theorem box_two {W w : World} {X : Obj} {r : Rl} {A : Option Addr} {n c : Nat} {t : TypeId} (h : Below ((W.alloc X).alloc (.cells #[.int .i64 r.ls, .int .i64 r.ms, .int .i64 r.wd, .int .i64 r.lt, .slice A n c] t)).heap.size ((W.alloc X).alloc (.cells #[.int .i64 r.ls, .int .i64 r.ms, .int .i64 r.wd, .int .i64 r.lt, .slice A n c] t)) w) :
    w.cell? ⟨W.heap.size + 1, 0, none⟩ = some (.int .i64 r.ls) ∧ w.cell? ⟨W.heap.size + 1, 1, none⟩ = some (.int .i64 r.ms) ∧ w.cell? ⟨W.heap.size + 1, 2, none⟩ = some (.int .i64 r.wd) ∧ w.cell? ⟨W.heap.size + 1, 3, none⟩ = some (.int .i64 r.lt) ∧ w.cell? ⟨W.heap.size + 1, 4, none⟩ = some (.slice A n c) := by
  have h1 : ((W.alloc X).alloc (.cells #[.int .i64 r.ls, .int .i64 r.ms, .int .i64 r.wd, .int .i64 r.lt, .slice A n c] t)).heap[W.heap.size + 1]? = some (.cells #[.int .i64 r.ls, .int .i64 r.ms, .int .i64 r.wd, .int .i64 r.lt, .slice A n c] t (0, 0)) := heap_new' (by simp)
  have h2 := (h.block (W.heap.size + 1) (by simp)).trans h1
  exact five90 h2
theorem below_two (W : World) (X Y : Obj) : Below W.heap.size W ((W.alloc X).alloc Y) := ((Below.refl _ _).alloc (Nat.le_refl _) _).alloc (by simp) _
def SaysFits (p : Prop) (z : Int) (W : World) (e : Ending) (w' : World) : Prop := ∃ g : Bool, e = .returned (.tuple #[.bool g, .int .i64 z]) ∧ (z = 0 → (g = true ↔ p)) ∧ (z ≠ 0 → g = false) ∧ Below W.heap.size W w'
def SaysList (z : Int) (q : Nat → (Nat → Nat) → Prop) (W : World) (e : Ending) (w' : World) : Prop := ∃ (LA : Option Addr) (m lc : Nat) (l : Nat → Nat), e = .returned (.tuple #[.slice LA m lc, .int .i64 z]) ∧ m ≤ lc ∧ IntsAt w' LA m (fun k => (l k : Int)) ∧ (z = 0 → q m l) ∧ (z ≠ 0 → m = 0) ∧ Below W.heap.size W w'
def ClashIs (r : Rl) (sh : Nat → Sh) (n m : Nat) (l : Nat → Nat) : Prop := (AllAgree r sh n ∧ m = 0) ∨ (FirstClash r sh n (l 0) (l 1) ∧ m = 2)
def TrustIs (r : Rl) (sh : Nat → Sh) (n m : Nat) (l : Nat → Nat) : Prop := m = bN r sh (2 ^ n) ∧ l = bF r sh (2 ^ n)
theorem clash_none {r : Rl} {sh : Nat → Sh} {n : Nat} {e : Ending} {w' : World} {z : Nat} (hal : AllAgree r sh n) (h : (AllAgree r sh n ∧ e = .returned (.slice none 0 0)) ∨
    ∃ i j g, FirstClash r sh n i j ∧ e = .returned (.slice (some ⟨g, 0, none⟩) 2 2) ∧ z ≤ g ∧ w'.cell? ⟨g, 0, none⟩ = some (.int .i64 (i : Nat)) ∧ w'.cell? ⟨g, 1, none⟩ = some (.int .i64 (j : Nat))) : e = .returned (.slice none 0 0) := by
  rcases h with h | ⟨i, j, g, hf, _⟩
  · exact h.2
  · exact absurd (hal i j hf.lt hf.lt') (by rw [hf.no]; simp)
theorem clash_some {r : Rl} {sh : Nat → Sh} {n : Nat} {e : Ending} {w' : World} {z : Nat} (hal : ¬ AllAgree r sh n) (h : (AllAgree r sh n ∧ e = .returned (.slice none 0 0)) ∨
    ∃ i j g, FirstClash r sh n i j ∧ e = .returned (.slice (some ⟨g, 0, none⟩) 2 2) ∧ z ≤ g ∧ w'.cell? ⟨g, 0, none⟩ = some (.int .i64 (i : Nat)) ∧ w'.cell? ⟨g, 1, none⟩ = some (.int .i64 (j : Nat))) :
    ∃ i j g, FirstClash r sh n i j ∧ e = .returned (.slice (some ⟨g, 0, none⟩) 2 2) ∧ z ≤ g ∧ w'.cell? ⟨g, 0, none⟩ = some (.int .i64 (i : Nat)) ∧ w'.cell? ⟨g, 1, none⟩ = some (.int .i64 (j : Nat)) := by
  rcases h with h | h
  · exact absurd h.1 hal
  · exact h
theorem clash_list {r : Rl} {sh : Nat → Sh} {n : Nat} {e : Ending} {w' : World} {z : Nat} (h : (AllAgree r sh n ∧ e = .returned (.slice none 0 0)) ∨
    ∃ i j g, FirstClash r sh n i j ∧ e = .returned (.slice (some ⟨g, 0, none⟩) 2 2) ∧ z ≤ g ∧ w'.cell? ⟨g, 0, none⟩ = some (.int .i64 (i : Nat)) ∧ w'.cell? ⟨g, 1, none⟩ = some (.int .i64 (j : Nat))) :
    ∃ (LA : Option Addr) (m lc : Nat) (l : Nat → Nat), e = .returned (.slice LA m lc) ∧ m ≤ lc ∧ IntsAt w' LA m (fun k => (l k : Int)) ∧ ClashIs r sh n m l := by
  rcases h with ⟨h1, h2⟩ | ⟨i, j, g, hf, h1, _, h2, h3⟩
  · exact ⟨none, 0, 0, fun _ => 0, h2, Nat.le_refl _, fun k hk => by omega, .inl ⟨h1, rfl⟩⟩
  · refine ⟨_, 2, 2, fun k => if k = 0 then i else j, h1, Nat.le_refl _, fun k hk => ⟨g, 0, rfl, ?_⟩, .inr ⟨by simpa using hf, rfl⟩⟩
    have : k = 0 ∨ k = 1 := by omega
    rcases this with rfl | rfl
    · simpa using h2
    · simpa using h3
section
variable (r : Rl) (A : Option Addr) (n c : Nat) (sh : Nat → Sh) (W : World) (hn : n ≤ 20) (hc : n ≤ c) (hsh : Hid (ShotsAt W A n sh))
include hn hc hsh
theorem Fits_any : CallsIn Fc 0 Tryz.prog 13 #[cardV r A n c] W (SaysFits (AllAgree r sh n) (cardZ r sh n) W) := by
  have hck := fun w (hb : Below W.heap.size W w) => check_any r A n c sh w hn hc (Lib.hid (hsh.out.below hb))
  have hz := cardZ_ok (r := r) (sh := sh) (n := n)
  generalize cardZ r sh n = z at *
  have HCK := Lib.hid hck
  have HZ := Lib.hid hz
  clear hck hz
  by_cases h0 : z = 0
  · have hok := Lib.hid (HZ.out.1 h0)
    have hn8 := hok.out.count
    subst h0
    have hcl := fun w (hb : Below W.heap.size W w) => clash_any r A n c sh w hn8 hc (Lib.hid hok.out.rule) (Lib.hid hok.out.each) (Lib.hid (hsh.out.below hb))
    have HCL := Lib.hid hcl
    clear hcl
    by_cases hal : AllAgree r sh n
    · have HAL := Lib.hid hal
      clear hal
      gi_enter Tryz.func13, Tryz.ntmps13
      gi_wp2_with (first
        | (gi_at_call 46; refine (HCK.out _ (below_two _ _ _)).mono ?_; rintro e w2 ⟨rfl, hb2⟩; obtain ⟨c0, c1, c2, c3, c4⟩ := box_two hb2; have HB2 := Lib.hid ((below_two _ _ _).trans (hb2.mono (below_two _ _ _).size)); clear hb2)
        | (gi_at_call 53; refine (HCL.out _ HB2.out).mono ?_; rintro e w3 ⟨hb3, h⟩; obtain rfl := clash_none HAL.out h; have HB3 := Lib.hid (HB2.out.trans (hb3.mono HB2.out.size)); clear hb3 h))
      go_ret2
      exact ⟨true, by simp, fun _ => ⟨fun _ => HAL.out, fun _ => rfl⟩, fun h => absurd rfl h, HB3.out⟩
    · have HAL : Hid (¬ AllAgree r sh n) := Lib.hid hal
      clear hal
      gi_enter Tryz.func13, Tryz.ntmps13
      gi_wp2_with (first
        | (gi_at_call 46; refine (HCK.out _ (below_two _ _ _)).mono ?_; rintro e w2 ⟨rfl, hb2⟩; obtain ⟨c0, c1, c2, c3, c4⟩ := box_two hb2; have HB2 := Lib.hid ((below_two _ _ _).trans (hb2.mono (below_two _ _ _).size)); clear hb2)
        | (gi_at_call 53; refine (HCL.out _ HB2.out).mono ?_; rintro e w3 ⟨hb3, h⟩; obtain ⟨i, j, g, hf, rfl, _⟩ := clash_some HAL.out h; have HB3 := Lib.hid (HB2.out.trans (hb3.mono HB2.out.size)); clear hb3 h))
      go_ret2
      exact ⟨false, by simp, fun _ => ⟨fun h => (by cases h), fun h => absurd h HAL.out⟩, fun _ => rfl, HB3.out⟩
  · gi_enter Tryz.func13, Tryz.ntmps13
    gi_wp2_with (gi_at_call 46; refine (HCK.out _ (below_two _ _ _)).mono ?_; rintro e w2 ⟨rfl, hb2⟩; have HB2 := Lib.hid ((below_two _ _ _).trans (hb2.mono (below_two _ _ _).size)); clear hb2)
    go_ret2
    exact ⟨false, rfl, fun h => absurd h h0, fun _ => rfl, HB2.out⟩
theorem Clash_any : CallsIn Fc 0 Tryz.prog 15 #[cardV r A n c] W (SaysList (cardZ r sh n) (ClashIs r sh n) W) := by
  have hck := fun w (hb : Below W.heap.size W w) => check_any r A n c sh w hn hc (Lib.hid (hsh.out.below hb))
  have hz := cardZ_ok (r := r) (sh := sh) (n := n)
  generalize cardZ r sh n = z at *
  have HCK := Lib.hid hck
  have HZ := Lib.hid hz
  clear hck hz
  by_cases h0 : z = 0
  · have hok := Lib.hid (HZ.out.1 h0)
    have hn8 := hok.out.count
    subst h0
    have hcl := fun w (hb : Below W.heap.size W w) => clash_any r A n c sh w hn8 hc (Lib.hid hok.out.rule) (Lib.hid hok.out.each) (Lib.hid (hsh.out.below hb))
    have HCL := Lib.hid hcl
    clear hcl
    gi_enter Tryz.func15, Tryz.ntmps15
    gi_wp2_with (first
      | (gi_at_call 46; refine (HCK.out _ (below_two _ _ _)).mono ?_; rintro e w2 ⟨rfl, hb2⟩; obtain ⟨c0, c1, c2, c3, c4⟩ := box_two hb2; have HB2 := Lib.hid ((below_two _ _ _).trans (hb2.mono (below_two _ _ _).size)); clear hb2)
      | (gi_at_call 53; refine (HCL.out _ HB2.out).mono ?_; rintro e w3 ⟨hb3, h⟩; obtain ⟨LA, m, lc, l, rfl, h1, h2, h3⟩ := clash_list h; have HB3 := Lib.hid (HB2.out.trans (hb3.mono HB2.out.size)); clear hb3 h))
    go_ret2
    exact ⟨LA, m, lc, l, rfl, h1, h2, fun _ => h3, fun h => absurd rfl h, HB3.out⟩
  · gi_enter Tryz.func15, Tryz.ntmps15
    gi_wp2_with (gi_at_call 46; refine (HCK.out _ (below_two _ _ _)).mono ?_; rintro e w2 ⟨rfl, hb2⟩; have HB2 := Lib.hid ((below_two _ _ _).trans (hb2.mono (below_two _ _ _).size)); clear hb2)
    go_ret2
    exact ⟨none, 0, 0, fun _ => 0, rfl, Nat.le_refl _, fun k hk => by omega, fun h => absurd h h0, fun _ => rfl, HB2.out⟩
theorem Trust_any : CallsIn Fc 0 Tryz.prog 18 #[cardV r A n c] W (SaysList (cardZ r sh n) (TrustIs r sh n) W) := by
  have hck := fun w (hb : Below W.heap.size W w) => check_any r A n c sh w hn hc (Lib.hid (hsh.out.below hb))
  have hz := cardZ_ok (r := r) (sh := sh) (n := n)
  generalize cardZ r sh n = z at *
  have HCK := Lib.hid hck
  have HZ := Lib.hid hz
  clear hck hz
  by_cases h0 : z = 0
  · have hok := Lib.hid (HZ.out.1 h0)
    have hn8 := hok.out.count
    subst h0
    have hcl := fun w (hb : Below W.heap.size W w) => trust_any r A n c sh w hn8 hc (Lib.hid hok.out.rule) (Lib.hid hok.out.each) (Lib.hid (hsh.out.below hb))
    have HCL := Lib.hid hcl
    clear hcl
    gi_enter Tryz.func18, Tryz.ntmps18
    gi_wp2_with (first
      | (gi_at_call 46; refine (HCK.out _ (below_two _ _ _)).mono ?_; rintro e w2 ⟨rfl, hb2⟩; obtain ⟨c0, c1, c2, c3, c4⟩ := box_two hb2; have HB2 := Lib.hid ((below_two _ _ _).trans (hb2.mono (below_two _ _ _).size)); clear hb2)
      | (gi_at_call 55; refine (HCL.out _ HB2.out).mono ?_; rintro e w3 ⟨LA, lc, rfl, h1, h2, hb3⟩; have HB3 := Lib.hid (HB2.out.trans (hb3.mono HB2.out.size)); clear hb3))
    go_ret2
    exact ⟨LA, _, lc, _, rfl, h1, h2, fun _ => ⟨rfl, rfl⟩, fun h => absurd rfl h, HB3.out⟩
  · gi_enter Tryz.func18, Tryz.ntmps18
    gi_wp2_with (gi_at_call 46; refine (HCK.out _ (below_two _ _ _)).mono ?_; rintro e w2 ⟨rfl, hb2⟩; have HB2 := Lib.hid ((below_two _ _ _).trans (hb2.mono (below_two _ _ _).size)); clear hb2)
    go_ret2
    exact ⟨none, 0, 0, fun _ => 0, rfl, Nat.le_refl _, fun k hk => by omega, fun h => absurd h h0, fun _ => rfl, HB2.out⟩
end
end Go.Proofs.YtlabfeofejemjaaGreat
end
section
namespace Go.Proofs.YtlabfeofejemjaaGreat
open Go.RowKit
inductive RoleG where
  | val (d : Nat) (v : Value)
  | any (d : Nat)
  | st
def RoleG.slot : RoleG → Option Nat
  | .val d _ => some d
  | .any d => some d
  | .st => none
def nvG (R : List RoleG) (i : Nat) : Bool := match R[i]? with
  | some (.any _) => true
  | some .st => true
  | _ => false
def outsG (V : Nat → Value) : List RoleG → Nat → List (Nat × Value)
  | [], _ => []
  | .val d v :: R, i => (d, v) :: outsG V R (i + 1)
  | .any d :: R, i => (d, V i) :: outsG V R (i + 1)
  | .st :: R, i => outsG V R (i + 1)
def updB (L : Nat → Bool) (j : Nat) : Nat → Bool := fun i => if i = j then true else L i
def updV (V : Nat → Value) (j : Nat) (v : Value) : Nat → Value := fun i => if i = j then v else V i
section
variable {F : Fence} {n : Nat} {P : Program} {ops : Array Oper} {Q : Exit → Act → World → Prop}
def slotV (R : List RoleG) (a : Act) (i : Nat) : Value := match R[i]? with
  | some (.any d) => a.eval (.tmp d)
  | _ => undef
structure RG (ops : Array Oper) (R : List RoleG) (I : (Nat → Bool) → (Nat → Value) → World → Prop) (z : Nat) (a0 : Act) (listed : Array Bool) (a : Act) (w : World) : Prop where
  defers : a.defers = []
  size : a.tmps.size = z
  old : ∀ s, (∀ ρ ∈ R, ρ.slot ≠ some s) → a.eval (.tmp s) = a0.eval (.tmp s)
  val : ∀ (j d : Nat) (v : Value), R[j]? = some (.val d v) → listed.getD j false = true → a.eval (.tmp d) = v
  inv : I (fun i => listed.getD i false && nvG R i) (slotV R a) w
theorem outsG_mem {V : Nat → Value} {x : Nat × Value} : ∀ {R : List RoleG} {i : Nat}, x ∈ outsG V R i → ∃ k, R[k]? = some (.val x.1 x.2) ∨ (R[k]? = some (.any x.1) ∧ x.2 = V (i + k))
  | [], i, h => by cases h
  | .val d v :: R, i, h => by
    rcases List.mem_cons.1 h with rfl | h
    · exact ⟨0, .inl rfl⟩
    · obtain ⟨k, h⟩ := outsG_mem h
      exact ⟨k + 1, by simpa [Nat.add_assoc, Nat.add_comm 1] using h⟩
  | .any d :: R, i, h => by
    rcases List.mem_cons.1 h with rfl | h
    · exact ⟨0, .inr ⟨rfl, rfl⟩⟩
    · obtain ⟨k, h⟩ := outsG_mem h
      exact ⟨k + 1, by simpa [Nat.add_assoc, Nat.add_comm 1] using h⟩
  | .st :: R, i, h => by
    obtain ⟨k, h⟩ := outsG_mem (R := R) (i := i + 1) h
    exact ⟨k + 1, by simpa [Nat.add_assoc, Nat.add_comm 1] using h⟩
theorem outsG_has {V : Nat → Value} : ∀ {R : List RoleG} {i k d : Nat}, (R[k]?.bind RoleG.slot) = some d → ∃ v, (d, v) ∈ outsG V R i
  | [], i, k, d, h => by simp at h
  | .val e v :: R, i, 0, d, h => by
    simp [RoleG.slot] at h
    exact ⟨v, by subst h; exact List.mem_cons_self ..⟩
  | .any e :: R, i, 0, d, h => by
    simp [RoleG.slot] at h
    exact ⟨V i, by subst h; exact List.mem_cons_self ..⟩
  | .st :: R, i, 0, d, h => by simp [RoleG.slot] at h
  | .val e v :: R, i, k + 1, d, h => by
    obtain ⟨u, hu⟩ := outsG_has (R := R) (i := i + 1) (k := k) (d := d) (by simpa using h)
    exact ⟨u, List.mem_cons_of_mem _ hu⟩
  | .any e :: R, i, k + 1, d, h => by
    obtain ⟨u, hu⟩ := outsG_has (R := R) (i := i + 1) (k := k) (d := d) (by simpa using h)
    exact ⟨u, List.mem_cons_of_mem _ hu⟩
  | .st :: R, i, k + 1, d, h => by
    obtain ⟨u, hu⟩ := outsG_has (R := R) (i := i + 1) (k := k) (d := d) (by simpa using h)
    exact ⟨u, hu⟩
end
end Go.Proofs.YtlabfeofejemjaaGreat
end
section
namespace Go.Proofs.YtlabfeofejemjaaGreat
open Go.RowKit
section
variable {F : Fence} {n : Nat} {P : Program} {ops : Array Oper} {Q : Exit → Act → World → Prop}
structure RH (ops : Array Oper) (R : List RoleG) (I : (Nat → Bool) → (Nat → Value) → World → Prop) (z : Nat) (a0 : Act) (listed : Array Bool) (a : Act) (w : World) : Prop where
  defers : a.defers = []
  size : a.tmps.size = z
  old : ∀ s, (∀ ρ ∈ R, ρ.slot ≠ some s) → a.eval (.tmp s) = a0.eval (.tmp s)
  val : ∀ (j d : Nat) (v : Value), R[j]? = some (.val d v) → listed.getD j false = true → a.eval (.tmp d) = v
  inv : I (fun i => listed.getD i false && nvG R i) (slotV R a) w
  closed : ∀ i, listed.getD i false = true → ∀ j, depB ops i j = true → listed.getD j false = true
def aheadB (ops : Array Oper) (j e : Nat) : Bool := decide (e ≠ j) && (clos ops (e + 1) [e]).contains j
theorem ahead_not {listed : Array Bool} {R : List RoleG} {j e : Nat} (hc : ∀ i, listed.getD i false = true → ∀ j, depB ops i j = true → listed.getD j false = true) (hd : ∀ k, depB ops j k = true → listed.getD k false = true) (hj : listed.getD j false = false) (he : aheadB ops j e = true) : (listed.getD e false && nvG R e) = false := by
  unfold aheadB at he
  simp only [Bool.and_eq_true, decide_eq_true_eq, List.contains_iff_mem] at he
  cases h : listed.getD e false with
  | false => rfl
  | true =>
    exfalso
    have := clos_listed (k := e) hc (hc e h) (e + 1) [e] (fun x hx => by
      rcases List.mem_singleton.1 hx with rfl
      exact .inl rfl) j he.2
    rcases this with h2 | h2
    · exact he.1 h2.symm
    · rw [hj] at h2; cases h2
theorem wpIn_region_H (R : List RoleG) {I : (Nat → Bool) → (Nat → Value) → World → Prop} {z : Nat} {a0 : Act} {id : Nat} {w : World} (hm : P.follows .mixedOrders = true) (hb : backB .any ops = true) (hlen : R.length = ops.size) (hnd : rowDst (R.map RoleG.slot) z z z = true) (hd : a0.defers = []) (hz : a0.tmps.size = z)
    (h0 : I (fun _ => false) (slotV R a0) { w with drawn := w.drawn + 1 })
    (hJ : ∀ j L V a w, j < ops.size → (nvG R j = true → L j = false) → (∀ k, depB ops j k = true → nvG R k = true → L k = true) → (∀ e, aheadB ops j e = true → nvG R e = true → L e = false) → a.defers = [] → a.tmps.size = z → (∀ s, R.all (fun ρ => ρ.slot != some s) = true → a.eval (.tmp s) = a0.eval (.tmp s)) →
      (∀ k d v, depB ops j k = true → R[k]? = some (.val d v) → a.eval (.tmp d) = v) → (∀ k d, R[k]? = some (.any d) → a.eval (.tmp d) = V k) → I L V w →
      wpOpIn F n P ops Q j (fun a' w' => a'.defers = [] ∧ match R[j]? with
        | some (.val d v) => a'.tmps = a.tmps.setIfInBounds d v ∧ I L V w'
        | some (.any d) => ∃ v, a'.tmps = a.tmps.setIfInBounds d v ∧ I (updB L j) (updV V j v) w'
        | _ => a'.tmps = a.tmps ∧ I (updB L j) V w') a w)
    (hE : ∀ L V w, (∀ i, nvG R i = true → L i = true) → I L V w → Q .normal { tmps := (outsG V R 0).foldl (fun t x => t.setIfInBounds x.1 x.2) a0.tmps, defers := [] } w) : (Code.region id ops true).wpIn F n P Q a0 w := by
  have hK : ∀ {j : Nat} {ρ : RoleG}, R[j]? = some ρ → (R.map RoleG.slot)[j]? = some ρ.slot := fun h => by rw [List.getElem?_map, h]; rfl
  have hkey : ∀ {j d : Nat} {ρ : RoleG}, R[j]? = some ρ → ρ.slot = some d → d < z ∧ ∀ i ρ', i ≠ j → R[i]? = some ρ' → ρ'.slot ≠ some d := fun {j d ρ} h e => by
    have h' := hK h
    rw [e] at h'
    obtain ⟨_, _, q3, q4⟩ := rowDst_use hnd h'
    exact ⟨q3, fun i ρ' hi h' e => q4 i hi (by rw [hK h', e])⟩
  have evs : ∀ (a a' : Act) (d : Nat) (v : Value), a'.tmps = a.tmps.setIfInBounds d v → (∀ s, s ≠ d → a'.eval (.tmp s) = a.eval (.tmp s)) ∧ (d < a.tmps.size → a'.eval (.tmp d) = v) := fun a a' d v h => by
    constructor
    · intro s hs
      simp only [Act.eval, h]
      simp [Ne.symm hs]
    · intro hd
      simp only [Act.eval, h]
      simp [hd]
  have same : ∀ (a a' : Act), a'.tmps = a.tmps → ∀ s, a'.eval (.tmp s) = a.eval (.tmp s) := fun a a' h s => by simp only [Act.eval, h]
  have hlist : ∀ {listed : Array Bool} {i : Nat}, i ∈ Region.ready .any ops listed → i < ops.size := fun hi => by
    obtain ⟨_, o, h3, _⟩ := mem_ready.1 hi
    exact (Array.getElem?_eq_some_iff.1 h3).1
  refine wpIn_region_J (J := RH ops R I z a0) hm hb ?_ (fun listed a w i hj hi => ?_) fun listed a w hj hall => ?_
  · have hno : ∀ i, (Array.replicate ops.size false).getD i false = false := fun i => by
      rw [Array.getD_eq_getD_getElem?]
      rcases Nat.lt_or_ge i ops.size with h | h <;> simp [h]
    refine ⟨hd, hz, fun _ _ => rfl, fun j d v _ hl => (by rw [hno j] at hl; cases hl), ?_, fun i hl => (by rw [hno i] at hl; cases hl)⟩
    have e : (fun i => (Array.replicate ops.size false).getD i false && nvG R i) = fun _ => false := by
      funext i
      rw [hno i]
      rfl
    rw [e]
    exact h0
  · have his := hlist hi
    have hnot := not_yet hi
    refine wpOpIn_mono (fun a' w' h => ?_) (hJ i (fun i => listed.getD i false && nvG R i) (slotV R a) a w his (fun _ => by simp [hnot]) (fun k hk hnv => by simp [dep hi hk, hnv]) (fun e he hnv => ahead_not hj.closed (fun k hk => dep hi hk) hnot he) hj.defers hj.size (fun s hs => hj.old s fun ρ hρ => by simpa using List.all_eq_true.1 hs ρ hρ) (fun k d v hk e => hj.val k d v e (dep hi hk)) (fun k d e => by simp [slotV, e]) hj.inv)
    obtain ⟨h1, h2⟩ := h
    obtain ⟨ρ, hρ⟩ : ∃ ρ, R[i]? = some ρ := ⟨R[i], by simp [hlen, his]⟩
    have hgd : ∀ k, (listed.setIfInBounds i true).getD k false = if k = i then true else listed.getD k false := fun k => by
      by_cases e : k = i
      · subst e; rw [set_self hi]; simp
      · rw [gset (fun e' => e e'.symm)]; simp [e]
    have hclosed : ∀ k, (listed.setIfInBounds i true).getD k false = true → ∀ j, depB ops k j = true → (listed.setIfInBounds i true).getD j false = true := fun k hk j hkj => by
      rw [hgd j]
      by_cases e : j = i
      · simp [e]
      · rw [if_neg e]
        rw [hgd k] at hk
        by_cases e2 : k = i
        · subst e2; exact dep hi hkj
        · rw [if_neg e2] at hk
          exact hj.closed k hk j hkj
    rw [hρ] at h2
    cases ρ with
    | val d v =>
      obtain ⟨h2, h3⟩ := h2
      obtain ⟨q1, q2⟩ := hkey hρ rfl
      obtain ⟨e1, e2⟩ := evs a a' d v h2
      have e2 := e2 (by rw [hj.size]; exact q1)
      refine ⟨h1, by rw [h2]; simpa using hj.size, fun s hs => ?_, fun k e u hk hl => ?_, ?_, hclosed⟩
      · rw [e1 s fun e => hs _ (List.mem_iff_getElem?.2 ⟨i, hρ⟩) (by rw [e]; rfl)]; exact hj.old s hs
      · by_cases ek : k = i
        · subst ek; rw [hρ] at hk; cases hk; exact e2
        · rw [hgd k, if_neg ek] at hl
          have hne := q2 k _ ek hk
          rw [e1 e fun e' => hne (by rw [e']; rfl)]
          exact hj.val k e u hk hl
      · have eL : (fun k => (listed.setIfInBounds i true).getD k false && nvG R k) = fun k => listed.getD k false && nvG R k := by
          funext k
          rw [hgd k]
          by_cases ek : k = i
          · subst ek; simp [nvG, hρ]
          · simp [ek]
        have eV : slotV R a' = slotV R a := by
          funext k
          unfold slotV
          split
          · next d' hk =>
            have hne := q2 k _ (fun e => by subst e; rw [hρ] at hk; cases hk) hk
            exact e1 d' fun e' => hne (by rw [e']; rfl)
          · rfl
        rw [eL, eV]
        exact h3
    | any d =>
      obtain ⟨v, h2, h3⟩ := h2
      obtain ⟨q1, q2⟩ := hkey hρ rfl
      obtain ⟨e1, e2⟩ := evs a a' d v h2
      have e2 := e2 (by rw [hj.size]; exact q1)
      refine ⟨h1, by rw [h2]; simpa using hj.size, fun s hs => ?_, fun k e u hk hl => ?_, ?_, hclosed⟩
      · rw [e1 s fun e => hs _ (List.mem_iff_getElem?.2 ⟨i, hρ⟩) (by rw [e]; rfl)]; exact hj.old s hs
      · have ek : k ≠ i := fun ek => by subst ek; rw [hρ] at hk; cases hk
        rw [hgd k, if_neg ek] at hl
        have hne := q2 k _ ek hk
        rw [e1 e fun e' => hne (by rw [e']; rfl)]
        exact hj.val k e u hk hl
      · have eL : (fun k => (listed.setIfInBounds i true).getD k false && nvG R k) = updB (fun k => listed.getD k false && nvG R k) i := by
          funext k
          rw [hgd k]
          unfold updB
          by_cases ek : k = i
          · subst ek; simp [nvG, hρ]
          · simp [ek]
        have eV : slotV R a' = updV (slotV R a) i v := by
          funext k
          unfold updV
          by_cases ek : k = i
          · subst ek; simp only [if_true]; unfold slotV; rw [hρ]; exact e2
          · rw [if_neg ek]
            unfold slotV
            split
            · next d' hk =>
              have hne := q2 k _ ek hk
              exact e1 d' fun e' => hne (by rw [e']; rfl)
            · rfl
        rw [eL, eV]
        exact h3
    | st =>
      obtain ⟨h2, h3⟩ := h2
      have e1 := same a a' h2
      refine ⟨h1, by rw [h2]; exact hj.size, fun s hs => by rw [e1]; exact hj.old s hs, fun k e u hk hl => ?_, ?_, hclosed⟩
      · have ek : k ≠ i := fun ek => by subst ek; rw [hρ] at hk; cases hk
        rw [hgd k, if_neg ek] at hl
        rw [e1]
        exact hj.val k e u hk hl
      · have eL : (fun k => (listed.setIfInBounds i true).getD k false && nvG R k) = updB (fun k => listed.getD k false && nvG R k) i := by
          funext k
          rw [hgd k]
          unfold updB
          by_cases ek : k = i
          · subst ek; simp [nvG, hρ]
          · simp [ek]
        have eV : slotV R a' = slotV R a := by
          funext k
          unfold slotV
          split
          · exact e1 _
          · rfl
        rw [eL, eV]
        exact h3
  · have hin : ∀ i, nvG R i = true → i < ops.size := fun i h => by
      rcases Nat.lt_or_ge i R.length with h' | h'
      · omega
      · unfold nvG at h
        rw [List.getElem?_eq_none h'] at h
        cases h
    have h1 := hE _ _ w (fun i hi => by simp [hall i (hin i hi), hi]) hj.inv
    have e0 : (outsG (slotV R a) R 0).foldl (fun (t : Array Value) (x : Nat × Value) => t.setIfInBounds x.1 x.2) a0.tmps = a.tmps := by
      refine fold_set a _ a0.tmps (by rw [hz, hj.size]) (fun x hx => ?_) fun s hs => (hj.old s fun ρ hρ e => ?_).symm
      · obtain ⟨k, h | ⟨h, h2⟩⟩ := outsG_mem hx
        · have hk : k < ops.size := by
            rcases Nat.lt_or_ge k R.length with h' | h'
            · omega
            · rw [List.getElem?_eq_none h'] at h; cases h
          exact hj.val k _ _ h (hall k hk)
        · rw [h2, Nat.zero_add]
          simp [slotV, h]
      · obtain ⟨k, hk⟩ := List.mem_iff_getElem?.1 hρ
        obtain ⟨v, hv⟩ := outsG_has (V := slotV R a) (i := 0) (k := k) (d := s) (by rw [hk]; exact e)
        exact hs _ hv rfl
    rw [e0] at h1
    obtain ⟨t, d⟩ := a
    have := hj.defers
    simp only at this
    subst this
    exact h1
end
end Go.Proofs.YtlabfeofejemjaaGreat
end
