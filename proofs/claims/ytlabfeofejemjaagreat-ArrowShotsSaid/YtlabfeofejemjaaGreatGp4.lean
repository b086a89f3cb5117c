/- A part of the proof that ArrowShots returns true for every input: no further condition. -/
import Derived.Test.YtlabfeofejemjaaGreatGp3
set_option linter.unusedSimpArgs false
set_option linter.unusedVariables false
set_option maxHeartbeats 4000000
set_option maxRecDepth 100000
section
namespace Go.Proofs.YtlabfeofejemjaaGreat
open Go.RowKit
def BoxOf (w : World) (p : Nat) (r : Rl) (A : Option Addr) (n c : Nat) : Prop := w.heap[p]? = some (.cells #[.int .i64 r.ls, .int .i64 r.ms, .int .i64 r.wd, .int .i64 r.lt, .slice A n c] 26 (0, 0))
theorem BoxOf.out {w : World} {p : Nat} {r : Rl} {A : Option Addr} {n c : Nat} (h : BoxOf w p r A n c) : w.cell? ⟨p, 0, none⟩ = some (.int .i64 r.ls) ∧ w.cell? ⟨p, 1, none⟩ = some (.int .i64 r.ms) ∧ w.cell? ⟨p, 2, none⟩ = some (.int .i64 r.wd) ∧ w.cell? ⟨p, 3, none⟩ = some (.int .i64 r.lt) ∧ w.cell? ⟨p, 4, none⟩ = some (.slice A n c) := five90 h
theorem BoxOf.below {w w' : World} {p : Nat} {r : Rl} {A : Option Addr} {n c : Nat} (h : BoxOf w p r A n c) (hb : Below w.heap.size w w') : BoxOf w' p r A n c := (hb.block p (by have := h; unfold BoxOf at this; exact (Array.getElem?_eq_some_iff.1 this).1)).trans h
theorem BoxOf.drew {w : World} {k p : Nat} {r : Rl} {A : Option Addr} {n c : Nat} (h : BoxOf w p r A n c) : BoxOf { w with drawn := k } p r A n c := h
theorem SpanAt.drew {w : World} {k p : Nat} {u v : Int} (h : SpanAt w p u v) : SpanAt { w with drawn := k } p u v := h
theorem BoxOf.far {w : World} {p q : Nat} {r : Rl} {A : Option Addr} {n c : Nat} (h : BoxOf w p r A n c) (hne : q ≠ p) (j : Nat) (x : Value) : BoxOf (w.setCell ⟨q, j, none⟩ x) p r A n c := by
  unfold BoxOf at h ⊢
  simp [World.setCell, Array.getElem?_modify, hne, h]
theorem box_first {W w : World} {r : Rl} {A : Option Addr} {n c : Nat} {Y : Obj} (h : Below ((W.alloc (.cells #[.int .i64 r.ls, .int .i64 r.ms, .int .i64 r.wd, .int .i64 r.lt, .slice A n c] 26)).alloc Y).heap.size ((W.alloc (.cells #[.int .i64 r.ls, .int .i64 r.ms, .int .i64 r.wd, .int .i64 r.lt, .slice A n c] 26)).alloc Y) w) : BoxOf w W.heap.size r A n c :=
  by
  have h1 : ((W.alloc (.cells #[.int .i64 r.ls, .int .i64 r.ms, .int .i64 r.wd, .int .i64 r.lt, .slice A n c] 26)).alloc Y).heap[W.heap.size]? = some (.cells #[.int .i64 r.ls, .int .i64 r.ms, .int .i64 r.wd, .int .i64 r.lt, .slice A n c] 26 (0, 0)) := heap_old (heap_top _ _ rfl)
  exact (h.block W.heap.size (by simp; omega)).trans h1
theorem span_next {W w : World} {X : Obj} {u v : Int} (h : Below ((W.alloc X).alloc (.cells #[.int .i64 u, .int .i64 v] 29)).heap.size ((W.alloc X).alloc (.cells #[.int .i64 u, .int .i64 v] 29)) w) : SpanAt w (W.heap.size + 1) u v := SpanAt.below (by simpa using span_new (W.alloc X) u v) h
theorem RefWide_any (r : Rl) (A : Option Addr) (n c : Nat) (sh : Nat → Sh) (d : Int) (W : World) (hn : n ≤ 20) (hc : n ≤ c) (hsh : Hid (ShotsAt W A n sh)) (z u v : Int) (hzz : Hid (firstL (wdL r sh n d) = z)) (h0 : Hid (z = 0 → u = wideU r (sh d.toNat) ∧ v = wideV r (sh d.toNat))) (h1 : Hid (z ≠ 0 → u = 0 ∧ v = 0)) :
    CallsIn Fc 0 Tryz.prog 10 #[cardV r A n c, .int .i64 d] W (SaysMark u v z W) := by
  have hck := fun w (hb : Below W.heap.size W w) => askedShot_any r A n c sh w hn hc (Lib.hid (hsh.out.below hb)) d
  rw [hzz.out] at hck
  have HCK := Lib.hid hck
  clear hck
  gi_enter Tryz.func10, Tryz.ntmps10
  by_cases hz : z = 0
  · subst hz
    obtain ⟨hok, d0, d1⟩ := wdL_ok.1 hzz.out
    obtain ⟨rfl, rfl⟩ := h0.out rfl
    clear h0 h1 hzz
    obtain ⟨k, rfl⟩ : ∃ k : Nat, d = k := ⟨d.toNat, by omega⟩
    have hk : k < n := by omega
    rw [Int.toNat_natCast]
    obtain ⟨b, o, hA, hy⟩ := hsh.out k hk
    subst hA
    have hwo := fun w => WideOf_any r (sh k) w (Lib.hid hok.rule) (Lib.hid (hok.each k hk))
    generalize sh k = x at *
    generalize wideU r x = u at *
    generalize wideV r x = v at *
    have HWO := Lib.hid hwo
    have HY := Lib.hid hy
    clear hwo hy hok d0 d1
    gi_wp2_with (gi_at_call 49; refine (HCK.out _ (below_two _ _ _)).mono ?_; rintro e w2 ⟨rfl, hb2⟩; have HE := Lib.hid (box_first hb2); have HS := Lib.hid (span_next hb2); have HB2 := Lib.hid ((below_two _ _ _).trans (hb2.mono (below_two _ _ _).size)); clear hb2)
    refine wpIn_region_H (R := [.val 14 (.pointer (some ⟨W.heap.size, 0, none⟩)), .val 15 (.agg #[.int .i64 r.ls, .int .i64 r.ms, .int .i64 r.wd, .int .i64 r.lt]), .val 16 (.pointer (some ⟨W.heap.size, 4, none⟩)), .val 17 (.slice (some ⟨b, o, none⟩) n c), .val 18 (.int .i64 (k : Int)), .val 19 (.pointer (some ⟨b, o + k * 5, none⟩)), .val 20 (shV x), .val 21 (spanV u v), .st, .val 5 (.int .i64 0)])
      (I := fun L V w => Below W.heap.size W w ∧ BoxOf w W.heap.size r (some ⟨b, o, none⟩) n c ∧ (L 8 = false → SpanAt w (W.heap.size + 1) 0 0) ∧ (L 8 = true → SpanAt w (W.heap.size + 1) u v)) (z := 22) (by kernel_rfl) (by kernel_rfl) rfl (by kernel_rfl) rfl rfl ⟨HB2.out.drew, HE.out.drew, fun _ => HS.out.drew, fun h => by cases h⟩ ?_ ?_
    · intro j L V a w hj hno hdep hah hd hz hold hv hV hI
      have HI := Lib.hid hI
      obtain ⟨c0, c1, c2, c3, c4⟩ := hI.2.1.out
      obtain ⟨y0, y1, y2, y3, y4⟩ := HY.out.below hI.1
      have s1 := at_slot hz (hold 1 (by kernel_rfl)) (by omega)
      have s2 := at_slot hz (hold 2 (by kernel_rfl)) (by omega)
      have s4 := at_slot hz (hold 4 (by kernel_rfl)) (by omega)
      clear hold
      have hjs : j = 0 ∨ j = 1 ∨ j = 2 ∨ j = 3 ∨ j = 4 ∨ j = 5 ∨ j = 6 ∨ j = 7 ∨ j = 8 ∨ j = 9 := by have : j < 10 := hj; omega
      rcases hjs with rfl | rfl | rfl | rfl | rfl | rfl | rfl | rfl | rfl | rfl
      · clear hdep hah hv hV hno hI
        refine wpOpIn_step rfl fun K hK => ?_
        go_simp
        exact hK _ _ ⟨rfl, rfl, HI.out⟩
      · have f14 := at_slot hz (hv 0 14 _ (by kernel_rfl) rfl) (by omega)
        clear hdep hah hv hV hno hI
        refine wpOpIn_step rfl fun K hK => ?_
        go_simp
        exact hK _ _ ⟨rfl, rfl, HI.out⟩
      · clear hdep hah hv hV hno hI
        refine wpOpIn_step rfl fun K hK => ?_
        go_simp
        exact hK _ _ ⟨rfl, rfl, HI.out⟩
      · have f16 := at_slot hz (hv 2 16 _ (by kernel_rfl) rfl) (by omega)
        clear hdep hah hv hV hno hI
        refine wpOpIn_step rfl fun K hK => ?_
        go_simp
        exact hK _ _ ⟨rfl, rfl, HI.out⟩
      · clear hdep hah hv hV hno hI
        refine wpOpIn_step rfl fun K hK => ?_
        go_simp
        exact hK _ _ ⟨rfl, rfl, HI.out⟩
      · have f17 := at_slot hz (hv 3 17 _ (by kernel_rfl) rfl) (by omega)
        have f18 := at_slot hz (hv 4 18 _ (by kernel_rfl) rfl) (by omega)
        clear hdep hah hv hV hno hI
        refine wpOpIn_step rfl fun K hK => ?_
        go_simp
        exact hK _ _ ⟨rfl, rfl, HI.out⟩
      · have f19 := at_slot hz (hv 5 19 _ (by kernel_rfl) rfl) (by omega)
        clear hdep hah hv hV hno hI
        refine wpOpIn_step rfl fun K hK => ?_
        go_simp
        exact hK _ _ ⟨rfl, rfl, HI.out⟩
      · have f15 := at_slot hz (hv 1 15 _ (by kernel_rfl) rfl) (by omega)
        have f20 := at_slot hz (hv 6 20 _ (by kernel_rfl) rfl) (by omega)
        clear hdep hah hv hV hno hI
        refine wpOpIn_step rfl fun K hK => ?_
        go_simp
        refine (HWO.out w).mono ?_
        rintro e w3 ⟨rfl, hb'⟩
        exact hK _ _ ⟨rfl, rfl, ⟨HI.out.1.trans (hb'.mono HI.out.1.size), HI.out.2.1.below hb', fun h => (HI.out.2.2.1 h).below hb', fun h => (HI.out.2.2.2 h).below hb'⟩⟩
      · have f21 := at_slot hz (hv 7 21 _ (by kernel_rfl) rfl) (by omega)
        have hsp := HI.out.2.2.1 (hno rfl)
        have z0 := hsp.frozen 0
        have z1 := hsp.frozen 1
        obtain ⟨q0, q1⟩ := hsp.cell
        clear hdep hah hv hV hno hI
        refine wpOpIn_step rfl fun K hK => ?_
        go_simp
        exact hK _ _ ⟨hd, rfl, ⟨(HI.out.1.setCell (by simp) _).setCell (by simp) _, (HI.out.2.1.far (by omega) _ _).far (by omega) _ _, fun h => by simp [updB] at h, fun _ => hsp.set _ _⟩⟩
      · clear hdep hah hv hV hno hI
        refine wpOpIn_step rfl fun K hK => ?_
        go_simp
        exact hK _ _ ⟨rfl, rfl, HI.out⟩
    intro L V w5 hL hI
    have hsp := hI.2.2.2 (hL 8 rfl)
    have HBW := Lib.hid hI.1
    clear hI
    simp only [outsG, List.foldl_cons, List.foldl_nil, List.setIfInBounds_toArray, List.set_cons_succ, List.set_cons_zero]
    obtain ⟨q0, q1⟩ := hsp.cell
    have HSP := Lib.hid hsp
    clear hsp
    gi_wp2
    refine bodyPost_ret (v := .tuple #[spanV u v, .int .i64 0]) (results_common rfl rfl rfl HSP.out) rfl ⟨rfl, HBW.out⟩
  · obtain ⟨rfl, rfl⟩ := h1.out hz
    clear h0 h1 hzz
    gi_wp2_with (gi_at_call 49; refine (HCK.out _ (below_two _ _ _)).mono ?_; rintro e w2 ⟨rfl, hb2⟩; have hsp := span_next hb2; have z0 := hsp.frozen 0; have z1 := hsp.frozen 1; obtain ⟨q0, q1⟩ := hsp.cell; have HS := Lib.hid hsp; have HB2 := Lib.hid ((below_two _ _ _).trans (hb2.mono (below_two _ _ _).size)); clear hb2 hsp)
    refine bodyPost_ret (v := .tuple #[spanV 0 0, .int .i64 z]) (results_common rfl rfl rfl ?_) rfl ⟨rfl, ?_⟩
    · exact HS.out.set _ _
    · exact (HB2.out.setCell (by simp) _).setCell (by simp) _
end Go.Proofs.YtlabfeofejemjaaGreat
end
section
namespace Go.Proofs.YtlabfeofejemjaaGreat
open Go.RowKit
theorem pre_pos (l : List Nat) : ∀ i, 0 < (pre l i).length
  | 0 => by simp [pre]
  | i + 1 => by
    have := pre_pos l i
    rw [pre, List.length_append]
    omega
theorem i36 : (Tryz.prog.info? 36).map (fun i => (i.zero, i.size, i.bytes)) = some (some (.slice none 0 0), 1, 24) := by kernel_rfl
theorem ut75 : Tryz.prog.underlying 75 = some (.slice 36) := by kernel_rfl
def SaysLists (L : List (List Nat)) (W : World) (e : Ending) (w' : World) : Prop := ∃ v, e = .returned v ∧ ListsAt w' W.heap.size v L ∧ Below W.heap.size W w'
theorem choices_step (xs : List Nat) (m : Nat) (hm : xs.length = m) (hm8 : m ≤ 8) (LA : Option Addr) (lc : Nat) (hlc : m ≤ lc) (W : World) (hi : Hid (IntsAt W LA m fun k => ((xs.getD k 0 : Nat) : Int)))
    (hIH : Hid (∀ (i : Nat) (LB : Option Addr) (kc : Nat) (w : World), i < m → m - (i + 1) ≤ kc → IntsAt w LB (m - (i + 1)) (fun k => (((xs.drop (i + 1)).getD k 0 : Nat) : Int)) → CallsIn Fc 0 Tryz.prog 54 #[.slice LB (m - (i + 1)) kc] w (SaysLists (chs (xs.drop (i + 1))) w))) :
    CallsIn Fc 0 Tryz.prog 54 #[.slice LA m lc] W (SaysLists (chs xs) W) := by
  obtain ⟨i0, hi0, hz0, hz1, hz2⟩ := info_parts i3
  have HI0 := Lib.hid hi0
  have HZ0 := Lib.hid hz0
  have HZ1 := Lib.hid hz1
  have HZ2 := Lib.hid hz2
  obtain ⟨j0, hj0, hy0, hy1, hy2⟩ := info_parts i36
  have HJ0 := Lib.hid hj0
  have HY0 := Lib.hid hy0
  have HY1 := Lib.hid hy1
  have HY2 := Lib.hid hy2
  clear hi0 hz0 hz1 hz2 hj0 hy0 hy1 hy2
  gi_enter Tryz.func54, Tryz.ntmps54
  gi_wp2
  gi_loopw [3, 4] (fun sl x wr => ∃ i : Nat, i ≤ m ∧ x = .int .i64 i ∧ ListsAt wr W.heap.size sl (pre xs i) ∧ Below W.heap.size W wr) (fun _ x _ => m - (intOf x).toNat)
  case atStart =>
    refine ⟨0, by omega, rfl, ?_, ?_⟩
    · exact ⟨[.slice none 0 0], World.ownsRow_lit W #[.slice none 0 0] 1 (Nat.le_refl _) (by simp [maxLen]) rfl, fun k hk => by
        have hk : k < 1 := hk
        obtain rfl : k = 0 := by omega
        exact ListAt.nil _ _⟩
    · exact below_one _ _
  case round =>
    obtain ⟨i, hi', rfl, hls, hb⟩ := hrel
    have HLS := Lib.hid hls
    have HB := Lib.hid hb
    clear hls hb
    by_cases hlt : i < m
    · obtain ⟨b, o, hA, hq⟩ := hi.out i hlt
      subst hA
      replace hq : W.cell? ⟨b, o + i, none⟩ = some (.int .i64 ((xs.getD i 0 : Nat) : Int)) := hq
      have HQ := Lib.hid hq
      clear hq
      have hne : (0 : Int) ≤ (i : Int) + 1 := by omega
      have hle : (i : Int) + 1 ≤ (m : Int) := by omega
      have hcall : ∀ (LB : Option Addr) (n' kc : Nat) w, Below W.heap.size W w → (n' = 0 ∨ LB = some ⟨b, o + (i + 1), none⟩) → n' = m - (i + 1) → n' ≤ kc → CallsIn Fc 0 Tryz.prog 54 #[.slice LB n' kc] w (SaysLists (chs (xs.drop (i + 1))) w) := fun LB n' kc w hb hLB hn hkc => by
        subst hn
        refine hIH.out i _ _ w hlt hkc fun k hk => ?_
        obtain ⟨b', o', e, q⟩ := hi.out (i + 1 + k) (by omega)
        cases e
        have q := Below.old hb q
        refine ⟨b, o + (i + 1), ?_, ?_⟩
        · rcases hLB with h | h
          · omega
          · exact h
        · simp only [List.getD_eq_getElem?_getD, List.getElem?_drop] at q ⊢
          rw [Nat.add_assoc o (i + 1) k]
          exact q
      have HCA := Lib.hid hcall
      clear hcall
      have hlen := chs_len (xs.drop (i + 1))
      have hpo : 2 ^ (xs.drop (i + 1)).length ≤ 256 := pow_le (by rw [List.length_drop]; omega)
      have hpos := Nat.two_pow_pos (xs.drop (i + 1)).length
      rw [← hlen] at hpo hpos
      clear hlen
      have hpk : ∀ k, k < (chs (xs.drop (i + 1))).length → preK xs i (k + 1) = preK xs i k ++ [xs.getD i 0 :: (chs (xs.drop (i + 1))).getD k []] := fun k hk => preK_next hk
      have hp0 := preK_zero xs i
      have hpa := preK_all xs i
      have hpl : ∀ k, k < (chs (xs.drop (i + 1))).length → (preK xs i k).length ≤ 256 := fun k hk => by
        have h1 := pre_len (l := xs) (i := i + 1) (by omega)
        have h2 : (preK xs i k).length ≤ (pre xs (i + 1)).length := by
          simp only [preK, pre, List.length_append, List.length_map, List.length_take]
          omega
        have h3 := pow_le (n := xs.length) (by omega)
        omega
      have hx8 : ∀ k, k < (chs (xs.drop (i + 1))).length → ((chs (xs.drop (i + 1))).getD k []).length ≤ 8 := fun k hk => by
        have h1 := (chs_sub hk).length_le
        rw [List.length_drop] at h1
        omega
      rw [← hp0] at HLS
      have hnn : ∀ k, 0 < (preK xs i k).length := fun k => by
        have := pre_pos xs i
        simp only [preK, List.length_append]
        omega
      have HPK := Lib.hid (And.intro hpk (And.intro hpa (And.intro hpl (And.intro hx8 hnn))))
      clear hpk hpa hpl hx8 hnn hp0
      generalize preK xs i = PK at *
      generalize chs (xs.drop (i + 1)) = LR at *
      obtain ⟨R, hR⟩ : ∃ R, LR.length = R := ⟨_, rfl⟩
      rw [hR] at hpo hpos HPK
      obtain ⟨li, hli⟩ : ∃ li, xs.getD i 0 = li := ⟨_, rfl⟩
      rw [hli] at HPK HQ
      have HR := Lib.hid hR
      clear hR hli
      rcases Classical.em (lc = i + 1) with hcap | hcap
      all_goals try subst hcap
      all_goals gi_wp2_with (gi_at_call 54; refine (HCA.out _ _ _ wr HB.out (by first | exact .inr rfl | (left; omega)) (by omega) (by omega)).mono ?_; rintro e w2 ⟨vr, rfl, hlr, hb2⟩; have HLR := Lib.hid hlr; have HB2 := Lib.hid hb2; clear hlr hb2)
      · skip
        obtain ⟨sz, hsz⟩ : ∃ sz, wr.heap.size = sz := ⟨_, rfl⟩
        obtain ⟨vsr, hro, hre⟩ := HLR.out
        rw [HR.out, hsz] at hro
        rw [HR.out] at hre
        simp only [hsz] at hre
        have hWs := HB.out.size
        rw [hsz] at hWs
        have HSZ := Lib.hid hsz
        clear hsz
        obtain ⟨gr, rc, rfl⟩ := own_shape hro (by omega)
        have hgr := hro.lt gr rfl
        have hrc : R ≤ rc := by
          rcases hro.2 with ⟨_, e⟩ | ⟨g, cap, cur, e, _, _, q, _⟩
          · omega
          · cases e; exact q
        have HRO := Lib.hid hro
        have HRE := Lib.hid hre
        clear hro hre HLR
        gi_loopw [3, 6] (fun sl y wr3 => ∃ k : Nat, k ≤ R ∧ y = .int .i64 k ∧ ListsAt wr3 W.heap.size sl (PK k) ∧ wr3.ownsRow sz 36 1 (.slice (some ⟨gr, 0, none⟩) R rc) R vsr ∧ (∀ k, k < R → ListAt wr3 sz (vsr.getD k undef) (LR.getD k [])) ∧ sl.ownBlock ≠ some gr ∧ Below W.heap.size W wr3) (fun _ y _ => R - (intOf y).toNat)
        case atStart =>
          refine ⟨0, by omega, rfl, HLS.out.below HB2.out, HRO.out, HRE.out, fun e => ?_, HB.out.trans (HB2.out.mono HB.out.size)⟩
          obtain ⟨vs, h1, _⟩ := HLS.out
          have h5 := (h1.lt gr e).2
          have h6 := HSZ.out
          omega
        case round =>
          obtain ⟨k, hk, rfl, hls, hro, hre, hne, hb⟩ := hrel
          obtain ⟨vs, hvo, hve⟩ := hls
          have HB3 := Lib.hid hb
          clear hb HLS HB HB2 HRO HRE
          by_cases hkR : k < R
          · have hcell : ∃ LB mk ck x, LR.getD k [] = x ∧ vsr.getD k undef = .slice LB mk ck ∧ ListAt wr sz (.slice LB mk ck) x ∧ x.length = mk := by
              obtain ⟨LB, ck, e, _, _⟩ := (hre k hkR).shape
              exact ⟨LB, _, ck, _, rfl, e, e ▸ hre k hkR, rfl⟩
            obtain ⟨LB, mk, ck, x, hx, hu, hla, hxl⟩ := hcell
            have hmk8 : mk ≤ 8 := by rw [← hxl, ← hx]; exact HPK.out.2.2.2.1 k hkR
            have hN := HPK.out.2.2.1 k hkR
            have hN0 := HPK.out.2.2.2.2 k
            obtain ⟨N, hNe⟩ : ∃ N, (PK k).length = N := ⟨_, rfl⟩
            rw [hNe] at hvo hN hN0
            obtain ⟨go, oc, rfl⟩ := own_shape hvo (by omega)
            have hgo := hvo.lt go rfl
            have hgr2 := (hro.lt gr rfl).2
            have hgn : go ≠ gr := fun e => hne (by rw [e]; rfl)
            have hgo36 : ∀ g, some go = some g → ∃ c t fz, wr.heap[g]? = some (.cells c t fz) ∧ t = 36 := fun g e => own_elem hvo g e
            have hcr : wr.cell? ⟨gr, k, none⟩ = some (.slice LB mk ck) := by
              have h1 := hro.1
              rw [hro.cellAt k (by omega), ← hu]
              simp [List.getD_eq_getElem?_getD, show k < vsr.length by omega]
            have HVO := Lib.hid hvo
            have HCR := Lib.hid hcr
            gi_wp2
            refine wpIn_region_H (R := [.val 25 (.slice (some ⟨go, 0, none⟩) N oc), .val 26 (.slice (some ⟨b, o, none⟩) m (i + 1)), .val 27 (.int .i64 (i : Int)), .val 28 (.pointer (some ⟨b, o + i, none⟩)), .val 29 (.int .i64 (li : Nat)), .any 30, .val 31 (.slice (some ⟨gr, 0, none⟩) R rc), .val 32 (.int .i64 (k : Int)), .val 33 (.pointer (some ⟨gr, k, none⟩)), .val 34 (.slice LB mk ck), .any 35, .any 36, .any 37, .any 3])
              (I := fun L V w => wr.grownBy w (some go) ∧ (L 12 = false → w.ownsRow W.heap.size 36 1 (.slice (some ⟨go, 0, none⟩) N oc) N vs) ∧ (L 5 = true → L 10 = false → w.ownsRow wr.heap.size 3 1 (V 5) 1 [intV li]) ∧ (L 10 = true → ListAt w wr.heap.size (V 10) (li :: x)) ∧ (L 11 = true → L 12 = false → w.ownsRow wr.heap.size 36 1 (V 11) 1 [V 10] ∧ (V 10).oneCell' = true) ∧ (L 12 = true → w.ownsRow W.heap.size 36 1 (V 12) (N + 1) (vs ++ [V 10]) ∧ (V 12).ownBlock ≠ some gr) ∧ (L 13 = false → V 13 = .slice (some ⟨go, 0, none⟩) N oc) ∧ (L 13 = true → V 13 = V 12)) (z := 39) (by kernel_rfl) (by kernel_rfl) rfl (by kernel_rfl) rfl rfl ⟨⟨rfl, rfl, rfl, Nat.le_refl _, fun _ _ _ => rfl⟩, fun _ => HVO.out, fun h => (by cases h), fun h => (by cases h), fun h => (by cases h), fun h => (by cases h), fun _ => rfl, fun h => (by cases h)⟩ ?_ ?_
            · intro j L V a w hj hno hdep hah hd hz hold hv hV hI
              have HI := Lib.hid hI
              have s0 := at_slot hz (hold 0 (by kernel_rfl)) (by omega)
              have s4 := at_slot hz (hold 4 (by kernel_rfl)) (by omega)
              have s5 := at_slot hz (hold 5 (by kernel_rfl)) (by omega)
              have s6 := at_slot hz (hold 6 (by kernel_rfl)) (by omega)
              clear hold
              have hjs : j = 0 ∨ j = 1 ∨ j = 2 ∨ j = 3 ∨ j = 4 ∨ j = 5 ∨ j = 6 ∨ j = 7 ∨ j = 8 ∨ j = 9 ∨ j = 10 ∨ j = 11 ∨ j = 12 ∨ j = 13 := by have : j < 14 := hj; omega
              rcases hjs with rfl | rfl | rfl | rfl | rfl | rfl | rfl | rfl | rfl | rfl | rfl | rfl | rfl | rfl
              · have h13 := hah 13 (by kernel_rfl) rfl
                have f3 := at_slot hz (hV 13 3 rfl) (by omega)
                rw [HI.out.2.2.2.2.2.2.1 h13] at f3
                clear hdep hah hv hV hno hI
                refine wpOpIn_step rfl fun K hK => ?_
                go_simp
                exact hK _ _ ⟨rfl, rfl, HI.out⟩
              · clear hdep hah hv hV hno hI
                refine wpOpIn_step rfl fun K hK => ?_
                go_simp
                exact hK _ _ ⟨rfl, rfl, HI.out⟩
              · clear hdep hah hv hV hno hI
                refine wpOpIn_step rfl fun K hK => ?_
                go_simp
                exact hK _ _ ⟨rfl, rfl, HI.out⟩
              · have f26 := at_slot hz (hv 1 26 _ (by kernel_rfl) rfl) (by omega)
                have f27 := at_slot hz (hv 2 27 _ (by kernel_rfl) rfl) (by omega)
                have h9 := hlt
                clear hdep hah hv hV hno hI
                refine wpOpIn_step rfl fun K hK => ?_
                go_simp
                exact hK _ _ ⟨rfl, rfl, HI.out⟩
              · have f28 := at_slot hz (hv 3 28 _ (by kernel_rfl) rfl) (by omega)
                have hbW : Below W.heap.size W w := HB3.out.grown HI.out.1 HB3.out.size (fun g e => by cases e; exact hgo.1)
                have q0 := Below.old hbW HQ.out
                clear hdep hah hv hV hno hI
                refine wpOpIn_step rfl fun K hK => ?_
                go_simp
                exact hK _ _ ⟨rfl, rfl, HI.out⟩
              · have f29 := at_slot hz (hv 4 29 _ (by kernel_rfl) rfl) (by omega)
                have h10 := hah 10 (by kernel_rfl) rfl
                have h11 := hah 11 (by kernel_rfl) rfl
                have h12 := hah 12 (by kernel_rfl) rfl
                clear hdep hah hv hV hno hI
                refine wpOpIn_step rfl fun K hK => ?_
                go_simp
                exact hK _ _ ⟨rfl, _, rfl, ⟨kept_below HI.out.1 ((Below.refl _ _).alloc (Nat.le_refl _) _), fun h => ownsRow_alloc (HI.out.2.1 h) _, fun _ _ => World.ownsRow_lit w #[intV li] 1 HI.out.1.size (by simp [maxLen]) rfl, fun h => absurd h (by show ¬ L 10 = true; rw [h10]; simp), fun h => absurd h (by show ¬ L 11 = true; rw [h11]; simp), fun h => absurd h (by show ¬ L 12 = true; rw [h12]; simp), HI.out.2.2.2.2.2.2.1, HI.out.2.2.2.2.2.2.2⟩⟩
              · clear hdep hah hv hV hno hI
                refine wpOpIn_step rfl fun K hK => ?_
                go_simp
                exact hK _ _ ⟨rfl, rfl, HI.out⟩
              · clear hdep hah hv hV hno hI
                refine wpOpIn_step rfl fun K hK => ?_
                go_simp
                exact hK _ _ ⟨rfl, rfl, HI.out⟩
              · have f31 := at_slot hz (hv 6 31 _ (by kernel_rfl) rfl) (by omega)
                have f32 := at_slot hz (hv 7 32 _ (by kernel_rfl) rfl) (by omega)
                have h9 := hkR
                clear hdep hah hv hV hno hI
                refine wpOpIn_step rfl fun K hK => ?_
                go_simp
                exact hK _ _ ⟨rfl, rfl, HI.out⟩
              · have f33 := at_slot hz (hv 8 33 _ (by kernel_rfl) rfl) (by omega)
                have q0 : w.cell? ⟨gr, k, none⟩ = some (.slice LB mk ck) := HI.out.1.cell hcr (fun e => hgn (Option.some.inj e).symm)
                clear hdep hah hv hV hno hI
                refine wpOpIn_step rfl fun K hK => ?_
                go_simp
                exact hK _ _ ⟨rfl, rfl, HI.out⟩
              · have k5 := hdep 5 (by kernel_rfl) rfl
                have f30 := at_slot hz (hV 5 30 rfl) (by omega)
                have f34 := at_slot hz (hv 9 34 _ (by kernel_rfl) rfl) (by omega)
                have h11 := hah 11 (by kernel_rfl) rfl
                have h12 := hah 12 (by kernel_rfl) rfl
                have h13 := hah 13 (by kernel_rfl) rfl
                have h10 : L 10 = false := hno rfl
                have ho := HI.out.2.2.1 k5 h10
                have hla2 := hla.grown HI.out.1 hgo36
                refine wpOpIn_appendRow rfl rfl _ _ 36 rfl wr.heap.size 3 i0 (.int .i64 0) 1 8 ut30 HI0.out HZ0.out HZ1.out HZ2.out rfl (by decide) (V 5) 1 [intV li] (hV 5 30 rfl) ho (.slice LB mk ck) sz mk (x.map intV) (hv 9 34 _ (by kernel_rfl) rfl) (by have h7 : w.ownsRow sz 3 1 (.slice LB mk ck) x.length (x.map intV) := hla2; rw [hxl] at h7; exact h7) (by simp [Value.oneCell']) (by simp [maxLen]; omega) (by omega) HI.out.1.size ?_
                intro v' w' ho' hg' _
                have hlo := fun g (hg : (V 5).ownBlock = some g) => (ho.lt g hg).1
                exact ⟨hd, _, rfl, kept_grown HI.out.1 hg' hlo, fun h => (HI.out.2.1 h).kept hg' (.inr fun e => by have h5 := hlo go e.symm; have h6 := hgo.2; omega), fun _ h => (by cases h), fun _ => (by show w'.ownsRow _ 3 1 v' (li :: x).length _; rw [List.length_cons, hxl, Nat.add_comm mk 1]; exact ho'), fun h => absurd h (by show ¬ L 11 = true; rw [h11]; simp), fun h => absurd h (by show ¬ L 12 = true; rw [h12]; simp), HI.out.2.2.2.2.2.2.1, HI.out.2.2.2.2.2.2.2⟩
              · have k10 := hdep 10 (by kernel_rfl) rfl
                have f35 := at_slot hz (hV 10 35 rfl) (by omega)
                have h12 := hah 12 (by kernel_rfl) rfl
                obtain ⟨LA', lc', e10, _, _⟩ := (HI.out.2.2.2.1 k10).shape
                rw [List.length_cons, hxl] at e10
                rw [e10] at f35
                clear hdep hah hv hV hno hI
                refine wpOpIn_step rfl fun K hK => ?_
                go_simp
                exact hK _ _ ⟨rfl, _, rfl, ⟨kept_below HI.out.1 ((Below.refl _ _).alloc (Nat.le_refl _) _), fun h => ownsRow_alloc (HI.out.2.1 h) _, fun h h' => ownsRow_alloc (HI.out.2.2.1 h h') _, fun h => (HI.out.2.2.2.1 h).below ((Below.refl _ _).alloc (Nat.le_refl _) _), fun _ _ => (by show World.ownsRow _ _ _ _ _ _ [V 10] ∧ (V 10).oneCell' = true; rw [e10]; exact ⟨World.ownsRow_lit w #[_] 1 HI.out.1.size (by simp [maxLen]) rfl, rfl⟩), fun h => absurd h (by show ¬ L 12 = true; rw [h12]; simp), HI.out.2.2.2.2.2.2.1, HI.out.2.2.2.2.2.2.2⟩⟩
              · have f25 := at_slot hz (hv 0 25 _ (by kernel_rfl) rfl) (by omega)
                have k11 := hdep 11 (by kernel_rfl) rfl
                have f36 := at_slot hz (hV 11 36 rfl) (by omega)
                have h13 := hah 13 (by kernel_rfl) rfl
                have h12 : L 12 = false := hno rfl
                have ho := HI.out.2.1 h12
                obtain ⟨hrow, hone⟩ := HI.out.2.2.2.2.1 k11 h12
                refine wpOpIn_appendRow rfl rfl _ _ 75 rfl W.heap.size 36 j0 (.slice none 0 0) 1 24 ut75 HJ0.out HY0.out HY1.out HY2.out rfl (by decide) (.slice (some ⟨go, 0, none⟩) N oc) N vs (hv 0 25 _ (by kernel_rfl) rfl) ho (V 11) wr.heap.size 1 [V 10] (hV 11 36 rfl) hrow (by simpa using hone) (by simp [maxLen]; omega) (by omega) (Nat.le_trans HB3.out.size HI.out.1.size) ?_
                intro v' w' ho' hg' hob
                exact ⟨hd, _, rfl, ⟨hg'.os.trans HI.out.1.os, hg'.tape.trans HI.out.1.tape, hg'.output.trans HI.out.1.output, Nat.le_trans HI.out.1.size hg'.size, fun p hp hne => (hg'.block p (Nat.lt_of_lt_of_le hp HI.out.1.size) hne).trans (HI.out.1.block p hp hne)⟩, fun h => (by cases h), fun h h' => (HI.out.2.2.1 h h').kept hg' (.inr fun e => by have h5 := ((HI.out.2.2.1 h h').lt go e).1; have h6 := hgo.2; omega), fun h => (HI.out.2.2.2.1 h).grown hg' (fun g e => own_elem ho g e), fun _ h => (by cases h), fun _ => ⟨ho', fun e => (by rcases hob with h | h; (exact hgn (Option.some.inj (h.symm.trans e))); (have h5 := Option.some.inj (h.symm.trans e); have h6 := HI.out.1.size; omega))⟩, HI.out.2.2.2.2.2.2.1, fun h => absurd h (by show ¬ L 13 = true; rw [h13]; simp)⟩
              · have k12 := hdep 12 (by kernel_rfl) rfl
                have f37 := at_slot hz (hV 12 37 rfl) (by omega)
                clear hdep hah hv hV hno hI
                refine wpOpIn_step rfl fun K hK => ?_
                go_simp
                exact hK _ _ ⟨rfl, _, rfl, ⟨HI.out.1, HI.out.2.1, HI.out.2.2.1, HI.out.2.2.2.1, HI.out.2.2.2.2.1, HI.out.2.2.2.2.2.1, fun h => (by cases h), fun _ => rfl⟩⟩
            · intro L V w5 hL hI
              have e13 := hI.2.2.2.2.2.2.2 (hL 13 rfl)
              obtain ⟨hF, hFn⟩ := hI.2.2.2.2.2.1 (hL 12 rfl)
              have hD := hI.2.2.2.1 (hL 10 rfl)
              have hA := hI.1
              rw [← e13] at hF hFn
              clear hI
              have hnew : ListsAt w5 W.heap.size (V 13) (PK (k + 1)) := by
                rw [HPK.out.1 k hkR, hx]
                exact ListsAt.more (vs := vs) (by rw [hNe]; exact hF) (by rw [hNe]; have := HVO.out.1; omega) (fun k' hk' => (hve k' hk').grown hA hgo36) (hD.mono HB3.out.size)
              have hro5 := hro.kept hA (.inr fun e => hgn (Option.some.inj e).symm)
              have hre5 := fun k hk => (hre k hk).grown hA hgo36
              have hb5 := HB3.out.grown hA HB3.out.size (fun g e => by cases e; exact hgo.1)
              simp only [outsG, List.foldl_cons, List.foldl_nil, List.setIfInBounds_toArray, List.set_cons_succ, List.set_cons_zero]
              generalize V 13 = v13 at *
              generalize V 12 = v12
              generalize V 11 = v11
              generalize V 10 = v10
              generalize V 5 = v5
              have HN1 := Lib.hid hnew
              have HN2 := Lib.hid hro5
              have HN3 := Lib.hid hre5
              have HN4 := Lib.hid hb5
              have HN5 := Lib.hid hFn
              clear hnew hro5 hre5 hb5 hF hFn hD hA e13 hL hcr hgo36 hgn
              gi_wp2
              go_roundw
              case rel => exact ⟨k + 1, by omega, by go_num, HN1.out, HN2.out, HN3.out, HN5.out, HN4.out⟩
              case measure => simp [intOf]; omega
          · obtain rfl : k = R := by omega
            gi_wp2
            go_roundw
            case rel =>
              refine ⟨i + 1, by omega, by go_num, ?_, HB3.out⟩
              rw [← HPK.out.2.1]
              exact ⟨vs, hvo, hve⟩
            case measure => simp [intOf]; omega
      · skip
        obtain ⟨sz, hsz⟩ : ∃ sz, wr.heap.size = sz := ⟨_, rfl⟩
        obtain ⟨vsr, hro, hre⟩ := HLR.out
        rw [HR.out, hsz] at hro
        rw [HR.out] at hre
        simp only [hsz] at hre
        have hWs := HB.out.size
        rw [hsz] at hWs
        have HSZ := Lib.hid hsz
        clear hsz
        obtain ⟨gr, rc, rfl⟩ := own_shape hro (by omega)
        have hgr := hro.lt gr rfl
        have hrc : R ≤ rc := by
          rcases hro.2 with ⟨_, e⟩ | ⟨g, cap, cur, e, _, _, q, _⟩
          · omega
          · cases e; exact q
        have HRO := Lib.hid hro
        have HRE := Lib.hid hre
        clear hro hre HLR
        gi_loopw [3, 6] (fun sl y wr3 => ∃ k : Nat, k ≤ R ∧ y = .int .i64 k ∧ ListsAt wr3 W.heap.size sl (PK k) ∧ wr3.ownsRow sz 36 1 (.slice (some ⟨gr, 0, none⟩) R rc) R vsr ∧ (∀ k, k < R → ListAt wr3 sz (vsr.getD k undef) (LR.getD k [])) ∧ sl.ownBlock ≠ some gr ∧ Below W.heap.size W wr3) (fun _ y _ => R - (intOf y).toNat)
        case atStart =>
          refine ⟨0, by omega, rfl, HLS.out.below HB2.out, HRO.out, HRE.out, fun e => ?_, HB.out.trans (HB2.out.mono HB.out.size)⟩
          obtain ⟨vs, h1, _⟩ := HLS.out
          have h5 := (h1.lt gr e).2
          have h6 := HSZ.out
          omega
        case round =>
          obtain ⟨k, hk, rfl, hls, hro, hre, hne, hb⟩ := hrel
          obtain ⟨vs, hvo, hve⟩ := hls
          have HB3 := Lib.hid hb
          clear hb HLS HB HB2 HRO HRE
          by_cases hkR : k < R
          · have hcell : ∃ LB mk ck x, LR.getD k [] = x ∧ vsr.getD k undef = .slice LB mk ck ∧ ListAt wr sz (.slice LB mk ck) x ∧ x.length = mk := by
              obtain ⟨LB, ck, e, _, _⟩ := (hre k hkR).shape
              exact ⟨LB, _, ck, _, rfl, e, e ▸ hre k hkR, rfl⟩
            obtain ⟨LB, mk, ck, x, hx, hu, hla, hxl⟩ := hcell
            have hmk8 : mk ≤ 8 := by rw [← hxl, ← hx]; exact HPK.out.2.2.2.1 k hkR
            have hN := HPK.out.2.2.1 k hkR
            have hN0 := HPK.out.2.2.2.2 k
            obtain ⟨N, hNe⟩ : ∃ N, (PK k).length = N := ⟨_, rfl⟩
            rw [hNe] at hvo hN hN0
            obtain ⟨go, oc, rfl⟩ := own_shape hvo (by omega)
            have hgo := hvo.lt go rfl
            have hgr2 := (hro.lt gr rfl).2
            have hgn : go ≠ gr := fun e => hne (by rw [e]; rfl)
            have hgo36 : ∀ g, some go = some g → ∃ c t fz, wr.heap[g]? = some (.cells c t fz) ∧ t = 36 := fun g e => own_elem hvo g e
            have hcr : wr.cell? ⟨gr, k, none⟩ = some (.slice LB mk ck) := by
              have h1 := hro.1
              rw [hro.cellAt k (by omega), ← hu]
              simp [List.getD_eq_getElem?_getD, show k < vsr.length by omega]
            have HVO := Lib.hid hvo
            have HCR := Lib.hid hcr
            gi_wp2
            refine wpIn_region_H (R := [.val 25 (.slice (some ⟨go, 0, none⟩) N oc), .val 26 (.slice (some ⟨b, o, none⟩) m lc), .val 27 (.int .i64 (i : Int)), .val 28 (.pointer (some ⟨b, o + i, none⟩)), .val 29 (.int .i64 (li : Nat)), .any 30, .val 31 (.slice (some ⟨gr, 0, none⟩) R rc), .val 32 (.int .i64 (k : Int)), .val 33 (.pointer (some ⟨gr, k, none⟩)), .val 34 (.slice LB mk ck), .any 35, .any 36, .any 37, .any 3])
              (I := fun L V w => wr.grownBy w (some go) ∧ (L 12 = false → w.ownsRow W.heap.size 36 1 (.slice (some ⟨go, 0, none⟩) N oc) N vs) ∧ (L 5 = true → L 10 = false → w.ownsRow wr.heap.size 3 1 (V 5) 1 [intV li]) ∧ (L 10 = true → ListAt w wr.heap.size (V 10) (li :: x)) ∧ (L 11 = true → L 12 = false → w.ownsRow wr.heap.size 36 1 (V 11) 1 [V 10] ∧ (V 10).oneCell' = true) ∧ (L 12 = true → w.ownsRow W.heap.size 36 1 (V 12) (N + 1) (vs ++ [V 10]) ∧ (V 12).ownBlock ≠ some gr) ∧ (L 13 = false → V 13 = .slice (some ⟨go, 0, none⟩) N oc) ∧ (L 13 = true → V 13 = V 12)) (z := 39) (by kernel_rfl) (by kernel_rfl) rfl (by kernel_rfl) rfl rfl ⟨⟨rfl, rfl, rfl, Nat.le_refl _, fun _ _ _ => rfl⟩, fun _ => HVO.out, fun h => (by cases h), fun h => (by cases h), fun h => (by cases h), fun h => (by cases h), fun _ => rfl, fun h => (by cases h)⟩ ?_ ?_
            · intro j L V a w hj hno hdep hah hd hz hold hv hV hI
              have HI := Lib.hid hI
              have s0 := at_slot hz (hold 0 (by kernel_rfl)) (by omega)
              have s4 := at_slot hz (hold 4 (by kernel_rfl)) (by omega)
              have s5 := at_slot hz (hold 5 (by kernel_rfl)) (by omega)
              have s6 := at_slot hz (hold 6 (by kernel_rfl)) (by omega)
              clear hold
              have hjs : j = 0 ∨ j = 1 ∨ j = 2 ∨ j = 3 ∨ j = 4 ∨ j = 5 ∨ j = 6 ∨ j = 7 ∨ j = 8 ∨ j = 9 ∨ j = 10 ∨ j = 11 ∨ j = 12 ∨ j = 13 := by have : j < 14 := hj; omega
              rcases hjs with rfl | rfl | rfl | rfl | rfl | rfl | rfl | rfl | rfl | rfl | rfl | rfl | rfl | rfl
              · have h13 := hah 13 (by kernel_rfl) rfl
                have f3 := at_slot hz (hV 13 3 rfl) (by omega)
                rw [HI.out.2.2.2.2.2.2.1 h13] at f3
                clear hdep hah hv hV hno hI
                refine wpOpIn_step rfl fun K hK => ?_
                go_simp
                exact hK _ _ ⟨rfl, rfl, HI.out⟩
              · clear hdep hah hv hV hno hI
                refine wpOpIn_step rfl fun K hK => ?_
                go_simp
                exact hK _ _ ⟨rfl, rfl, HI.out⟩
              · clear hdep hah hv hV hno hI
                refine wpOpIn_step rfl fun K hK => ?_
                go_simp
                exact hK _ _ ⟨rfl, rfl, HI.out⟩
              · have f26 := at_slot hz (hv 1 26 _ (by kernel_rfl) rfl) (by omega)
                have f27 := at_slot hz (hv 2 27 _ (by kernel_rfl) rfl) (by omega)
                have h9 := hlt
                clear hdep hah hv hV hno hI
                refine wpOpIn_step rfl fun K hK => ?_
                go_simp
                exact hK _ _ ⟨rfl, rfl, HI.out⟩
              · have f28 := at_slot hz (hv 3 28 _ (by kernel_rfl) rfl) (by omega)
                have hbW : Below W.heap.size W w := HB3.out.grown HI.out.1 HB3.out.size (fun g e => by cases e; exact hgo.1)
                have q0 := Below.old hbW HQ.out
                clear hdep hah hv hV hno hI
                refine wpOpIn_step rfl fun K hK => ?_
                go_simp
                exact hK _ _ ⟨rfl, rfl, HI.out⟩
              · have f29 := at_slot hz (hv 4 29 _ (by kernel_rfl) rfl) (by omega)
                have h10 := hah 10 (by kernel_rfl) rfl
                have h11 := hah 11 (by kernel_rfl) rfl
                have h12 := hah 12 (by kernel_rfl) rfl
                clear hdep hah hv hV hno hI
                refine wpOpIn_step rfl fun K hK => ?_
                go_simp
                exact hK _ _ ⟨rfl, _, rfl, ⟨kept_below HI.out.1 ((Below.refl _ _).alloc (Nat.le_refl _) _), fun h => ownsRow_alloc (HI.out.2.1 h) _, fun _ _ => World.ownsRow_lit w #[intV li] 1 HI.out.1.size (by simp [maxLen]) rfl, fun h => absurd h (by show ¬ L 10 = true; rw [h10]; simp), fun h => absurd h (by show ¬ L 11 = true; rw [h11]; simp), fun h => absurd h (by show ¬ L 12 = true; rw [h12]; simp), HI.out.2.2.2.2.2.2.1, HI.out.2.2.2.2.2.2.2⟩⟩
              · clear hdep hah hv hV hno hI
                refine wpOpIn_step rfl fun K hK => ?_
                go_simp
                exact hK _ _ ⟨rfl, rfl, HI.out⟩
              · clear hdep hah hv hV hno hI
                refine wpOpIn_step rfl fun K hK => ?_
                go_simp
                exact hK _ _ ⟨rfl, rfl, HI.out⟩
              · have f31 := at_slot hz (hv 6 31 _ (by kernel_rfl) rfl) (by omega)
                have f32 := at_slot hz (hv 7 32 _ (by kernel_rfl) rfl) (by omega)
                have h9 := hkR
                clear hdep hah hv hV hno hI
                refine wpOpIn_step rfl fun K hK => ?_
                go_simp
                exact hK _ _ ⟨rfl, rfl, HI.out⟩
              · have f33 := at_slot hz (hv 8 33 _ (by kernel_rfl) rfl) (by omega)
                have q0 : w.cell? ⟨gr, k, none⟩ = some (.slice LB mk ck) := HI.out.1.cell hcr (fun e => hgn (Option.some.inj e).symm)
                clear hdep hah hv hV hno hI
                refine wpOpIn_step rfl fun K hK => ?_
                go_simp
                exact hK _ _ ⟨rfl, rfl, HI.out⟩
              · have k5 := hdep 5 (by kernel_rfl) rfl
                have f30 := at_slot hz (hV 5 30 rfl) (by omega)
                have f34 := at_slot hz (hv 9 34 _ (by kernel_rfl) rfl) (by omega)
                have h11 := hah 11 (by kernel_rfl) rfl
                have h12 := hah 12 (by kernel_rfl) rfl
                have h13 := hah 13 (by kernel_rfl) rfl
                have h10 : L 10 = false := hno rfl
                have ho := HI.out.2.2.1 k5 h10
                have hla2 := hla.grown HI.out.1 hgo36
                refine wpOpIn_appendRow rfl rfl _ _ 36 rfl wr.heap.size 3 i0 (.int .i64 0) 1 8 ut30 HI0.out HZ0.out HZ1.out HZ2.out rfl (by decide) (V 5) 1 [intV li] (hV 5 30 rfl) ho (.slice LB mk ck) sz mk (x.map intV) (hv 9 34 _ (by kernel_rfl) rfl) (by have h7 : w.ownsRow sz 3 1 (.slice LB mk ck) x.length (x.map intV) := hla2; rw [hxl] at h7; exact h7) (by simp [Value.oneCell']) (by simp [maxLen]; omega) (by omega) HI.out.1.size ?_
                intro v' w' ho' hg' _
                have hlo := fun g (hg : (V 5).ownBlock = some g) => (ho.lt g hg).1
                exact ⟨hd, _, rfl, kept_grown HI.out.1 hg' hlo, fun h => (HI.out.2.1 h).kept hg' (.inr fun e => by have h5 := hlo go e.symm; have h6 := hgo.2; omega), fun _ h => (by cases h), fun _ => (by show w'.ownsRow _ 3 1 v' (li :: x).length _; rw [List.length_cons, hxl, Nat.add_comm mk 1]; exact ho'), fun h => absurd h (by show ¬ L 11 = true; rw [h11]; simp), fun h => absurd h (by show ¬ L 12 = true; rw [h12]; simp), HI.out.2.2.2.2.2.2.1, HI.out.2.2.2.2.2.2.2⟩
              · have k10 := hdep 10 (by kernel_rfl) rfl
                have f35 := at_slot hz (hV 10 35 rfl) (by omega)
                have h12 := hah 12 (by kernel_rfl) rfl
                obtain ⟨LA', lc', e10, _, _⟩ := (HI.out.2.2.2.1 k10).shape
                rw [List.length_cons, hxl] at e10
                rw [e10] at f35
                clear hdep hah hv hV hno hI
                refine wpOpIn_step rfl fun K hK => ?_
                go_simp
                exact hK _ _ ⟨rfl, _, rfl, ⟨kept_below HI.out.1 ((Below.refl _ _).alloc (Nat.le_refl _) _), fun h => ownsRow_alloc (HI.out.2.1 h) _, fun h h' => ownsRow_alloc (HI.out.2.2.1 h h') _, fun h => (HI.out.2.2.2.1 h).below ((Below.refl _ _).alloc (Nat.le_refl _) _), fun _ _ => (by show World.ownsRow _ _ _ _ _ _ [V 10] ∧ (V 10).oneCell' = true; rw [e10]; exact ⟨World.ownsRow_lit w #[_] 1 HI.out.1.size (by simp [maxLen]) rfl, rfl⟩), fun h => absurd h (by show ¬ L 12 = true; rw [h12]; simp), HI.out.2.2.2.2.2.2.1, HI.out.2.2.2.2.2.2.2⟩⟩
              · have f25 := at_slot hz (hv 0 25 _ (by kernel_rfl) rfl) (by omega)
                have k11 := hdep 11 (by kernel_rfl) rfl
                have f36 := at_slot hz (hV 11 36 rfl) (by omega)
                have h13 := hah 13 (by kernel_rfl) rfl
                have h12 : L 12 = false := hno rfl
                have ho := HI.out.2.1 h12
                obtain ⟨hrow, hone⟩ := HI.out.2.2.2.2.1 k11 h12
                refine wpOpIn_appendRow rfl rfl _ _ 75 rfl W.heap.size 36 j0 (.slice none 0 0) 1 24 ut75 HJ0.out HY0.out HY1.out HY2.out rfl (by decide) (.slice (some ⟨go, 0, none⟩) N oc) N vs (hv 0 25 _ (by kernel_rfl) rfl) ho (V 11) wr.heap.size 1 [V 10] (hV 11 36 rfl) hrow (by simpa using hone) (by simp [maxLen]; omega) (by omega) (Nat.le_trans HB3.out.size HI.out.1.size) ?_
                intro v' w' ho' hg' hob
                exact ⟨hd, _, rfl, ⟨hg'.os.trans HI.out.1.os, hg'.tape.trans HI.out.1.tape, hg'.output.trans HI.out.1.output, Nat.le_trans HI.out.1.size hg'.size, fun p hp hne => (hg'.block p (Nat.lt_of_lt_of_le hp HI.out.1.size) hne).trans (HI.out.1.block p hp hne)⟩, fun h => (by cases h), fun h h' => (HI.out.2.2.1 h h').kept hg' (.inr fun e => by have h5 := ((HI.out.2.2.1 h h').lt go e).1; have h6 := hgo.2; omega), fun h => (HI.out.2.2.2.1 h).grown hg' (fun g e => own_elem ho g e), fun _ h => (by cases h), fun _ => ⟨ho', fun e => (by rcases hob with h | h; (exact hgn (Option.some.inj (h.symm.trans e))); (have h5 := Option.some.inj (h.symm.trans e); have h6 := HI.out.1.size; omega))⟩, HI.out.2.2.2.2.2.2.1, fun h => absurd h (by show ¬ L 13 = true; rw [h13]; simp)⟩
              · have k12 := hdep 12 (by kernel_rfl) rfl
                have f37 := at_slot hz (hV 12 37 rfl) (by omega)
                clear hdep hah hv hV hno hI
                refine wpOpIn_step rfl fun K hK => ?_
                go_simp
                exact hK _ _ ⟨rfl, _, rfl, ⟨HI.out.1, HI.out.2.1, HI.out.2.2.1, HI.out.2.2.2.1, HI.out.2.2.2.2.1, HI.out.2.2.2.2.2.1, fun h => (by cases h), fun _ => rfl⟩⟩
            · intro L V w5 hL hI
              have e13 := hI.2.2.2.2.2.2.2 (hL 13 rfl)
              obtain ⟨hF, hFn⟩ := hI.2.2.2.2.2.1 (hL 12 rfl)
              have hD := hI.2.2.2.1 (hL 10 rfl)
              have hA := hI.1
              rw [← e13] at hF hFn
              clear hI
              have hnew : ListsAt w5 W.heap.size (V 13) (PK (k + 1)) := by
                rw [HPK.out.1 k hkR, hx]
                exact ListsAt.more (vs := vs) (by rw [hNe]; exact hF) (by rw [hNe]; have := HVO.out.1; omega) (fun k' hk' => (hve k' hk').grown hA hgo36) (hD.mono HB3.out.size)
              have hro5 := hro.kept hA (.inr fun e => hgn (Option.some.inj e).symm)
              have hre5 := fun k hk => (hre k hk).grown hA hgo36
              have hb5 := HB3.out.grown hA HB3.out.size (fun g e => by cases e; exact hgo.1)
              simp only [outsG, List.foldl_cons, List.foldl_nil, List.setIfInBounds_toArray, List.set_cons_succ, List.set_cons_zero]
              generalize V 13 = v13 at *
              generalize V 12 = v12
              generalize V 11 = v11
              generalize V 10 = v10
              generalize V 5 = v5
              have HN1 := Lib.hid hnew
              have HN2 := Lib.hid hro5
              have HN3 := Lib.hid hre5
              have HN4 := Lib.hid hb5
              have HN5 := Lib.hid hFn
              clear hnew hro5 hre5 hb5 hF hFn hD hA e13 hL hcr hgo36 hgn
              gi_wp2
              go_roundw
              case rel => exact ⟨k + 1, by omega, by go_num, HN1.out, HN2.out, HN3.out, HN5.out, HN4.out⟩
              case measure => simp [intOf]; omega
          · obtain rfl : k = R := by omega
            gi_wp2
            go_roundw
            case rel =>
              refine ⟨i + 1, by omega, by go_num, ?_, HB3.out⟩
              rw [← HPK.out.2.1]
              exact ⟨vs, hvo, hve⟩
            case measure => simp [intOf]; omega
    · obtain rfl : i = m := by omega
      gi_wp2
      go_ret
      exact ⟨_, rfl, by have h1 := HLS.out; rw [← hm, pre_all] at h1; exact h1, HB.out⟩
theorem Choices_any (m : Nat) : ∀ xs : List Nat, xs.length = m → m ≤ 8 → ∀ (LA : Option Addr) (lc : Nat) (W : World), m ≤ lc → IntsAt W LA m (fun k => ((xs.getD k 0 : Nat) : Int)) → CallsIn Fc 0 Tryz.prog 54 #[.slice LA m lc] W (SaysLists (chs xs) W) := by
  induction m using Nat.strongRecOn with
  | ind m ih =>
    intro xs hm hm8 LA lc W hlc hi
    exact choices_step xs m hm hm8 LA lc hlc W (Lib.hid hi) (Lib.hid fun i LB kc w hlt hkc h => ih (m - (i + 1)) (by omega) (xs.drop (i + 1)) (by rw [List.length_drop, hm]) (by omega) LB kc w hkc h)
end Go.Proofs.YtlabfeofejemjaaGreat
end
section
namespace Go.Proofs.YtlabfeofejemjaaGreat
open Go.RowKit
theorem lng_yes {P : List Nat → Prop} {L : List (List Nat)} {i : Nat} (h1 : (lng P L i).length < (L.getD i []).length) (h2 : P (L.getD i [])) : lng P L (i + 1) = L.getD i [] := by rw [lng]; exact if_pos ⟨h1, h2⟩
theorem lng_no {P : List Nat → Prop} {L : List (List Nat)} {i : Nat} (h : ¬ ((lng P L i).length < (L.getD i []).length ∧ P (L.getD i []))) : lng P L (i + 1) = lng P L i := by rw [lng]; exact if_neg h
theorem ListsAt.at {w : World} {base g c R k : Nat} {L : List (List Nat)} {vs : List Value} (ho : w.ownsRow base 36 1 (.slice (some ⟨g, 0, none⟩) R c) R vs) (he : ∀ k, k < R → ListAt w base (vs.getD k undef) (L.getD k [])) (hk : k < R) :
    ∃ LB ck, w.cell? ⟨g, k, none⟩ = some (.slice LB (L.getD k []).length ck) ∧ (L.getD k []).length ≤ ck ∧ IntsAt w LB (L.getD k []).length (fun j => (((L.getD k []).getD j 0 : Nat) : Int)) := by
  obtain ⟨LB, ck, e, h1, h2⟩ := (he k hk).shape
  refine ⟨LB, ck, ?_, h1, h2⟩
  have h3 := ho.1
  rw [ho.cellAt k (by omega), ← e]
  simp [List.getD_eq_getElem?_getD, show k < vs.length by omega]
def BestAt (w : World) (v : Value) (x : List Nat) : Prop := ∃ LB kc, v = .slice LB x.length kc ∧ x.length ≤ kc ∧ IntsAt w LB x.length (fun j => ((x.getD j 0 : Nat) : Int))
theorem BestAt.below {w w' : World} {v : Value} {x : List Nat} (h : BestAt w v x) (hb : Below w.heap.size w w') : BestAt w' v x := by
  obtain ⟨LB, kc, h1, h2, h3⟩ := h
  exact ⟨LB, kc, h1, h2, h3.below hb⟩
theorem RefTrust_any (r : Rl) (A : Option Addr) (n c : Nat) (sh : Nat → Sh) (W : World) (hn : n ≤ 20) (hc : n ≤ c) (hsh : Hid (ShotsAt W A n sh)) : CallsIn Fc 0 Tryz.prog 19 #[cardV r A n c] W (SaysList (cardZ r sh n) (TrustIs r sh n) W) := by
  have hck := fun w (hb : Below W.heap.size W w) => CheckCard_any r A n c sh w hn hc (Lib.hid (hsh.out.below hb))
  have hz := cardZ_ok (r := r) (sh := sh) (n := n)
  generalize cardZ r sh n = z at *
  have HCK := Lib.hid hck
  have HZ := Lib.hid hz
  clear hck hz
  by_cases h0 : z = 0
  · have hok := Lib.hid (HZ.out.1 h0)
    have hn8 := hok.out.count
    subst h0
    have htl := Lib.hid (trust_lng (r := r) (sh := sh) hn8)
    have hsub : ∀ i, i < (chs (List.range n)).length → ((chs (List.range n)).getD i []).Sublist (List.range n) := fun i hi => chs_sub hi
    have h256 : (chs (List.range n)).length ≤ 256 := by rw [chs_len, List.length_range]; exact pow_le hn8
    have hpos : 0 < (chs (List.range n)).length := by rw [chs_len]; exact Nat.two_pow_pos _
    have hcc := fun (LA : Option Addr) (lc : Nat) (w : World) (hlc : n ≤ lc) (hi : IntsAt w LA n fun k => (k : Int)) => Choices_any n (List.range n) List.length_range hn8 LA lc w hlc (fun k hk => by
      obtain ⟨b, o, e, q⟩ := hi k hk
      exact ⟨b, o, e, by rw [q]; simp [List.getD_eq_getElem?_getD, hk]⟩)
    generalize chs (List.range n) = L at *
    obtain ⟨R, hR⟩ : ∃ R, L.length = R := ⟨_, rfl⟩
    rw [hR] at htl hsub h256 hpos
    have HSUB := Lib.hid hsub
    have HCC := Lib.hid hcc
    have HR := Lib.hid hR
    clear hcc hR hsub
    gi_enter Tryz.func19, Tryz.ntmps19
    gi_wp2_with (first
      | (gi_at_call 12; refine (HCK.out _ (below_one _ _)).mono ?_; rintro e w2 ⟨rfl, hb2⟩; have HE := Lib.hid (box_one hb2); obtain ⟨c0, c1, c2, c3, c4⟩ := HE.out; have HB2 := Lib.hid ((below_one _ _).trans (hb2.mono (below_one _ _).size)); clear hb2)
      | (gi_at_call 22; refine (UpTo_any n _ (by omega)).mono ?_; rintro e w3 ⟨LU, lcU, rfl, hlU, hiU, hb3⟩; have HIU := Lib.hid hiU; have HB3 := Lib.hid hb3; clear hiU hb3)
      | (gi_at_call 54; refine (HCC.out _ _ _ hlU HIU.out).mono ?_; rintro e w4 ⟨vl, rfl, hvl, hb4⟩; have HVL := Lib.hid hvl; have HB4 := Lib.hid hb4; clear hvl hb4))
    have hb24 := HB3.out.trans (HB4.out.mono HB3.out.size)
    have HB := Lib.hid (HB2.out.trans (hb24.mono HB2.out.size))
    have HE4 : Hid (w4.cell? ⟨W.heap.size, 0, none⟩ = some (.int .i64 r.ls) ∧ w4.cell? ⟨W.heap.size, 1, none⟩ = some (.int .i64 r.ms) ∧ w4.cell? ⟨W.heap.size, 2, none⟩ = some (.int .i64 r.wd) ∧ w4.cell? ⟨W.heap.size, 3, none⟩ = some (.int .i64 r.lt) ∧ w4.cell? ⟨W.heap.size, 4, none⟩ = some (.slice A n c)) := Lib.hid (by
      obtain ⟨d0, d1, d2, d3, d4⟩ := HE.out
      exact ⟨Below.old hb24 d0, Below.old hb24 d1, Below.old hb24 d2, Below.old hb24 d3, Below.old hb24 d4⟩)
    obtain ⟨vs, hvo, hve⟩ := HVL.out
    rw [HR.out] at hvo hve
    obtain ⟨gr, rc, rfl⟩ := own_shape hvo (by omega)
    have hat := fun k (hk : k < R) => ListsAt.at hvo hve hk
    have HAT := Lib.hid hat
    have hrc : R ≤ rc := by
      rcases hvo.2 with ⟨_, e⟩ | ⟨g, cap, cur, e, _, _, q, _⟩
      · omega
      · cases e; exact q
    clear hat hvo hve HVL c0 c1 c2 c3 c4 hb24 HE
    gi_loopw [5, 7] (fun bv x wr => ∃ i : Nat, i ≤ R ∧ x = .int .i64 i ∧ BestAt wr bv (lng (AgL r sh) L i) ∧ Below w4.heap.size w4 wr) (fun _ x _ => R - (intOf x).toNat)
    case atStart => exact ⟨0, by omega, rfl, ⟨none, 0, rfl, Nat.le_refl _, fun k hk => absurd hk (by simp [lng])⟩, Below.refl _ _⟩
    case round =>
      obtain ⟨i, hi, rfl, hbest, hb⟩ := hrel
      have HBE := Lib.hid hbest
      have HBW := Lib.hid hb
      clear hbest hb
      obtain ⟨LB, kc, rfl, hkc, hints⟩ := HBE.out
      by_cases hlt : i < R
      · obtain ⟨LX, ck, hcx, hxc, hxi⟩ := HAT.out i hlt
        have HCX := Lib.hid (Below.old HBW.out hcx)
        have HXI := Lib.hid (hxi.below HBW.out)
        clear hcx hxi
        have hsub := HSUB.out i hlt
        have hyes := lng_yes (P := AgL r sh) (L := L) (i := i)
        have hno := lng_no (P := AgL r sh) (L := L) (i := i)
        generalize hx : L.getD i [] = x at *
        generalize lng (AgL r sh) L i = y at *
        have hx8 : x.length ≤ 8 := by have := hsub.length_le; rw [List.length_range] at this; omega
        have hxn : ∀ k, k < x.length → x.getD k 0 < n := fun k hk => by
          have h := List.mem_range.1 (hsub.subset (List.getElem_mem hk))
          simpa [List.getD_eq_getElem?_getD, hk] using h
        have HXN := Lib.hid hxn
        have HYES := Lib.hid hyes
        have HNO := Lib.hid hno
        clear hyes hno hxn hsub hx hints
        obtain ⟨mx, hmx⟩ : ∃ mx, x.length = mx := ⟨_, rfl⟩
        obtain ⟨my, hmy⟩ : ∃ my, y.length = my := ⟨_, rfl⟩
        rw [hmx] at hx8 hxc HCX HXI HXN HYES HNO
        rw [hmy] at hkc HYES HNO
        rw [hmy]
        have HMX := Lib.hid hmx
        have HMY := Lib.hid hmy
        clear hmx hmy
        by_cases hl : my < mx
        · by_cases hag : AgL r sh x
          · have HAG := Lib.hid hag
            clear hag
            gi_wp2
            refine wpIn_region_D (D := [(24, .slice (some ⟨gr, 0, none⟩) R rc), (25, .int .i64 (i : Int)), (26, .pointer (some ⟨gr, i, none⟩)), (27, .slice LX mx ck), (28, .int .i64 mx), (29, .slice LB my kc), (30, .int .i64 my), (31, .bool true), (32, .bool true), (33, cardV r A n c), (34, .slice (some ⟨gr, 0, none⟩) R rc), (35, .int .i64 (i : Int)), (36, .pointer (some ⟨gr, i, none⟩)), (37, .slice LX mx ck), (38, .bool true), (39, .bool true)])
              (I := fun w => Below wr.heap.size wr w) (z := 45) (by kernel_rfl) (by kernel_rfl) (by kernel_rfl) (by kernel_rfl) (by kernel_rfl) rfl rfl (Below.refl _ _).drew ?_ ?_
            · intro j a w hj hd hz hold hf hI
              have HI := Lib.hid hI
              obtain ⟨d0, d1, d2, d3, d4⟩ := HE4.out
              have hbw := HBW.out.trans (hI.mono HBW.out.size)
              have d0 := Below.old hbw d0
              have d1 := Below.old hbw d1
              have d2 := Below.old hbw d2
              have d3 := Below.old hbw d3
              have d4 := Below.old hbw d4
              have q0 := Below.old hI HCX.out
              clear hI hbw
              have s1 := at_slot hz (hold 1 (by kernel_rfl)) (by omega)
              have s5 := at_slot hz (hold 5 (by kernel_rfl)) (by omega)
              have s6 := at_slot hz (hold 6 (by kernel_rfl)) (by omega)
              have s7 := at_slot hz (hold 7 (by kernel_rfl)) (by omega)
              clear hold
              have hjs : j = 0 ∨ j = 1 ∨ j = 2 ∨ j = 3 ∨ j = 4 ∨ j = 5 ∨ j = 6 ∨ j = 7 ∨ j = 8 ∨ j = 9 ∨ j = 10 ∨ j = 11 ∨ j = 12 ∨ j = 13 ∨ j = 14 ∨ j = 15 := by have : j < 16 := hj; omega
              rcases hjs with rfl | rfl | rfl | rfl | rfl | rfl | rfl | rfl | rfl | rfl | rfl | rfl | rfl | rfl | rfl | rfl
              all_goals
                try have f24 := at_slot hz (hf 0 24 _ rfl rfl) (by omega)
                try have f25 := at_slot hz (hf 1 25 _ rfl rfl) (by omega)
                try have f26 := at_slot hz (hf 2 26 _ rfl rfl) (by omega)
                try have f27 := at_slot hz (hf 3 27 _ rfl rfl) (by omega)
                try have f29 := at_slot hz (hf 5 29 _ rfl rfl) (by omega)
                try have f28 := at_slot hz (hf 4 28 _ rfl rfl) (by omega)
                try have f30 := at_slot hz (hf 6 30 _ rfl rfl) (by omega)
                try have f31 := at_slot hz (hf 7 31 _ rfl rfl) (by omega)
                try have f32 := at_slot hz (hf 8 32 _ rfl rfl) (by omega)
                try have f34 := at_slot hz (hf 10 34 _ rfl rfl) (by omega)
                try have f35 := at_slot hz (hf 11 35 _ rfl rfl) (by omega)
                try have f36 := at_slot hz (hf 12 36 _ rfl rfl) (by omega)
                try have f33 := at_slot hz (hf 9 33 _ rfl rfl) (by omega)
                try have f37 := at_slot hz (hf 13 37 _ rfl rfl) (by omega)
                try have f38 := at_slot hz (hf 14 38 _ rfl rfl) (by omega)
                refine wpOpIn_step rfl fun K hK => ?_
                go_simp
                first
                  | exact hK _ _ ⟨_, _, rfl, rfl, rfl, HI.out⟩
                  | (refine (FitsOf_any r A n c sh LX mx ck (fun k => x.getD k 0) w hc hx8 hxc hok (Lib.hid (hsh.out.below (HB.out.trans ((HBW.out.trans (HI.out.mono HBW.out.size)).mono HB.out.size)))) HXN (Lib.hid (HXI.out.below HI.out))).mono ?_; rintro e w' ⟨g, rfl, hg, hb'⟩; obtain rfl : g = true := hg.2 (HMX.out ▸ HAG.out); exact hK _ _ ⟨_, _, rfl, rfl, rfl, HI.out.trans (hb'.mono HI.out.size)⟩)
            · intro w5 hI
              simp only [List.foldl_cons, List.foldl_nil, List.setIfInBounds_toArray, List.set_cons_succ, List.set_cons_zero]
              have HI := Lib.hid hI
              have q0 := Below.old hI HCX.out
              clear hI
              gi_wp2
              go_roundw
              case rel =>
                refine ⟨i + 1, by omega, by go_num, ?_, HBW.out.trans (HI.out.mono HBW.out.size)⟩
                rw [HYES.out hl HAG.out]
                exact ⟨LX, ck, by rw [HMX.out], by rw [HMX.out]; exact hxc, by rw [HMX.out]; exact HXI.out.below HI.out⟩
              case measure => simp [intOf]; omega
          · have HAG : Hid (¬ AgL r sh x) := Lib.hid hag
            clear hag
            gi_wp2
            refine wpIn_region_D (D := [(24, .slice (some ⟨gr, 0, none⟩) R rc), (25, .int .i64 (i : Int)), (26, .pointer (some ⟨gr, i, none⟩)), (27, .slice LX mx ck), (28, .int .i64 mx), (29, .slice LB my kc), (30, .int .i64 my), (31, .bool true), (32, .bool true), (33, cardV r A n c), (34, .slice (some ⟨gr, 0, none⟩) R rc), (35, .int .i64 (i : Int)), (36, .pointer (some ⟨gr, i, none⟩)), (37, .slice LX mx ck), (38, .bool false), (39, .bool false)])
              (I := fun w => Below wr.heap.size wr w) (z := 45) (by kernel_rfl) (by kernel_rfl) (by kernel_rfl) (by kernel_rfl) (by kernel_rfl) rfl rfl (Below.refl _ _).drew ?_ ?_
            · intro j a w hj hd hz hold hf hI
              have HI := Lib.hid hI
              obtain ⟨d0, d1, d2, d3, d4⟩ := HE4.out
              have hbw := HBW.out.trans (hI.mono HBW.out.size)
              have d0 := Below.old hbw d0
              have d1 := Below.old hbw d1
              have d2 := Below.old hbw d2
              have d3 := Below.old hbw d3
              have d4 := Below.old hbw d4
              have q0 := Below.old hI HCX.out
              clear hI hbw
              have s1 := at_slot hz (hold 1 (by kernel_rfl)) (by omega)
              have s5 := at_slot hz (hold 5 (by kernel_rfl)) (by omega)
              have s6 := at_slot hz (hold 6 (by kernel_rfl)) (by omega)
              have s7 := at_slot hz (hold 7 (by kernel_rfl)) (by omega)
              clear hold
              have hjs : j = 0 ∨ j = 1 ∨ j = 2 ∨ j = 3 ∨ j = 4 ∨ j = 5 ∨ j = 6 ∨ j = 7 ∨ j = 8 ∨ j = 9 ∨ j = 10 ∨ j = 11 ∨ j = 12 ∨ j = 13 ∨ j = 14 ∨ j = 15 := by have : j < 16 := hj; omega
              rcases hjs with rfl | rfl | rfl | rfl | rfl | rfl | rfl | rfl | rfl | rfl | rfl | rfl | rfl | rfl | rfl | rfl
              all_goals
                try have f24 := at_slot hz (hf 0 24 _ rfl rfl) (by omega)
                try have f25 := at_slot hz (hf 1 25 _ rfl rfl) (by omega)
                try have f26 := at_slot hz (hf 2 26 _ rfl rfl) (by omega)
                try have f27 := at_slot hz (hf 3 27 _ rfl rfl) (by omega)
                try have f29 := at_slot hz (hf 5 29 _ rfl rfl) (by omega)
                try have f28 := at_slot hz (hf 4 28 _ rfl rfl) (by omega)
                try have f30 := at_slot hz (hf 6 30 _ rfl rfl) (by omega)
                try have f31 := at_slot hz (hf 7 31 _ rfl rfl) (by omega)
                try have f32 := at_slot hz (hf 8 32 _ rfl rfl) (by omega)
                try have f34 := at_slot hz (hf 10 34 _ rfl rfl) (by omega)
                try have f35 := at_slot hz (hf 11 35 _ rfl rfl) (by omega)
                try have f36 := at_slot hz (hf 12 36 _ rfl rfl) (by omega)
                try have f33 := at_slot hz (hf 9 33 _ rfl rfl) (by omega)
                try have f37 := at_slot hz (hf 13 37 _ rfl rfl) (by omega)
                try have f38 := at_slot hz (hf 14 38 _ rfl rfl) (by omega)
                refine wpOpIn_step rfl fun K hK => ?_
                go_simp
                first
                  | exact hK _ _ ⟨_, _, rfl, rfl, rfl, HI.out⟩
                  | (refine (FitsOf_any r A n c sh LX mx ck (fun k => x.getD k 0) w hc hx8 hxc hok (Lib.hid (hsh.out.below (HB.out.trans ((HBW.out.trans (HI.out.mono HBW.out.size)).mono HB.out.size)))) HXN (Lib.hid (HXI.out.below HI.out))).mono ?_; rintro e w' ⟨g, rfl, hg, hb'⟩; obtain rfl : g = false := (by cases g; rfl; exact absurd (show AgL r sh x from (by have h9 := hg.1 rfl; rw [← HMX.out] at h9; exact h9)) HAG.out); exact hK _ _ ⟨_, _, rfl, rfl, rfl, HI.out.trans (hb'.mono HI.out.size)⟩)
            · intro w5 hI
              simp only [List.foldl_cons, List.foldl_nil, List.setIfInBounds_toArray, List.set_cons_succ, List.set_cons_zero]
              have HI := Lib.hid hI
              clear hI
              gi_wp2
              go_roundw
              case rel =>
                refine ⟨i + 1, by omega, by go_num, ?_, HBW.out.trans (HI.out.mono HBW.out.size)⟩
                rw [HNO.out fun h => HAG.out h.2]
                have := HBE.out.below HI.out
                rw [HMY.out] at this
                exact this
              case measure => simp [intOf]; omega
        · have hl2 := hl
          gi_wp2
          refine wpIn_region_D (D := [(24, .slice (some ⟨gr, 0, none⟩) R rc), (25, .int .i64 (i : Int)), (26, .pointer (some ⟨gr, i, none⟩)), (27, .slice LX mx ck), (28, .int .i64 mx), (29, .slice LB my kc), (30, .int .i64 my), (31, .bool false), (32, .bool false), (33, undef), (34, undef), (35, undef), (36, undef), (37, undef), (38, undef), (39, .bool false)])
            (I := fun w => Below wr.heap.size wr w) (z := 45) (by kernel_rfl) (by kernel_rfl) (by kernel_rfl) (by kernel_rfl) (by kernel_rfl) rfl rfl (Below.refl _ _).drew ?_ ?_
          · intro j a w hj hd hz hold hf hI
            have HI := Lib.hid hI
            obtain ⟨d0, d1, d2, d3, d4⟩ := HE4.out
            have hbw := HBW.out.trans (hI.mono HBW.out.size)
            have d0 := Below.old hbw d0
            have d1 := Below.old hbw d1
            have d2 := Below.old hbw d2
            have d3 := Below.old hbw d3
            have d4 := Below.old hbw d4
            have q0 := Below.old hI HCX.out
            clear hI hbw
            have s1 := at_slot hz (hold 1 (by kernel_rfl)) (by omega)
            have s5 := at_slot hz (hold 5 (by kernel_rfl)) (by omega)
            have s6 := at_slot hz (hold 6 (by kernel_rfl)) (by omega)
            have s7 := at_slot hz (hold 7 (by kernel_rfl)) (by omega)
            clear hold
            have hjs : j = 0 ∨ j = 1 ∨ j = 2 ∨ j = 3 ∨ j = 4 ∨ j = 5 ∨ j = 6 ∨ j = 7 ∨ j = 8 ∨ j = 9 ∨ j = 10 ∨ j = 11 ∨ j = 12 ∨ j = 13 ∨ j = 14 ∨ j = 15 := by have : j < 16 := hj; omega
            rcases hjs with rfl | rfl | rfl | rfl | rfl | rfl | rfl | rfl | rfl | rfl | rfl | rfl | rfl | rfl | rfl | rfl
            all_goals
              try have f24 := at_slot hz (hf 0 24 _ rfl rfl) (by omega)
              try have f25 := at_slot hz (hf 1 25 _ rfl rfl) (by omega)
              try have f26 := at_slot hz (hf 2 26 _ rfl rfl) (by omega)
              try have f27 := at_slot hz (hf 3 27 _ rfl rfl) (by omega)
              try have f29 := at_slot hz (hf 5 29 _ rfl rfl) (by omega)
              try have f28 := at_slot hz (hf 4 28 _ rfl rfl) (by omega)
              try have f30 := at_slot hz (hf 6 30 _ rfl rfl) (by omega)
              try have f31 := at_slot hz (hf 7 31 _ rfl rfl) (by omega)
              try have f32 := at_slot hz (hf 8 32 _ rfl rfl) (by omega)
              refine wpOpIn_step rfl fun K hK => ?_
              go_simp
              exact hK _ _ ⟨_, _, rfl, rfl, rfl, HI.out⟩
          · intro w5 hI
            simp only [List.foldl_cons, List.foldl_nil, List.setIfInBounds_toArray, List.set_cons_succ, List.set_cons_zero]
            have HI := Lib.hid hI
            clear hI
            gi_wp2
            go_roundw
            case rel =>
              refine ⟨i + 1, by omega, by go_num, ?_, HBW.out.trans (HI.out.mono HBW.out.size)⟩
              rw [HNO.out fun h => hl h.1]
              have := HBE.out.below HI.out
              rw [HMY.out] at this
              exact this
            case measure => simp [intOf]; omega
      · obtain rfl : i = R := by omega
        gi_wp2
        go_ret2
        obtain ⟨t1, t2⟩ := htl.out
        refine ⟨LB, _, kc, _, rfl, hkc, hints, fun _ => ⟨t1, funext fun k => t2 k⟩, fun h => absurd rfl h, HB.out.trans (HBW.out.mono HB.out.size)⟩
  · gi_enter Tryz.func19, Tryz.ntmps19
    gi_wp2_with (gi_at_call 12; refine (HCK.out _ (below_one _ _)).mono ?_; rintro e w2 ⟨rfl, hb2⟩; have HB2 := Lib.hid ((below_one _ _).trans (hb2.mono (below_one _ _).size)); clear hb2)
    go_ret2
    exact ⟨none, 0, 0, fun _ => 0, rfl, Nat.le_refl _, fun k hk => by omega, fun h => absurd h h0, fun _ => rfl, HB2.out⟩
end Go.Proofs.YtlabfeofejemjaaGreat
end
