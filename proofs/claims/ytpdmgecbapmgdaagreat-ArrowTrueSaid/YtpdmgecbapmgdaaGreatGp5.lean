/- A part of the proof that ArrowTrue returns true for every input: no further condition. -/
import Derived.Test.YtpdmgecbapmgdaaGreatGp4
import Derived.Test.YtpdmgecbapmgdaaGreatGp3
import Derived.Test.YtpdmgecbapmgdaaGreatGp0
import Derived.Test.YtpdmgecbapmgdaaGreatLe1
import Derived.Conc.Own4
import Derived.Conc.LeavingOf
import Derived.Deep.Slices
import Derived.Lib.SmallJoins
import Derived.Test.YtpdmgecbapmgdaaGreatRows
import Derived.Carry
set_option linter.unusedSimpArgs false
set_option linter.unusedVariables false
set_option maxHeartbeats 4000000
set_option maxRecDepth 100000
section
namespace Go.Proofs.YtpdmgecbapmgdaaGreat
open Go.RowKit Go.Cx Go.Conc
def BoxAt (w : World) (p : Nat) : Prop := ∃ (i0 i1 i2 i3 : Int) (v : Value), w.heap[p]? = some (.cells #[.int .i64 i0, .int .i64 i1, .int .i64 i2, .int .i64 i3, v] 26 (0, 0)) ∧ ∀ s, v ≠ .string s
theorem BoxAt.below {w w' : World} {p : Nat} (h : BoxAt w p) (hb : Below w.heap.size w w') : BoxAt w' p := by
  obtain ⟨i0, i1, i2, i3, v, h1, h2⟩ := h
  exact ⟨i0, i1, i2, i3, v, by rw [hb.block _ (Array.getElem?_eq_some_iff.1 h1).1]; exact h1, h2⟩
def PutsF (rs rl rw many u v : Int) (A : Option Addr) (n c q lo y : Nat) (sh : Nat → Shaft) (lj lk : Nat) : Nat → List Value → World → Prop
  | 0, vs, _ => vs = [stockV rs rl rw many A n c]
  | 1, vs, _ => vs = [.pointer (some ⟨q, 0, none⟩)]
  | 2, vs, _ => vs = [.int .i64 lj]
  | 3, vs, _ => vs = [.pointer (some ⟨q, 2, none⟩)]
  | 4, vs, _ => vs = [.int .i64 y]
  | 5, vs, _ => vs = [.agg #[.int .i64 u, .int .i64 u]]
  | 7, vs, _ => vs = [.pointer (some ⟨q, 1, none⟩)]
  | 8, vs, _ => vs = [.int .i64 lk]
  | 9, vs, _ => vs = [.pointer (some ⟨q, 2, none⟩)]
  | 10, vs, _ => vs = [.int .i64 y]
  | 11, vs, _ => vs = [.agg #[.int .i64 v, .int .i64 v]]
  | 6, vs, w => ∃ A1 c1, vs = [stockV rs rl rw many A1 n c1] ∧ n ≤ c1 ∧ ShaftsAt w A1 n (putSh sh lj y u u)
  | 12, vs, w => ∃ A1 c1, vs = [stockV rs rl rw many A1 n c1] ∧ n ≤ c1 ∧ ShaftsAt w A1 n (putSh (putSh sh lj y u u) lk y v v)
  | 13, vs, w => ∃ p, vs = [.pointer (some ⟨p, 0, none⟩)] ∧ lo ≤ p ∧ BoxAt w p
  | 14, vs, w => ∃ p A1 c1, vs = [.pointer (some ⟨p, 0, none⟩)] ∧ lo ≤ p ∧ w.heap[p]? = some (.cells #[.int .i64 rs, .int .i64 rl, .int .i64 rw, .int .i64 many, .slice A1 n c1] 26 (0, 0)) ∧ n ≤ c1 ∧ ShaftsAt w A1 n (putSh (putSh sh lj y u u) lk y v v)
  | _, _, _ => True
theorem PutsF.below {rs rl rw many u v : Int} {A : Option Addr} {n c q lo y : Nat} {sh : Nat → Shaft} {lj lk : Nat} {w w' : World} (hb : Below w.heap.size w w') : ∀ i vs, PutsF rs rl rw many u v A n c q lo y sh lj lk i vs w → PutsF rs rl rw many u v A n c q lo y sh lj lk i vs w' := by
  intro i vs h
  unfold PutsF at h ⊢
  split at h <;> try exact h
  · obtain ⟨A1, c1, h1, h2, h3⟩ := h; exact ⟨A1, c1, h1, h2, h3.below hb⟩
  · obtain ⟨A1, c1, h1, h2, h3⟩ := h; exact ⟨A1, c1, h1, h2, h3.below hb⟩
  · obtain ⟨p, h1, h2, h3⟩ := h; exact ⟨p, h1, h2, h3.below hb⟩
  · obtain ⟨p, A1, c1, h1, h2, h3, h4, h5⟩ := h; exact ⟨p, A1, c1, h1, h2, by rw [hb.block _ (Array.getElem?_eq_some_iff.1 h3).1]; exact h3, h4, h5.below hb⟩
theorem box_store {w : World} {p p' : Nat} {rs rl rw many i0 i1 i2 i3 : Int} {vv : Value} {A2 : Option Addr} {n c2 : Nat} (hbl : w.heap[p]? = some (.cells #[.int .i64 i0, .int .i64 i1, .int .i64 i2, .int .i64 i3, vv] 26 (0, 0))) (h : BoxAt w p') : BoxAt (((((w.setCell ⟨p, 0, none⟩ (.int .i64 rs)).setCell ⟨p, 1, none⟩ (.int .i64 rl)).setCell ⟨p, 2, none⟩ (.int .i64 rw)).setCell ⟨p, 3, none⟩ (.int .i64 many)).setCell ⟨p, 4, none⟩ (.slice A2 n c2)) p' := by
  by_cases e : p' = p
  · subst e
    exact ⟨rs, rl, rw, many, .slice A2 n c2, by simp [World.setCell, Array.getElem?_modify, hbl], fun s => by simp⟩
  · obtain ⟨j0, j1, j2, j3, v, h1, h2⟩ := h
    exact ⟨j0, j1, j2, j3, v, by simp [World.setCell, Array.getElem?_modify, h1, Ne.symm e], h2⟩
theorem PutsF.to {rs rl rw many u v : Int} {A : Option Addr} {n c q lo y lj lk : Nat} {sh : Nat → Shaft} {w w' : World} (far : ∀ A1 s1, ShaftsAt w A1 n s1 → ShaftsAt w' A1 n s1) (hb : ∀ p, BoxAt w p → BoxAt w' p) : ∀ i, i ≠ 14 → ∀ vs, PutsF rs rl rw many u v A n c q lo y sh lj lk i vs w → PutsF rs rl rw many u v A n c q lo y sh lj lk i vs w' := by
  intro i hi vs h
  unfold PutsF at h ⊢
  split at h <;> try exact h
  · obtain ⟨A1, c1, h1, h2, h3⟩ := h; exact ⟨A1, c1, h1, h2, far _ _ h3⟩
  · obtain ⟨A1, c1, h1, h2, h3⟩ := h; exact ⟨A1, c1, h1, h2, far _ _ h3⟩
  · obtain ⟨p', h1, h2, h3⟩ := h; exact ⟨p', h1, h2, hb _ h3⟩
  · exact absurd rfl hi
theorem puts_store {rs rl rw many u v : Int} {A : Option Addr} {n c q lo y p c2 lj lk t : Nat} {sh : Nat → Shaft} {w : World} {i0 i1 i2 i3 : Int} {vv : Value} {A2 : Option Addr} (hbl : w.heap[p]? = some (.cells #[.int .i64 i0, .int .i64 i1, .int .i64 i2, .int .i64 i3, vv] 26 (0, 0))) (ht : t < n) (hvs : ∀ s, vv ≠ .string s) :
    ∀ i, i ≠ 14 → ∀ vs, PutsF rs rl rw many u v A n c q lo y sh lj lk i vs w → PutsF rs rl rw many u v A n c q lo y sh lj lk i vs (((((w.setCell ⟨p, 0, none⟩ (.int .i64 rs)).setCell ⟨p, 1, none⟩ (.int .i64 rl)).setCell ⟨p, 2, none⟩ (.int .i64 rw)).setCell ⟨p, 3, none⟩ (.int .i64 many)).setCell ⟨p, 4, none⟩ (.slice A2 n c2)) := by
  intro i hi vs h
  refine PutsF.to (fun A1 s1 hr => ?_) (fun p' h => box_store hbl h) i hi vs h
  have hne := shafts_box hr ht hvs hbl
  exact shafts_far' (shafts_far' (shafts_far' (shafts_far' (shafts_far' hr hne _) hne _) hne _) hne _) hne _
theorem reach_pre2 {F : Fence} {n : Nat} {P : Program} {b : Frame} {cs : List Frame} {S : Act → List Item → World → Prop} {a : Act} {w : World} {k : List Item} {ops : Array Oper} (t : Nat) (rest : List Nat) (hr2 : List.range ops.size = List.range' 0 (ops.toList.take t).length ++ rest) (hall : ((ops.toList.take t).all fun o => reckons o.op) = true) (hro : b.roundOf = F.round) (hb : F.fn b.fn) (hr : F.room (cs.length + 1 + n))
    (h : ∀ R : Act → World → Prop, (∀ a' w', Reach F P b cs S a' (.inRegion ops rest :: k) w' → R a' w') → wpListIn F n P ops (Through R) (ops.toList.take t) a w) : Reach F P b cs S a (.inRegion ops (List.range ops.size) :: k) w := by
  rw [hr2]
  refine reach_pre (n := n) (ops.toList.take t) rest (fun j hj => ?_) hall hro hb hr h
  rw [List.getElem?_take, if_pos (Nat.lt_of_lt_of_le hj (List.length_take_le ..))]
  simp
theorem topZ_top (sh : Nat → Shaft) (l : Nat → Nat) (y : Nat) : ∀ i, (∀ t, t < i → spanA (sh (l t)) y ≤ topZ sh l y i) ∧ 0 ≤ topZ sh l y i
  | 0 => ⟨fun t h => by omega, by simp [topZ]⟩
  | i + 1 => by
    obtain ⟨h1, h2⟩ := topZ_top sh l y i
    refine ⟨fun t ht => ?_, by simp only [topZ]; omega⟩
    simp only [topZ]
    rcases Nat.lt_succ_iff_lt_or_eq.1 ht with ht | rfl
    · have := h1 t ht; omega
    · omega
theorem topZ_is {sh : Nat → Shaft} {l : Nat → Nat} {y : Nat} : ∀ i, (∀ t, t < i → 0 ≤ spanA (sh (l t)) y) → 0 < i → ∃ t, t < i ∧ topZ sh l y i = spanA (sh (l t)) y
  | 0, _, h => absurd h (by omega)
  | i + 1, h0, _ => by
    by_cases hi : i = 0
    · subst hi
      exact ⟨0, by omega, by have := h0 0 (by omega); simp only [topZ]; omega⟩
    · obtain ⟨t, ht, e⟩ := topZ_is i (fun t ht => h0 t (by omega)) (by omega)
      by_cases hge : spanA (sh (l i)) y ≤ topZ sh l y i
      · exact ⟨t, by omega, by simp only [topZ]; omega⟩
      · exact ⟨i, by omega, by simp only [topZ]; omega⟩
theorem closest_stock {rs rl rw many : Int} {n m : Nat} {sh sh3 : Nat → Shaft} {l : Nat → Nat} (hst : Hid (StockOk rs rl rw many n sh)) (hc : Hid (CloAt sh l m n 3 0 sh3)) : Hid (StockOk rs rl rw many n sh3) := by
  refine Lib.hid (hst.out.other (fun k hk => hc.out.name k hk) fun k hk => ?_)
  have hs := (hst.out.each k hk).spans
  have key : ∀ y, y < 3 → (0 ≤ spanA (sh3 k) y ∧ spanA (sh3 k) y ≤ spanB (sh3 k) y ∧ spanB (sh3 k) y ≤ 9999) := fun y hy => by
    have a1 := hs.least y hy
    have a2 := hs.up y hy
    have a3 := hs.most y hy
    by_cases hd : doneP l m 3 0 k y
    · obtain ⟨h1, h2⟩ := hc.out.yes k hk y hy hd
      have h3 := (topZ_top sh l y m).2
      rw [h1, h2]
      unfold closeZ
      omega
    · obtain ⟨h1, h2⟩ := hc.out.no k hk y hy hd
      rw [h1, h2]
      omega
  exact ⟨fun y hy => (key y hy).1, fun y hy => (key y hy).2.1, fun y hy => (key y hy).2.2⟩
theorem closest_match {rs rl rw many : Int} {n m : Nat} {sh sh3 : Nat → Shaft} {l : Nat → Nat} (hst : Hid (StockOk rs rl rw many n sh)) (hl : Hid (∀ k, k < m → l k < n)) (hmay : Hid (matchZ rs rl rw sh l m ≠ 2)) (hc : Hid (CloAt sh l m n 3 0 sh3)) : matchZ rs rl rw sh3 l m = 1 := by
  have hd : ∀ i, i < m → ∀ y, y < 3 → doneP l m 3 0 (l i) y := fun i hi y hy => .inl ⟨hy, i, hi, rfl⟩
  refine closest_yes (top := fun y => topZ sh l y m) hst.out hl.out hmay.out (fun y hy => ⟨fun i hi => (topZ_top sh l y m).1 i hi, fun h0 => topZ_is m (fun t ht => (hst.out.each _ (hl.out t ht)).spans.least y hy) h0⟩) (fun i hi y hy => ?_) fun i hi y hy => ?_
  · exact (hc.out.yes _ (hl.out i hi) y hy (hd i hi y hy)).1
  · exact (hc.out.yes _ (hl.out i hi) y hy (hd i hi y hy)).2
noncomputable def rgt' : Code → Code
  | .seq _ b => b
  | _ => .skip
noncomputable def A6t : Code := rgt' (rgt' (rgt' (rgt' (rgt' (rgt' (rgt' (rgt' (rgt' (rgt' (rgt' (rgt' A6)))))))))))
theorem true_tail (rs rl rw many : Int) (b o n c : Nat) (sh : Nat → Shaft) (LA : Option Addr) (m lc : Nat) (l : Nat → Nat) (j k y q pa pb : Nat) (u v : Int) (W w0 : World) (a0 : Act) (hn : n ≤ 9) (hc : n ≤ c) (hst : Hid (StockOk rs rl rw many n sh)) (hshw : Hid (ShaftsAt w0 (some ⟨b, o, none⟩) n sh)) (hm : m ≤ 9) (hmc : m ≤ lc)
    (hl : Hid (∀ k, k < m → l k < n)) (hasc : Hid (∀ j k, j < k → k < m → l j < l k)) (hiw : Hid (IntsAt w0 LA m fun k => (l k : Int))) (hlj : l j < n) (hlk : l k < n) (hy : y < 3) (hu0 : 0 ≤ u) (hu1 : u ≤ 9999) (hv0 : 0 ≤ v) (hv1 : v ≤ 9999)
    (hmay : Hid (matchZ rs rl rw sh l m ≠ 2)) (hno : Hid (matchZ rs rl rw (putSh (putSh sh (l j) y u u) (l k) y v v) l m = 2)) (hb0 : Hid (Below W.heap.size W w0)) (e0 : w0.cell? ⟨W.heap.size, 0, none⟩ = some (.int .i64 rs)) (e1 : w0.cell? ⟨W.heap.size, 1, none⟩ = some (.int .i64 rl)) (e2 : w0.cell? ⟨W.heap.size, 2, none⟩ = some (.int .i64 rw)) (e3 : w0.cell? ⟨W.heap.size, 3, none⟩ = some (.int .i64 many)) (e4 : w0.cell? ⟨W.heap.size, 4, none⟩ = some (.slice (some ⟨b, o, none⟩) n c))
    (P0 : w0.cell? ⟨q, 0, none⟩ = some (.int .i64 (l j))) (P1 : w0.cell? ⟨q, 1, none⟩ = some (.int .i64 (l k))) (P2 : w0.cell? ⟨q, 2, none⟩ = some (.int .i64 y)) (hspa : Hid (SpanAt w0 pa u u)) (hspb : Hid (SpanAt w0 pb v v))
    (hd : a0.defers = []) (hz : a0.tmps.size = 209) (s3 : a0.eval (.tmp 3) = .pointer (some ⟨W.heap.size, 0, none⟩)) (s7 : a0.eval (.tmp 7) = .slice LA m lc) (s13 : a0.eval (.tmp 13) = .pointer (some ⟨q, 0, none⟩)) (s14 : a0.eval (.tmp 14) = .pointer (some ⟨pa, 0, none⟩)) (s15 : a0.eval (.tmp 15) = .pointer (some ⟨pb, 0, none⟩)) :
    Reach Fc Tryz.prog (lawFr 6) [] (SeekT W) a0 [.code A6t] w0 := by
  generalize hS : SeekT W = S
  have HS := Lib.hid hS
  clear hS
  simp only [A6t, A6, Tryz.f6, rgt']
  refine reach_seq fin6 room6 ?_
  refine reach_code (n := 0) rfl fin6 room6 fun R hR => ?_
  have HR := Lib.hid hR
  clear hR
  refine wpIn_region_F (sup := fun j => ([[165], [166], [167], [168], [169], [170], [171], [172], [173], [174], [175], [176], [177], [16], [16]] : List (List Nat)).getD j []) (Ψ := PutsF rs rl rw many u v (some ⟨b, o, none⟩) n c q w0.heap.size y sh (l j) (l k)) (I := fun w => Below w0.heap.size w0 w) (z := 209) (by kernel_rfl) (by kernel_rfl) (by kernel_rfl) hd hz (Below.refl _ _).drew (fun listed a w j' hj hr => ?_) fun listed a w hj hall => ?_
  · have hjs' : j' < 15 := by
      obtain ⟨_, o', h3, _⟩ := mem_ready.1 hr
      exact (Array.getElem?_eq_some_iff.1 h3).1
    have hI := hj.inv
    obtain ⟨tm, df⟩ := a
    have hdf := hj.defers
    simp only at hdf
    subst hdf
    have hz' : ∀ {d : Nat}, d < 209 → d < (Act.mk tm []).tmps.size := fun h => by rw [hj.size]; exact h
    have g3 := at_slot hj.size ((hj.old 3 (oldB_use (by kernel_rfl))).trans s3) (by omega)
    have g13 := at_slot hj.size ((hj.old 13 (oldB_use (by kernel_rfl))).trans s13) (by omega)
    have g14 := at_slot hj.size ((hj.old 14 (oldB_use (by kernel_rfl))).trans s14) (by omega)
    have g15 := at_slot hj.size ((hj.old 15 (oldB_use (by kernel_rfl))).trans s15) (by omega)
    have E0 := Below.old hI e0
    have E1 := Below.old hI e1
    have E2 := Below.old hI e2
    have E3 := Below.old hI e3
    have E4 := Below.old hI e4
    have Q0 := Below.old hI P0
    have Q1 := Below.old hI P1
    have Q2 := Below.old hI P2
    obtain ⟨ua, ub⟩ := (hspa.out.below hI).cell
    obtain ⟨va, vb⟩ := (hspb.out.below hI).cell
    have hjs : j' = 0 ∨ j' = 1 ∨ j' = 2 ∨ j' = 3 ∨ j' = 4 ∨ j' = 5 ∨ j' = 6 ∨ j' = 7 ∨ j' = 8 ∨ j' = 9 ∨ j' = 10 ∨ j' = 11 ∨ j' = 12 ∨ j' = 13 ∨ j' = 14 := by omega
    rcases hjs with rfl | rfl | rfl | rfl | rfl | rfl | rfl | rfl | rfl | rfl | rfl | rfl | rfl | rfl | rfl
    · refine wpOpIn_step rfl fun K hK => ?_
      go_simp
      exact hK _ _ (RFNext.pure (d := 165) rfl hI (hz' (by omega)) rfl rfl)
    · refine wpOpIn_step rfl fun K hK => ?_
      go_simp
      exact hK _ _ (RFNext.pure (d := 166) rfl hI (hz' (by omega)) rfl rfl)
    · have f166 := at_slot hj.size (show Act.eval _ (.tmp 166) = .pointer (some ⟨q, 0, none⟩) from (List.cons.inj (hj.fact 1 (by decide) (dep hr (by kernel_rfl)))).1) (by omega)
      refine wpOpIn_step rfl fun K hK => ?_
      go_simp
      exact hK _ _ (RFNext.pure (d := 167) rfl hI (hz' (by omega)) rfl rfl)
    · refine wpOpIn_step rfl fun K hK => ?_
      go_simp
      exact hK _ _ (RFNext.pure (d := 168) rfl hI (hz' (by omega)) rfl rfl)
    · have f168 := at_slot hj.size (show Act.eval _ (.tmp 168) = .pointer (some ⟨q, 2, none⟩) from (List.cons.inj (hj.fact 3 (by decide) (dep hr (by kernel_rfl)))).1) (by omega)
      refine wpOpIn_step rfl fun K hK => ?_
      go_simp
      exact hK _ _ (RFNext.pure (d := 169) rfl hI (hz' (by omega)) rfl rfl)
    · refine wpOpIn_step rfl fun K hK => ?_
      go_simp
      exact hK _ _ (RFNext.pure (d := 170) rfl hI (hz' (by omega)) rfl rfl)
    · have f165 := at_slot hj.size (show Act.eval _ (.tmp 165) = stockV rs rl rw many (some ⟨b, o, none⟩) n c from (List.cons.inj (hj.fact 0 (by decide) (dep hr (by kernel_rfl)))).1) (by omega)
      have f167 := at_slot hj.size (show Act.eval _ (.tmp 167) = .int .i64 (l j) from (List.cons.inj (hj.fact 2 (by decide) (dep hr (by kernel_rfl)))).1) (by omega)
      have f169 := at_slot hj.size (show Act.eval _ (.tmp 169) = .int .i64 y from (List.cons.inj (hj.fact 4 (by decide) (dep hr (by kernel_rfl)))).1) (by omega)
      have f170 := at_slot hj.size (show Act.eval _ (.tmp 170) = .agg #[.int .i64 u, .int .i64 u] from (List.cons.inj (hj.fact 5 (by decide) (dep hr (by kernel_rfl)))).1) (by omega)
      refine wpOpIn_step rfl fun K hK => ?_
      go_simp
      refine (Put_any rs rl rw many (some ⟨b, o, none⟩) n c (l j) y sh u u w hn hlj hc hy (Lib.hid (hshw.out.below hI))).mono ?_
      rintro e w' ⟨A1, c1, rfl, hc1, hrow, hb'⟩
      exact hK _ _ (RFNext.grow (d := 171) (fun i vs h => PutsF.below hb' i vs h) rfl (hI.trans (hb'.mono hI.size)) (hz' (by omega)) rfl ⟨A1, c1, rfl, hc1, hrow⟩)
    · refine wpOpIn_step rfl fun K hK => ?_
      go_simp
      exact hK _ _ (RFNext.pure (d := 172) rfl hI (hz' (by omega)) rfl rfl)
    · have f172 := at_slot hj.size (show Act.eval _ (.tmp 172) = .pointer (some ⟨q, 1, none⟩) from (List.cons.inj (hj.fact 7 (by decide) (dep hr (by kernel_rfl)))).1) (by omega)
      refine wpOpIn_step rfl fun K hK => ?_
      go_simp
      exact hK _ _ (RFNext.pure (d := 173) rfl hI (hz' (by omega)) rfl rfl)
    · refine wpOpIn_step rfl fun K hK => ?_
      go_simp
      exact hK _ _ (RFNext.pure (d := 174) rfl hI (hz' (by omega)) rfl rfl)
    · have f174 := at_slot hj.size (show Act.eval _ (.tmp 174) = .pointer (some ⟨q, 2, none⟩) from (List.cons.inj (hj.fact 9 (by decide) (dep hr (by kernel_rfl)))).1) (by omega)
      refine wpOpIn_step rfl fun K hK => ?_
      go_simp
      exact hK _ _ (RFNext.pure (d := 175) rfl hI (hz' (by omega)) rfl rfl)
    · refine wpOpIn_step rfl fun K hK => ?_
      go_simp
      exact hK _ _ (RFNext.pure (d := 176) rfl hI (hz' (by omega)) rfl rfl)
    · obtain ⟨A1, c1, hv1, hc1, hr1⟩ := hj.fact 6 (by decide) (dep hr (by kernel_rfl))
      have f171 := at_slot hj.size (show Act.eval _ (.tmp 171) = stockV rs rl rw many A1 n c1 from (List.cons.inj hv1).1) (by omega)
      have f173 := at_slot hj.size (show Act.eval _ (.tmp 173) = .int .i64 (l k) from (List.cons.inj (hj.fact 8 (by decide) (dep hr (by kernel_rfl)))).1) (by omega)
      have f175 := at_slot hj.size (show Act.eval _ (.tmp 175) = .int .i64 y from (List.cons.inj (hj.fact 10 (by decide) (dep hr (by kernel_rfl)))).1) (by omega)
      have f176 := at_slot hj.size (show Act.eval _ (.tmp 176) = .agg #[.int .i64 v, .int .i64 v] from (List.cons.inj (hj.fact 11 (by decide) (dep hr (by kernel_rfl)))).1) (by omega)
      refine wpOpIn_step rfl fun K hK => ?_
      go_simp
      refine (Put_any rs rl rw many A1 n c1 (l k) y _ v v w hn hlk hc1 hy (Lib.hid hr1)).mono ?_
      rintro e w' ⟨A2, c2, rfl, hc2, hrow, hb'⟩
      exact hK _ _ (RFNext.grow (d := 177) (fun i vs h => PutsF.below hb' i vs h) rfl (hI.trans (hb'.mono hI.size)) (hz' (by omega)) rfl ⟨A2, c2, rfl, hc2, hrow⟩)
    · refine wpOpIn_step rfl fun K hK => ?_
      go_simp
      exact hK _ _ (RFNext.grow (d := 16) (fun i vs h => PutsF.below ((Below.refl _ _).alloc (Nat.le_refl _) _) i vs h) rfl (hI.alloc hI.size _) (hz' (by omega)) rfl ⟨w.heap.size, rfl, hI.size, 0, 0, 0, 0, .slice none 0 0, heap_new _ _, fun s => by simp⟩)
    · obtain ⟨p, hpv, hpl, hbx⟩ := hj.fact 13 (by decide) (dep hr (by kernel_rfl))
      obtain ⟨A2, c2, hv2, hc2, hr2⟩ := hj.fact 12 (by decide) (dep hr (by kernel_rfl))
      have f16 := at_slot hj.size (show Act.eval _ (.tmp 16) = .pointer (some ⟨p, 0, none⟩) from (List.cons.inj hpv).1) (by omega)
      have f177 := at_slot hj.size (show Act.eval _ (.tmp 177) = stockV rs rl rw many A2 n c2 from (List.cons.inj hv2).1) (by omega)
      have hbx' := hbx
      obtain ⟨i0, i1, i2, i3, vv, hbl, hvs⟩ := hbx'
      have zz := frozen_no hbl
      obtain ⟨c0', c1', c2', c3', c4'⟩ : w.cell? ⟨p, 0, none⟩ = some (.int .i64 i0) ∧ w.cell? ⟨p, 1, none⟩ = some (.int .i64 i1) ∧ w.cell? ⟨p, 2, none⟩ = some (.int .i64 i2) ∧ w.cell? ⟨p, 3, none⟩ = some (.int .i64 i3) ∧ w.cell? ⟨p, 4, none⟩ = some vv := ⟨by simp [World.cell?, hbl], by simp [World.cell?, hbl], by simp [World.cell?, hbl], by simp [World.cell?, hbl], by simp [World.cell?, hbl]⟩
      have hpne := shafts_box hr2 hlj hvs hbl
      refine wpOpIn_step rfl fun K hK => ?_
      go_simp
      refine hK _ _ ⟨⟨undef, rfl⟩, ((((hI.setCell hpl _).setCell hpl _).setCell hpl _).setCell hpl _).setCell hpl _, fun i hi hne hl h => ?_, ?_⟩
      · exact puts_store hbl hlj hvs i hne _ h
      · refine ⟨p, A2, c2, ?_, hpl, by simp [World.setCell, Array.getElem?_modify, hbl], hc2, shafts_far' (shafts_far' (shafts_far' (shafts_far' (shafts_far' hr2 hpne _) hpne _) hpne _) hpne _) hpne _⟩
        exact hpv
  · obtain ⟨p, A2, c2, hpv, hpl, hbx, hc2, hr2⟩ := hall 14 (by decide)
    have hI := Lib.hid hj.inv
    have s16 : a.eval (.tmp 16) = .pointer (some ⟨p, 0, none⟩) := (List.cons.inj hpv).1
    have t3 := (hj.old 3 (oldB_use (by kernel_rfl))).trans s3
    have t7 := (hj.old 7 (oldB_use (by kernel_rfl))).trans s7
    have hadf := hj.defers
    have haz := hj.size
    have HBX := Lib.hid hbx
    have HR2 := Lib.hid hr2
    clear hj hall hpv hbx hr2
    have hst2 : Hid (StockOk rs rl rw many n (putSh (putSh sh (l j) y u u) (l k) y v v)) := Lib.hid ((hst.out.put hy hu0 (Int.le_refl _) hu1).put hy hv0 (Int.le_refl _) hv1)
    rw [act_out a hadf, haz]
    simp only [show List.range 209 = [0,1,2,3,4,5,6,7,8,9,10,11,12,13,14,15,16,17,18,19,20,21,22,23,24,25,26,27,28,29,30,31,32,33,34,35,36,37,38,39,40,41,42,43,44,45,46,47,48,49,50,51,52,53,54,55,56,57,58,59,60,61,62,63,64,65,66,67,68,69,70,71,72,73,74,75,76,77,78,79,80,81,82,83,84,85,86,87,88,89,90,91,92,93,94,95,96,97,98,99,100,101,102,103,104,105,106,107,108,109,110,111,112,113,114,115,116,117,118,119,120,121,122,123,124,125,126,127,128,129,130,131,132,133,134,135,136,137,138,139,140,141,142,143,144,145,146,147,148,149,150,151,152,153,154,155,156,157,158,159,160,161,162,163,164,165,166,167,168,169,170,171,172,173,174,175,176,177,178,179,180,181,182,183,184,185,186,187,188,189,190,191,192,193,194,195,196,197,198,199,200,201,202,203,204,205,206,207,208] from rfl, List.map_cons, List.map_nil, s16, t3, t7]
    change R _ _
    refine HR.out _ _ ?_
    clear HR hadf haz s16 t3 t7
    have E0 := Below.old hI.out e0
    have E1 := Below.old hI.out e1
    have E2 := Below.old hI.out e2
    have E3 := Below.old hI.out e3
    have E4 := Below.old hI.out e4
    obtain ⟨b0, b1, b2, b3, b4⟩ : w.cell? ⟨p, 0, none⟩ = some (.int .i64 rs) ∧ w.cell? ⟨p, 1, none⟩ = some (.int .i64 rl) ∧ w.cell? ⟨p, 2, none⟩ = some (.int .i64 rw) ∧ w.cell? ⟨p, 3, none⟩ = some (.int .i64 many) ∧ w.cell? ⟨p, 4, none⟩ = some (.slice A2 n c2) := ⟨by simp [World.cell?, HBX.out], by simp [World.cell?, HBX.out], by simp [World.cell?, HBX.out], by simp [World.cell?, HBX.out], by simp [World.cell?, HBX.out]⟩
    have HW := Lib.hid (hb0.out.trans (hI.out.mono hb0.out.size))
    have HSH := Lib.hid (hshw.out.below hI.out)
    have HIN := Lib.hid (hiw.out.below hI.out)
    refine reach_seq fin6 room6 ?_
    refine reach_code (n := 0) rfl fin6 room6 fun R hR => ?_
    have HR := Lib.hid hR
    clear hR
    gi_wp2_with (gi_at_call 15; refine (Match_any rs rl rw many A2 n c2 _ LA m lc l _ hc2 hst2 (Lib.hid HR2.out) hm hmc hl hasc HIN).mono ?_; rintro e w3 ⟨rfl, hb3⟩
                 (have E0 := Below.old hb3 E0); (have E1 := Below.old hb3 E1); (have E2 := Below.old hb3 E2); (have E3 := Below.old hb3 E3); (have E4 := Below.old hb3 E4)
                 have HW3 := Lib.hid (HW.out.trans (hb3.mono HW.out.size))
                 have HSH3 := Lib.hid (HSH.out.below hb3)
                 have HIN3 := Lib.hid (HIN.out.below hb3)
                 clear hb3)
    rw [hno.out]
    change R _ _
    refine HR.out _ _ ?_
    clear HR
    refine reach_seq fin6 room6 ?_
    refine reach_code (n := 0) rfl fin6 room6 fun R hR => ?_
    have HR := Lib.hid hR
    clear hR
    gi_wp2_with (first
      | (gi_at_call 39; refine (closest_any rs rl rw many b o n c sh LA m lc l _ hn hc HSH3 hm hmc hl HIN3).mono ?_; rintro e w4 ⟨A3, c3, sh3, rfl, hc3, hr3, hclo, hb4⟩
         have HR3 := Lib.hid hr3
         have HCL := Lib.hid hclo
         have HW4 := Lib.hid (HW3.out.trans (hb4.mono HW3.out.size))
         have HIN4 := Lib.hid (HIN3.out.below hb4)
         clear hb4 hr3 hclo)
      | (gi_at_call 15; refine (Match_any rs rl rw many A3 n c3 sh3 LA m lc l _ hc3 (closest_stock hst HCL) HR3 hm hmc hl hasc HIN4).mono ?_; rintro e w5 ⟨rfl, hb5⟩
         have HW5 := Lib.hid (HW4.out.trans (hb5.mono HW4.out.size))
         clear hb5))
    rw [closest_match hst hl hmay HCL]
    change R _ _
    refine HR.out _ _ ?_
    clear HR
    refine reach_seq fin6 room6 (reach_region fin6 room6 ?_)
    refine reach_pre2 (n := 0) 15 [15, 16, 17] rfl rfl rfl fin6 room6 fun R hR => ?_
    have HR := Lib.hid hR
    clear hR
    simp only [List.take_succ_cons, List.take_zero]
    gi_wp2
    change R _ _
    refine HR.out _ _ (Reach.here ?_)
    rw [← HS.out]
    exact ⟨.late _ _ _ 15 16 17 14 206 207 208 ⟨⟨_, rfl, rfl, rfl, rfl⟩, rfl, ⟨_, rfl, rfl, rfl, rfl⟩, ⟨_, rfl, rfl, rfl, rfl⟩, by decide⟩ (by omega) (by omega) rfl rfl rfl (by omega), HW5.out⟩
end Go.Proofs.YtpdmgecbapmgdaaGreat
end
section
namespace Go.Proofs.YtpdmgecbapmgdaaGreat
open Go.RowKit Go.Cx Go.Conc
theorem true_walk (rs rl rw many : Int) (A : Option Addr) (n c : Nat) (sh : Nat → Shaft) (bits : Int) (PA : Option Addr) (pn pc : Nat) (p : Nat → Int) (W : World) (hc : n ≤ c) (hpc : pn ≤ pc) (hsh : Hid (ShaftsAt W A n sh)) (hp : Hid (PicksAt W PA pn p)) :
    Reach Fc Tryz.prog (lawFr 6) [] (SeekT W) { tmps := #[stockV rs rl rw many A n c, .int .u16 bits, .slice PA pn pc] ++ Array.replicate 206 undef, defers := [] } [.code A6] W := by
  have hB1 : ∀ x, Below W.heap.size W (W.alloc x) := fun x => (Below.refl _ _).alloc (Nat.le_refl _) _
  have HB1 := Lib.hid hB1
  clear hB1
  generalize hS : SeekT W = S
  have HS := Lib.hid hS
  clear hS
  simp only [A6, Tryz.f6]
  simp only [List.size_toArray, List.length_cons, List.length_nil, Nat.reduceAdd, Nat.reduceSub, Array.replicate_succ, Array.replicate_zero, List.push_toArray, List.append_toArray, List.nil_append, List.cons_append]
  refine reach_seq fin6 room6 ?_
  refine reach_code (n := 0) rfl fin6 room6 fun R hR => ?_
  have HR := Lib.hid hR
  clear hR
  gi_wp2
  change R _ _
  refine HR.out _ _ ?_
  clear HR
  refine reach_seq fin6 room6 (reach_seq fin6 room6 ?_)
  refine reach_code (n := 0) rfl fin6 room6 fun R hR => ?_
  have HR := Lib.hid hR
  clear hR
  gi_wp2_with (first
    | (gi_at_call 33; refine (Fit_any _ _ _ _ _ _ _ sh _ hc (Lib.hid (hsh.out.below (HB1.out _)))).mono ?_; rintro e w2 ⟨fit, rfl, hfit, hb2⟩
       have e0 : w2.cell? ⟨W.heap.size, 0, none⟩ = some (.int .i64 rs) := Below.old hb2 (by go_simp)
       have e1 : w2.cell? ⟨W.heap.size, 1, none⟩ = some (.int .i64 rl) := Below.old hb2 (by go_simp)
       have e2 : w2.cell? ⟨W.heap.size, 2, none⟩ = some (.int .i64 rw) := Below.old hb2 (by go_simp)
       have e3 : w2.cell? ⟨W.heap.size, 3, none⟩ = some (.int .i64 many) := Below.old hb2 (by go_simp)
       have e4 : w2.cell? ⟨W.heap.size, 4, none⟩ = some (.slice A n c) := Below.old hb2 (by go_simp)
       have HB2 := Lib.hid ((HB1.out _).trans (hb2.mono (HB1.out _).size))
       clear hb2))
  change R _ _
  refine HR.out _ _ ?_
  clear HR
  refine reach_cond (!fit) rfl fin6 room6 ?_
  cases fit with
  | false =>
    simp only [Bool.not_false, if_true]
    refine reach_seq fin6 room6 (reach_region fin6 room6 (Reach.here ?_))
    rw [← HS.out]
    exact ⟨.early _ _ _ 0 1 22 ⟨⟨_, rfl, rfl, rfl, rfl⟩, ⟨_, rfl, rfl, rfl, rfl⟩⟩ (by omega) rfl rfl, HB2.out⟩
  | true =>
    simp only [Bool.not_true, Bool.false_eq_true, if_false]
    refine reach_skip (n := 0) fin6 room6 rfl ?_
    have hst := Lib.hid (hfit rfl)
    clear hfit
    have hn := hst.out.count
    refine reach_seq fin6 room6 ?_
    refine reach_code (n := 0) rfl fin6 room6 fun R hR => ?_
    have HR := Lib.hid hR
    clear hR
    gi_wp2_with (first
      | (gi_at_call 34; refine (Listed_any _ _ _ _ _ _ _ _ _ hn hc).mono ?_; rintro e w3 ⟨xs, LA, lc, rfl, h1, h2, h3, h4, h5, hb3⟩
         have e0 := Below.old hb3 e0
         have e1 := Below.old hb3 e1
         have e2 := Below.old hb3 e2
         have e3 := Below.old hb3 e3
         have e4 := Below.old hb3 e4
         have HB3 := Lib.hid (HB2.out.trans (hb3.mono HB2.out.size))
         have H3 := Lib.hid h3
         have H4 := Lib.hid h4
         have H5 := Lib.hid h5
         clear hb3 h3 h4 h5))
    change R _ _
    refine HR.out _ _ ?_
    clear HR
    have hl : ∀ k, k < xs.length → xs.getD k 0 < n := fun k hk => H4.out _ (by rw [List.getD_eq_getElem?_getD, List.getElem?_eq_getElem hk]; exact List.getElem_mem hk)
    have ha : ∀ j k, j < k → k < xs.length → xs.getD j 0 < xs.getD k 0 := fun j k hj hk => by
      have := List.pairwise_iff_getElem.1 H3.out j k (by omega) hk hj
      simpa [List.getD_eq_getElem?_getD, List.getElem?_eq_getElem hk, List.getElem?_eq_getElem (show j < xs.length by omega)] using this
    obtain ⟨l, hle⟩ : ∃ l : Nat → Nat, ∀ k, l k = xs.getD k 0 := ⟨_, fun _ => rfl⟩
    have HL : Hid (∀ k, k < xs.length → l k < n) := Lib.hid fun k hk => by rw [hle]; exact hl k hk
    have HA : Hid (∀ j k, j < k → k < xs.length → l j < l k) := Lib.hid fun j k hj hk => by rw [hle, hle]; exact ha j k hj hk
    have H5 : Hid (IntsAt w3 LA xs.length fun k => (l k : Int)) := Lib.hid (by rw [show (fun k => ((l k : Nat) : Int)) = fun k => ((xs.getD k 0 : Nat) : Int) from funext fun k => by rw [hle]]; exact H5.out)
    clear hl ha H3 H4 hle
    generalize xs.length = m at *
    have hm9 : m ≤ 9 := by omega
    refine reach_seq fin6 room6 ?_
    refine reach_code (n := 0) rfl fin6 room6 fun R hR => ?_
    have HR := Lib.hid hR
    clear hR
    gi_wp2_with (first
      | (gi_at_call 15; refine (Match_any rs rl rw many A n c sh LA m lc l _ hc hst (Lib.hid (hsh.out.below HB3.out)) hm9 h1 HL HA H5).mono ?_; rintro e w4 ⟨rfl, hb4⟩
         have e0 := Below.old hb4 e0
         have e1 := Below.old hb4 e1
         have e2 := Below.old hb4 e2
         have e3 := Below.old hb4 e3
         have e4 := Below.old hb4 e4
         have HB4 := Lib.hid (HB3.out.trans (hb4.mono HB3.out.size))
         have H6 := Lib.hid (H5.out.below hb4)
         clear hb4))
    change R _ _
    refine HR.out _ _ ?_
    clear HR
    refine reach_seq fin6 room6 ?_
    refine reach_code (n := 0) rfl fin6 room6 fun R hR => ?_
    have HR := Lib.hid hR
    clear hR
    gi_wp2_with (first
      | (gi_at_call 19; refine (Apart_any rs rl rw many A n c sh LA m lc l _ hc hst (Lib.hid (hsh.out.below HB4.out)) hm9 h1 HL HA H6).mono ?_; rintro e w5 ⟨sl, base, rfl, hown, hbase, hb5⟩
         have e0 := Below.old hb5 e0
         have e1 := Below.old hb5 e1
         have e2 := Below.old hb5 e2
         have e3 := Below.old hb5 e3
         have e4 := Below.old hb5 e4
         have HB5 := Lib.hid (HB4.out.trans (hb5.mono HB4.out.size))
         have H7 := Lib.hid (H6.out.below hb5)
         have HO := Lib.hid hown
         clear hb5 hown))
    change R _ _
    refine HR.out _ _ ?_
    clear HR
    refine reach_seq fin6 room6 ?_
    refine reach_code (n := 0) rfl fin6 room6 fun R hR => ?_
    have HR := Lib.hid hR
    clear hR
    gi_wp2_with (first
      | (gi_at_call 35; refine (matched_any rs rl rw many A n c sh LA m lc l PA pn pc p _ hc hpc hm9 h1 hst (Lib.hid (hsh.out.below HB5.out)) HL H7 (Lib.hid (hp.out.below HB5.out))).mono ?_; rintro e w6 ⟨is, rfl, his, hb6⟩
         have e0 := Below.old hb6 e0
         have e1 := Below.old hb6 e1
         have e2 := Below.old hb6 e2
         have e3 := Below.old hb6 e3
         have e4 := Below.old hb6 e4
         have HB6 := Lib.hid (HB5.out.trans (hb6.mono HB5.out.size))
         have H8 := Lib.hid (H7.out.below hb6)
         have HO := Lib.hid (own_below HO.out hb6)
         have HIS := Lib.hid his
         clear hb6 his))
    change R _ _
    refine HR.out _ _ ?_
    clear HR
    have htr : InTruth sh n (realZ sh pn p) := fun j hj y hy => by
      have h := (hst.out.each j hj).spans
      exact pickZ_in (h.up y hy) (choice_le hp.out _).1
    have hcase : (matchZ rs rl rw sh l m = 0 ∧ apAll rs rl rw sh l m m ≠ []) ∨ (matchZ rs rl rw sh l m = 1 ∧ is = true ∧ apAll rs rl rw sh l m m = []) ∨ (matchZ rs rl rw sh l m = 2 ∧ is = false ∧ apAll rs rl rw sh l m m ≠ []) := by
      rcases matchZ_range rs rl rw sh l m with e | e | e
      · exact .inl ⟨e, fun h => by have := ap_yes.1 h; omega⟩
      · exact .inr (.inl ⟨e, HIS.out.2 (matched_yes hst.out.rule HL.out htr e), ap_yes.2 e⟩)
      · refine .inr (.inr ⟨e, ?_, fun h => by have := ap_yes.1 h; omega⟩)
        cases his : is with
        | false => rfl
        | true => exact absurd (HIS.out.1 his) (matched_no hst.out HL.out htr e)
    have hlen : (apAll rs rl rw sh l m m = [] → sl = .slice none 0 0 ∨ ∃ g cap, sl = .slice (some ⟨g, 0, none⟩) 0 cap) ∧ (apAll rs rl rw sh l m m ≠ [] → ∃ g cap, sl = .slice (some ⟨g, 0, none⟩) (apAll rs rl rw sh l m m).length cap) := by
      rcases HO.out.2 with ⟨h, h0⟩ | ⟨g, cap, cur, h, _⟩
      · exact ⟨fun _ => .inl h, fun hne => absurd (List.length_eq_zero_iff.1 h0) hne⟩
      · exact ⟨fun he => .inr ⟨g, cap, by rw [h, he]; rfl⟩, fun _ => ⟨g, cap, h⟩⟩
    rcases hcase with ⟨e0', hne⟩ | ⟨e1', rfl, hnil⟩ | ⟨e2', rfl, hne⟩
    · obtain ⟨g, cap, rfl⟩ := hlen.2 hne
      have hpos : (apAll rs rl rw sh l m m).length ≠ 0 := fun h => hne (List.length_eq_zero_iff.1 h)
      have hposi : ¬ (((apAll rs rl rw sh l m m).length : Nat) : Int) = 0 := by omega
      have hposb : ((((apAll rs rl rw sh l m m).length : Nat) : Int) == 0) = false := by rw [beq_eq_false_iff_ne]; exact hposi
      rw [e0']
      refine reach_seq fin6 room6 (reach_seq fin6 room6 ?_)
      refine reach_code (n := 0) rfl fin6 room6 fun R hR => ?_
      have HR := Lib.hid hR
      clear hR
      gi_wp2
      change R _ _
      refine HR.out _ _ ?_
      clear HR
      refine reach_cond false rfl fin6 room6 ?_
      simp only [Bool.false_eq_true, if_false]
      refine reach_skip (n := 0) fin6 room6 rfl ?_
      refine reach_seq fin6 room6 (reach_seq fin6 room6 ?_)
      refine reach_code (n := 0) rfl fin6 room6 fun R hR => ?_
      have HR := Lib.hid hR
      clear hR
      gi_wp2
      change R _ _
      refine HR.out _ _ ?_
      clear HR
      refine reach_cond false rfl fin6 room6 ?_
      simp only [Bool.false_eq_true, if_false]
      refine reach_skip (n := 0) fin6 room6 rfl ?_
      obtain ⟨x0, rest, hL⟩ := List.exists_cons_of_ne_nil hne
      obtain ⟨j, k, hjk, hkm, ex1, ex2, hy3, exs, hn1⟩ := apAll_ok (rs := rs) (rl := rl) (rw := rw) (sh := sh) (l := l) (m := m) m (Nat.le_refl _) x0 (by rw [hL]; exact List.mem_cons_self ..)
      obtain ⟨one, two, y, sure⟩ := x0
      simp only at ex1 ex2 hy3 exs hn1
      subst ex1
      subst ex2
      have hs0 : sure = 0 := by
        have h2 : ¬ sure = 2 := fun e => by
          have := matchZ_two.2 ⟨j, k, hjk, hkm, y, hy3, by rw [← exs]; exact e⟩
          omega
        have h3 := nearZ_range (allowOf rs rl rw y) (spanA (sh (l j)) y) (spanB (sh (l j)) y) (spanA (sh (l k)) y) (spanB (sh (l k)) y)
        rw [show nearZ (allowOf rs rl rw y) (spanA (sh (l j)) y) (spanB (sh (l j)) y) (spanA (sh (l k)) y) (spanB (sh (l k)) y) = sure from exs.symm] at h3
        omega
      subst hs0
      have EXS : Hid (nearOf rs rl rw (sh (l j)) (sh (l k)) y = 0) := Lib.hid exs.symm
      clear exs hn1
      have hjm : j < m := by omega
      have hlj := HL.out j hjm
      have hlk := HL.out k hkm
      have hcells : w6.cell? ⟨g, 0, none⟩ = some (.int .i64 (l j)) ∧ w6.cell? ⟨g, 1, none⟩ = some (.int .i64 (l k)) ∧ w6.cell? ⟨g, 2, none⟩ = some (.int .i64 y) ∧ w6.cell? ⟨g, 3, none⟩ = some (.int .i64 0) := by
        rcases HO.out.2 with ⟨h, h0⟩ | ⟨g', cap', cur, h, _, hgb, _, _, _, htk⟩
        · cases h
        · cases h
          have hq : ∀ t, t < 4 → cur[t]? = [Value.int .i64 (l j), .int .i64 (l k), .int .i64 y, .int .i64 0][t]? := fun t ht => by
            have h1 : (cur.toList.take ((apAll rs rl rw sh l m m).length * 4))[t]? = (apVs (apAll rs rl rw sh l m m))[t]? := by rw [htk]
            rw [hL] at h1
            rw [List.getElem?_take, if_pos (by simp; omega), Array.getElem?_toList] at h1
            rw [h1]
            simp only [apVs, List.flatMap_cons, apV]
            rw [List.getElem?_append_left (by simpa using ht)]
          exact ⟨by simp only [World.cell?, hgb]; exact hq 0 (by omega), by simp only [World.cell?, hgb]; exact hq 1 (by omega), by simp only [World.cell?, hgb]; exact hq 2 (by omega), by simp only [World.cell?, hgb]; exact hq 3 (by omega)⟩
      obtain ⟨q0, q1, q2, q3⟩ := hcells
      have hgz : g < w6.heap.size := World.block_lt_of_cell? _ _ q0
      have hWz : W.heap.size < w6.heap.size := World.block_lt_of_cell? _ _ e0
      have hy2 : (y : Int) ≤ 2 := by omega
      have hlj' : ¬ ((n : Int) ≤ (l j : Int)) := by omega
      have hlk' : ¬ ((n : Int) ≤ (l k : Int)) := by omega
      refine reach_seq fin6 room6 ?_
      refine reach_code (n := 0) rfl fin6 room6 fun R hR => ?_
      have HR := Lib.hid hR
      clear hR
      gi_wp2
      change R _ _
      refine HR.out _ _ ?_
      clear HR
      refine reach_seq fin6 room6 (reach_seq fin6 room6 ?_)
      refine reach_code (n := 0) rfl fin6 room6 fun R hR => ?_
      have HR := Lib.hid hR
      clear hR
      gi_wp2
      change R _ _
      refine HR.out _ _ ?_
      clear HR
      refine reach_cond false (by simp only [Act.eval]; simp; exact ⟨⟨hlj, hlk⟩, hy2⟩) fin6 room6 ?_
      simp only [Bool.false_eq_true, if_false]
      refine reach_skip (n := 0) fin6 room6 rfl ?_
      obtain ⟨b, o, rfl, _⟩ := hsh.out (l j) hlj
      refine reach_seq fin6 room6 ?_
      refine reach_code (n := 0) rfl fin6 room6 fun R hR => ?_
      have HR := Lib.hid hR
      clear hR
      have HW7 : Hid (Below w6.heap.size w6 (w6.alloc (.cells #[.int .i64 (l j), .int .i64 (l k), .int .i64 y, .int .i64 0] 62))) := Lib.hid ((Below.refl _ _).alloc (Nat.le_refl _) _)
      have E4 : World.cell? (w6.alloc (.cells #[.int .i64 (l j), .int .i64 (l k), .int .i64 y, .int .i64 0] 62)) ⟨W.heap.size, 4, none⟩ = some (.slice (some ⟨b, o, none⟩) n c) := Below.old HW7.out e4
      have P0 : World.cell? (w6.alloc (.cells #[.int .i64 (l j), .int .i64 (l k), .int .i64 y, .int .i64 0] 62)) ⟨w6.heap.size, 0, none⟩ = some (.int .i64 (l j)) := by simp
      have P1 : World.cell? (w6.alloc (.cells #[.int .i64 (l j), .int .i64 (l k), .int .i64 y, .int .i64 0] 62)) ⟨w6.heap.size, 1, none⟩ = some (.int .i64 (l k)) := by simp
      have P2 : World.cell? (w6.alloc (.cells #[.int .i64 (l j), .int .i64 (l k), .int .i64 y, .int .i64 0] 62)) ⟨w6.heap.size, 2, none⟩ = some (.int .i64 y) := by simp
      generalize hw7 : (w6.alloc (.cells #[.int .i64 (l j), .int .i64 (l k), .int .i64 y, .int .i64 0] 62)) = w7 at *
      refine wpIn_region_two 18 14 15 [(116, .pointer (some ⟨W.heap.size, 4, none⟩)), (117, .slice (some ⟨b, o, none⟩) n c), (118, .pointer (some ⟨w6.heap.size, 0, none⟩)), (119, .int .i64 (l j)), (120, .pointer (some ⟨b, o + l j * 7, none⟩)), (121, .agg #[.string (sh (l j)).name, .int .i64 (sh (l j)).s0, .int .i64 (sh (l j)).s1, .int .i64 (sh (l j)).l0, .int .i64 (sh (l j)).l1, .int .i64 (sh (l j)).w0, .int .i64 (sh (l j)).w1]), (122, .pointer (some ⟨w6.heap.size, 2, none⟩)), (123, .int .i64 y), (124, .agg #[.int .i64 (spanA (sh (l j)) y), .int .i64 (spanB (sh (l j)) y)]), (125, .pointer (some ⟨W.heap.size, 4, none⟩)), (126, .slice (some ⟨b, o, none⟩) n c), (127, .pointer (some ⟨w6.heap.size, 1, none⟩)), (128, .int .i64 (l k)), (129, .pointer (some ⟨b, o + l k * 7, none⟩)), (130, .agg #[.string (sh (l k)).name, .int .i64 (sh (l k)).s0, .int .i64 (sh (l k)).s1, .int .i64 (sh (l k)).l0, .int .i64 (sh (l k)).l1, .int .i64 (sh (l k)).w0, .int .i64 (sh (l k)).w1]), (131, .pointer (some ⟨w6.heap.size, 2, none⟩)), (132, .int .i64 y), (133, .agg #[.int .i64 (spanA (sh (l k)) y), .int .i64 (spanB (sh (l k)) y)])] (I := fun w => Below w7.heap.size w7 w) (lo := w7.heap.size) (z := 209) (u1 := spanA (sh (l j)) y) (v1 := spanB (sh (l j)) y) (u2 := spanA (sh (l k)) y) (v2 := spanB (sh (l k)) y) (by kernel_rfl) (by kernel_rfl) rfl rfl (by kernel_rfl) (by kernel_rfl) (by kernel_rfl) rfl rfl (fun w h => h.size) (fun w o h => h.alloc h.size o) (fun w p j x h hp => h.setCell hp x) (Below.refl _ _).drew ?_ ?_ ?_ ?_ ?_ ?_
      · intro j' a w hj' hd hz hold hf hI
        have HI := Lib.hid hI
        clear hI
        have t4 := Below.old HI.out E4
        have t10 := Below.old HI.out P0
        have t11 := Below.old HI.out P1
        have t12 := Below.old HI.out P2
        obtain ⟨b1, o1, eA1, hrj⟩ := hsh.out (l j) hlj
        cases eA1
        obtain ⟨x0, x1, x2, x3, x4, x5, x6⟩ := (hrj.below HB6.out).below (HW7.out.trans (HI.out.mono HW7.out.size))
        obtain ⟨b1, o1, eA1, hrk⟩ := hsh.out (l k) hlk
        cases eA1
        obtain ⟨y0, y1, y2, y3, y4, y5, y6⟩ := (hrk.below HB6.out).below (HW7.out.trans (HI.out.mono HW7.out.size))
        have s3 := at_slot hz (hold 3 (by intro y' hy' e; subst e; simp at hy')) (by omega)
        have s13 := at_slot hz (hold 13 (by intro y' hy' e; subst e; simp at hy')) (by omega)
        clear hold
        have hjs : j' = 0 ∨ j' = 1 ∨ j' = 2 ∨ j' = 3 ∨ j' = 4 ∨ j' = 5 ∨ j' = 6 ∨ j' = 7 ∨ j' = 8 ∨ j' = 9 ∨ j' = 10 ∨ j' = 11 ∨ j' = 12 ∨ j' = 13 ∨ j' = 14 ∨ j' = 15 ∨ j' = 16 ∨ j' = 17 := by omega
        rcases hjs with rfl | rfl | rfl | rfl | rfl | rfl | rfl | rfl | rfl | rfl | rfl | rfl | rfl | rfl | rfl | rfl | rfl | rfl
        · refine wpOpIn_step rfl fun K hK => ?_
          go_simp
          exact hK _ _ ⟨_, _, rfl, rfl, rfl, HI.out, Below.refl _ _⟩
        · have f116 := at_slot hz (hf 0 116 _ (by kernel_rfl) rfl) (by omega)
          refine wpOpIn_step rfl fun K hK => ?_
          go_simp
          exact hK _ _ ⟨_, _, rfl, rfl, rfl, HI.out, Below.refl _ _⟩
        · refine wpOpIn_step rfl fun K hK => ?_
          go_simp
          exact hK _ _ ⟨_, _, rfl, rfl, rfl, HI.out, Below.refl _ _⟩
        · have f118 := at_slot hz (hf 2 118 _ (by kernel_rfl) rfl) (by omega)
          refine wpOpIn_step rfl fun K hK => ?_
          go_simp
          exact hK _ _ ⟨_, _, rfl, rfl, rfl, HI.out, Below.refl _ _⟩
        · have f117 := at_slot hz (hf 1 117 _ (by kernel_rfl) rfl) (by omega)
          have f119 := at_slot hz (hf 3 119 _ (by kernel_rfl) rfl) (by omega)
          refine wpOpIn_step rfl fun K hK => ?_
          go_simp
          exact hK _ _ ⟨_, _, rfl, rfl, rfl, HI.out, Below.refl _ _⟩
        · have f120 := at_slot hz (hf 4 120 _ (by kernel_rfl) rfl) (by omega)
          refine wpOpIn_step rfl fun K hK => ?_
          go_simp
          exact hK _ _ ⟨_, _, rfl, rfl, rfl, HI.out, Below.refl _ _⟩
        · refine wpOpIn_step rfl fun K hK => ?_
          go_simp
          exact hK _ _ ⟨_, _, rfl, rfl, rfl, HI.out, Below.refl _ _⟩
        · have f122 := at_slot hz (hf 6 122 _ (by kernel_rfl) rfl) (by omega)
          refine wpOpIn_step rfl fun K hK => ?_
          go_simp
          exact hK _ _ ⟨_, _, rfl, rfl, rfl, HI.out, Below.refl _ _⟩
        · have f121 := at_slot hz (hf 5 121 _ (by kernel_rfl) rfl) (by omega)
          have f123 := at_slot hz (hf 7 123 _ (by kernel_rfl) rfl) (by omega)
          refine wpOpIn_step rfl fun K hK => ?_
          go_simp
          refine (Measured_any (sh (l j)) y hy3 _).mono ?_
          rintro e w' ⟨rfl, hb'⟩
          exact hK _ _ ⟨_, _, rfl, rfl, rfl, HI.out.trans (hb'.mono HI.out.size), hb'⟩
        · refine wpOpIn_step rfl fun K hK => ?_
          go_simp
          exact hK _ _ ⟨_, _, rfl, rfl, rfl, HI.out, Below.refl _ _⟩
        · have f125 := at_slot hz (hf 9 125 _ (by kernel_rfl) rfl) (by omega)
          refine wpOpIn_step rfl fun K hK => ?_
          go_simp
          exact hK _ _ ⟨_, _, rfl, rfl, rfl, HI.out, Below.refl _ _⟩
        · refine wpOpIn_step rfl fun K hK => ?_
          go_simp
          exact hK _ _ ⟨_, _, rfl, rfl, rfl, HI.out, Below.refl _ _⟩
        · have f127 := at_slot hz (hf 11 127 _ (by kernel_rfl) rfl) (by omega)
          refine wpOpIn_step rfl fun K hK => ?_
          go_simp
          exact hK _ _ ⟨_, _, rfl, rfl, rfl, HI.out, Below.refl _ _⟩
        · have f126 := at_slot hz (hf 10 126 _ (by kernel_rfl) rfl) (by omega)
          have f128 := at_slot hz (hf 12 128 _ (by kernel_rfl) rfl) (by omega)
          refine wpOpIn_step rfl fun K hK => ?_
          go_simp
          exact hK _ _ ⟨_, _, rfl, rfl, rfl, HI.out, Below.refl _ _⟩
        · have f129 := at_slot hz (hf 13 129 _ (by kernel_rfl) rfl) (by omega)
          refine wpOpIn_step rfl fun K hK => ?_
          go_simp
          exact hK _ _ ⟨_, _, rfl, rfl, rfl, HI.out, Below.refl _ _⟩
        · refine wpOpIn_step rfl fun K hK => ?_
          go_simp
          exact hK _ _ ⟨_, _, rfl, rfl, rfl, HI.out, Below.refl _ _⟩
        · have f131 := at_slot hz (hf 15 131 _ (by kernel_rfl) rfl) (by omega)
          refine wpOpIn_step rfl fun K hK => ?_
          go_simp
          exact hK _ _ ⟨_, _, rfl, rfl, rfl, HI.out, Below.refl _ _⟩
        · have f130 := at_slot hz (hf 14 130 _ (by kernel_rfl) rfl) (by omega)
          have f132 := at_slot hz (hf 16 132 _ (by kernel_rfl) rfl) (by omega)
          refine wpOpIn_step rfl fun K hK => ?_
          go_simp
          refine (Measured_any (sh (l k)) y hy3 _).mono ?_
          rintro e w' ⟨rfl, hb'⟩
          exact hK _ _ ⟨_, _, rfl, rfl, rfl, HI.out.trans (hb'.mono HI.out.size), hb'⟩
      · intro a w hd hz
        refine wpOpIn_step rfl fun K hK => ?_
        go_simp
        exact hK _ _ ⟨rfl, rfl, rfl⟩
      · intro a w hd hz
        refine wpOpIn_step rfl fun K hK => ?_
        go_simp
        exact hK _ _ ⟨rfl, rfl, rfl⟩
      · intro a w p' u v hd hz hp' hsp hf
        have f14 := at_slot hz hp' (by omega)
        have f124 := at_slot hz (hf 8 124 _ (by kernel_rfl) rfl) (by omega)
        obtain ⟨cp, cq⟩ := hsp.cell
        have fz0 := hsp.frozen 0
        have fz1 := hsp.frozen 1
        refine wpOpIn_step rfl fun K hK => ?_
        go_simp
        exact hK _ _ ⟨hd, rfl, rfl⟩
      · intro a w p' u v hd hz hp' hsp hf
        have f15 := at_slot hz hp' (by omega)
        have f133 := at_slot hz (hf 17 133 _ (by kernel_rfl) rfl) (by omega)
        obtain ⟨cp, cq⟩ := hsp.cell
        have fz0 := hsp.frozen 0
        have fz1 := hsp.frozen 1
        refine wpOpIn_step rfl fun K hK => ?_
        go_simp
        exact hK _ _ ⟨hd, rfl, rfl⟩
      · intro w pa pb hI hab hpa hpb hspa hspb
        have HI7 := Lib.hid hI
        clear hI
        simp only [List.foldl_cons, List.foldl_nil, List.setIfInBounds_toArray, List.set_cons_succ, List.set_cons_zero]
        change R _ _
        refine HR.out _ _ ?_
        clear HR
        obtain ⟨ca, cb⟩ := hspa.cell
        obtain ⟨cc, cd⟩ := hspb.cell
        have bx := ((hst.out.each _ hlj).spans.least y hy3)
        have bX := ((hst.out.each _ hlj).spans.most y hy3)
        have bm := ((hst.out.each _ hlj).spans.up y hy3)
        have by1 := ((hst.out.each _ hlk).spans.least y hy3)
        have bY := ((hst.out.each _ hlk).spans.most y hy3)
        have bn := ((hst.out.each _ hlk).spans.up y hy3)
        have wa : IntKind.wrap .i64 (spanB (sh (l j)) y - spanA (sh (l k)) y) = spanB (sh (l j)) y - spanA (sh (l k)) y := by simp [IntKind.wrap, IntKind.signed, IntKind.bits]; omega
        have wb : IntKind.wrap .i64 (spanB (sh (l k)) y - spanA (sh (l j)) y) = spanB (sh (l k)) y - spanA (sh (l j)) y := by simp [IntKind.wrap, IntKind.signed, IntKind.bits]; omega
        refine reach_seq fin6 room6 (reach_seq fin6 room6 ?_)
        refine reach_code (n := 0) rfl fin6 room6 fun R hR => ?_
        have HR := Lib.hid hR
        clear hR
        gi_wp2
        change R _ _
        refine HR.out _ _ ?_
        clear HR
        refine reach_cond (decide (spanB (sh (l j)) y - spanA (sh (l k)) y < spanB (sh (l k)) y - spanA (sh (l j)) y)) (by simp [Act.eval]) fin6 room6 ?_
        by_cases hlt : spanB (sh (l j)) y - spanA (sh (l k)) y < spanB (sh (l k)) y - spanA (sh (l j)) y
        · simp only [hlt, decide_true, if_true]
          refine reach_code (n := 0) rfl fin6 room6 fun R hR => ?_
          have HR := Lib.hid hR
          clear hR
          refine wpIn_region_L 10 [(145, .pointer (some ⟨pa, 0, none⟩)), (146, .int .i64 (spanA (sh (l j)) y)), (147, .pointer (some ⟨pa, 0, none⟩)), (148, .int .i64 (spanA (sh (l j)) y)), (149, .agg #[.int .i64 (spanA (sh (l j)) y), .int .i64 (spanA (sh (l j)) y)]), (150, .pointer (some ⟨pb, 1, none⟩)), (151, .int .i64 (spanB (sh (l k)) y)), (152, .pointer (some ⟨pb, 1, none⟩)), (153, .int .i64 (spanB (sh (l k)) y)), (154, .agg #[.int .i64 (spanB (sh (l k)) y), .int .i64 (spanB (sh (l k)) y)])] (I := fun w => Below w7.heap.size w7 w ∧ SpanAt w pa (spanA (sh (l j)) y) (spanB (sh (l j)) y) ∧ SpanAt w pb (spanA (sh (l k)) y) (spanB (sh (l k)) y)) (z := 209) (by kernel_rfl) (by kernel_rfl) (by kernel_rfl) (by kernel_rfl) (by show 10 < 12; omega) ⟨rfl, by kernel_rfl⟩ (by kernel_rfl) (by kernel_rfl) rfl rfl ⟨HI7.out.drew, hspa.below (Below.refl _ _).drew, hspb.below (Below.refl _ _).drew⟩ ?_ ?_
          · intro j' a w hj' hd hz hold hf hI
            have HI := Lib.hid hI
            clear hI
            obtain ⟨ca, cb⟩ := HI.out.2.1.cell
            obtain ⟨cc, cd⟩ := HI.out.2.2.cell
            have s14 := at_slot hz (hold 14 (by intro y' hy' e; subst e; simp at hy')) (by omega)
            have s15 := at_slot hz (hold 15 (by intro y' hy' e; subst e; simp at hy')) (by omega)
            clear hold
            have hjs : j' = 0 ∨ j' = 1 ∨ j' = 2 ∨ j' = 3 ∨ j' = 4 ∨ j' = 5 ∨ j' = 6 ∨ j' = 7 ∨ j' = 8 ∨ j' = 9 := by omega
            rcases hjs with rfl | rfl | rfl | rfl | rfl | rfl | rfl | rfl | rfl | rfl
            · refine wpOpIn_step rfl fun K hK => ?_
              go_simp
              exact hK _ _ ⟨_, _, rfl, rfl, rfl, HI.out⟩
            · have f145 := at_slot hz (hf 0 145 _ (by kernel_rfl) rfl) (by omega)
              refine wpOpIn_step rfl fun K hK => ?_
              go_simp
              exact hK _ _ ⟨_, _, rfl, rfl, rfl, HI.out⟩
            · refine wpOpIn_step rfl fun K hK => ?_
              go_simp
              exact hK _ _ ⟨_, _, rfl, rfl, rfl, HI.out⟩
            · have f147 := at_slot hz (hf 2 147 _ (by kernel_rfl) rfl) (by omega)
              refine wpOpIn_step rfl fun K hK => ?_
              go_simp
              exact hK _ _ ⟨_, _, rfl, rfl, rfl, HI.out⟩
            · have f146 := at_slot hz (hf 1 146 _ (by kernel_rfl) rfl) (by omega)
              have f148 := at_slot hz (hf 3 148 _ (by kernel_rfl) rfl) (by omega)
              refine wpOpIn_step rfl fun K hK => ?_
              go_simp
              refine (to_any _ _ _).mono ?_
              rintro e w' ⟨rfl, hb'⟩
              exact hK _ _ ⟨_, _, rfl, rfl, rfl, ⟨HI.out.1.trans (hb'.mono HI.out.1.size), HI.out.2.1.below hb', HI.out.2.2.below hb'⟩⟩
            · refine wpOpIn_step rfl fun K hK => ?_
              go_simp
              exact hK _ _ ⟨_, _, rfl, rfl, rfl, HI.out⟩
            · have f150 := at_slot hz (hf 5 150 _ (by kernel_rfl) rfl) (by omega)
              refine wpOpIn_step rfl fun K hK => ?_
              go_simp
              exact hK _ _ ⟨_, _, rfl, rfl, rfl, HI.out⟩
            · refine wpOpIn_step rfl fun K hK => ?_
              go_simp
              exact hK _ _ ⟨_, _, rfl, rfl, rfl, HI.out⟩
            · have f152 := at_slot hz (hf 7 152 _ (by kernel_rfl) rfl) (by omega)
              refine wpOpIn_step rfl fun K hK => ?_
              go_simp
              exact hK _ _ ⟨_, _, rfl, rfl, rfl, HI.out⟩
            · have f151 := at_slot hz (hf 6 151 _ (by kernel_rfl) rfl) (by omega)
              have f153 := at_slot hz (hf 8 153 _ (by kernel_rfl) rfl) (by omega)
              refine wpOpIn_step rfl fun K hK => ?_
              go_simp
              refine (to_any _ _ _).mono ?_
              rintro e w' ⟨rfl, hb'⟩
              exact hK _ _ ⟨_, _, rfl, rfl, rfl, ⟨HI.out.1.trans (hb'.mono HI.out.1.size), HI.out.2.1.below hb', HI.out.2.2.below hb'⟩⟩
          · intro w hI
            have HI := Lib.hid hI
            clear hI
            obtain ⟨ca, cb⟩ := HI.out.2.1.cell
            obtain ⟨cc, cd⟩ := HI.out.2.2.cell
            have fa0 := HI.out.2.1.frozen 0
            have fa1 := HI.out.2.1.frozen 1
            have fb0 := HI.out.2.2.frozen 0
            have fb1 := HI.out.2.2.frozen 1
            simp only [List.foldl_cons, List.foldl_nil, List.setIfInBounds_toArray, List.set_cons_succ, List.set_cons_zero, List.drop_succ_cons, List.drop_zero]
            gi_wp2
            change R _ _
            refine HR.out _ _ ?_
            clear HR
            have hba : Below w7.heap.size w7 ((((w.setCell ⟨pa, 0, none⟩ (.int .i64 (spanA (sh (l j)) y))).setCell ⟨pa, 1, none⟩ (.int .i64 (spanA (sh (l j)) y))).setCell ⟨pb, 0, none⟩ (.int .i64 (spanB (sh (l k)) y))).setCell ⟨pb, 1, none⟩ (.int .i64 (spanB (sh (l k)) y))) := (((HI.out.1.setCell hpa _).setCell hpa _).setCell hpb _).setCell hpb _
            have hb6 := HW7.out.trans (hba.mono HW7.out.size)
            have hxy := apart_no hst.out HL.out HA.out hjk hkm hy3 EXS.out (x := spanA (sh (l j)) y) (y := spanB (sh (l k)) y) (.inl ⟨hlt, rfl, rfl⟩)
            have hz0 := (hst.out.each _ hlj).spans
            have hz1 := (hst.out.each _ hlk).spans
            have za := hz0.least y hy3
            have zb := hz0.up y hy3
            have zc := hz0.most y hy3
            have zd := hz1.least y hy3
            have ze := hz1.up y hy3
            have zf := hz1.most y hy3
            rw [← HS.out]
            refine true_tail rs rl rw many b o n c sh LA m lc l j k y w6.heap.size pa pb (spanA (sh (l j)) y) (spanB (sh (l k)) y) W _ _ hn hc hst (Lib.hid ((hsh.out.below HB6.out).below hb6)) hm9 h1 HL HA (Lib.hid (H8.out.below hb6)) hlj hlk hy3 (by omega) (by omega) (by omega) (by omega) (Lib.hid (by omega)) (Lib.hid hxy) (Lib.hid (HB6.out.trans (hb6.mono HB6.out.size))) (Below.old hb6 e0) (Below.old hb6 e1) (Below.old hb6 e2) (Below.old hb6 e3) (Below.old hb6 e4) (Below.old hba P0) (Below.old hba P1) (Below.old hba P2) (Lib.hid (((HI.out.2.1.set _ _).far (Ne.symm hab) _ _).far (Ne.symm hab) _ _)) (Lib.hid (((HI.out.2.2.far hab _ _).far hab _ _).set _ _)) ?_ ?_ ?_ ?_ ?_ ?_ ?_
            all_goals rfl
        · simp only [hlt, decide_false, Bool.false_eq_true, if_false]
          refine reach_code (n := 0) rfl fin6 room6 fun R hR => ?_
          have HR := Lib.hid hR
          clear hR
          refine wpIn_region_L 10 [(155, .pointer (some ⟨pa, 1, none⟩)), (156, .int .i64 (spanB (sh (l j)) y)), (157, .pointer (some ⟨pa, 1, none⟩)), (158, .int .i64 (spanB (sh (l j)) y)), (159, .agg #[.int .i64 (spanB (sh (l j)) y), .int .i64 (spanB (sh (l j)) y)]), (160, .pointer (some ⟨pb, 0, none⟩)), (161, .int .i64 (spanA (sh (l k)) y)), (162, .pointer (some ⟨pb, 0, none⟩)), (163, .int .i64 (spanA (sh (l k)) y)), (164, .agg #[.int .i64 (spanA (sh (l k)) y), .int .i64 (spanA (sh (l k)) y)])] (I := fun w => Below w7.heap.size w7 w ∧ SpanAt w pa (spanA (sh (l j)) y) (spanB (sh (l j)) y) ∧ SpanAt w pb (spanA (sh (l k)) y) (spanB (sh (l k)) y)) (z := 209) (by kernel_rfl) (by kernel_rfl) (by kernel_rfl) (by kernel_rfl) (by show 10 < 12; omega) ⟨rfl, by kernel_rfl⟩ (by kernel_rfl) (by kernel_rfl) rfl rfl ⟨HI7.out.drew, hspa.below (Below.refl _ _).drew, hspb.below (Below.refl _ _).drew⟩ ?_ ?_
          · intro j' a w hj' hd hz hold hf hI
            have HI := Lib.hid hI
            clear hI
            obtain ⟨ca, cb⟩ := HI.out.2.1.cell
            obtain ⟨cc, cd⟩ := HI.out.2.2.cell
            have s14 := at_slot hz (hold 14 (by intro y' hy' e; subst e; simp at hy')) (by omega)
            have s15 := at_slot hz (hold 15 (by intro y' hy' e; subst e; simp at hy')) (by omega)
            clear hold
            have hjs : j' = 0 ∨ j' = 1 ∨ j' = 2 ∨ j' = 3 ∨ j' = 4 ∨ j' = 5 ∨ j' = 6 ∨ j' = 7 ∨ j' = 8 ∨ j' = 9 := by omega
            rcases hjs with rfl | rfl | rfl | rfl | rfl | rfl | rfl | rfl | rfl | rfl
            · refine wpOpIn_step rfl fun K hK => ?_
              go_simp
              exact hK _ _ ⟨_, _, rfl, rfl, rfl, HI.out⟩
            · have f155 := at_slot hz (hf 0 155 _ (by kernel_rfl) rfl) (by omega)
              refine wpOpIn_step rfl fun K hK => ?_
              go_simp
              exact hK _ _ ⟨_, _, rfl, rfl, rfl, HI.out⟩
            · refine wpOpIn_step rfl fun K hK => ?_
              go_simp
              exact hK _ _ ⟨_, _, rfl, rfl, rfl, HI.out⟩
            · have f157 := at_slot hz (hf 2 157 _ (by kernel_rfl) rfl) (by omega)
              refine wpOpIn_step rfl fun K hK => ?_
              go_simp
              exact hK _ _ ⟨_, _, rfl, rfl, rfl, HI.out⟩
            · have f156 := at_slot hz (hf 1 156 _ (by kernel_rfl) rfl) (by omega)
              have f158 := at_slot hz (hf 3 158 _ (by kernel_rfl) rfl) (by omega)
              refine wpOpIn_step rfl fun K hK => ?_
              go_simp
              refine (to_any _ _ _).mono ?_
              rintro e w' ⟨rfl, hb'⟩
              exact hK _ _ ⟨_, _, rfl, rfl, rfl, ⟨HI.out.1.trans (hb'.mono HI.out.1.size), HI.out.2.1.below hb', HI.out.2.2.below hb'⟩⟩
            · refine wpOpIn_step rfl fun K hK => ?_
              go_simp
              exact hK _ _ ⟨_, _, rfl, rfl, rfl, HI.out⟩
            · have f160 := at_slot hz (hf 5 160 _ (by kernel_rfl) rfl) (by omega)
              refine wpOpIn_step rfl fun K hK => ?_
              go_simp
              exact hK _ _ ⟨_, _, rfl, rfl, rfl, HI.out⟩
            · refine wpOpIn_step rfl fun K hK => ?_
              go_simp
              exact hK _ _ ⟨_, _, rfl, rfl, rfl, HI.out⟩
            · have f162 := at_slot hz (hf 7 162 _ (by kernel_rfl) rfl) (by omega)
              refine wpOpIn_step rfl fun K hK => ?_
              go_simp
              exact hK _ _ ⟨_, _, rfl, rfl, rfl, HI.out⟩
            · have f161 := at_slot hz (hf 6 161 _ (by kernel_rfl) rfl) (by omega)
              have f163 := at_slot hz (hf 8 163 _ (by kernel_rfl) rfl) (by omega)
              refine wpOpIn_step rfl fun K hK => ?_
              go_simp
              refine (to_any _ _ _).mono ?_
              rintro e w' ⟨rfl, hb'⟩
              exact hK _ _ ⟨_, _, rfl, rfl, rfl, ⟨HI.out.1.trans (hb'.mono HI.out.1.size), HI.out.2.1.below hb', HI.out.2.2.below hb'⟩⟩
          · intro w hI
            have HI := Lib.hid hI
            clear hI
            obtain ⟨ca, cb⟩ := HI.out.2.1.cell
            obtain ⟨cc, cd⟩ := HI.out.2.2.cell
            have fa0 := HI.out.2.1.frozen 0
            have fa1 := HI.out.2.1.frozen 1
            have fb0 := HI.out.2.2.frozen 0
            have fb1 := HI.out.2.2.frozen 1
            simp only [List.foldl_cons, List.foldl_nil, List.setIfInBounds_toArray, List.set_cons_succ, List.set_cons_zero, List.drop_succ_cons, List.drop_zero]
            gi_wp2
            change R _ _
            refine HR.out _ _ ?_
            clear HR
            have hba : Below w7.heap.size w7 ((((w.setCell ⟨pa, 0, none⟩ (.int .i64 (spanB (sh (l j)) y))).setCell ⟨pa, 1, none⟩ (.int .i64 (spanB (sh (l j)) y))).setCell ⟨pb, 0, none⟩ (.int .i64 (spanA (sh (l k)) y))).setCell ⟨pb, 1, none⟩ (.int .i64 (spanA (sh (l k)) y))) := (((HI.out.1.setCell hpa _).setCell hpa _).setCell hpb _).setCell hpb _
            have hb6 := HW7.out.trans (hba.mono HW7.out.size)
            have hxy := apart_no hst.out HL.out HA.out hjk hkm hy3 EXS.out (x := spanB (sh (l j)) y) (y := spanA (sh (l k)) y) (.inr ⟨by omega, rfl, rfl⟩)
            have hz0 := (hst.out.each _ hlj).spans
            have hz1 := (hst.out.each _ hlk).spans
            have za := hz0.least y hy3
            have zb := hz0.up y hy3
            have zc := hz0.most y hy3
            have zd := hz1.least y hy3
            have ze := hz1.up y hy3
            have zf := hz1.most y hy3
            rw [← HS.out]
            refine true_tail rs rl rw many b o n c sh LA m lc l j k y w6.heap.size pa pb (spanB (sh (l j)) y) (spanA (sh (l k)) y) W _ _ hn hc hst (Lib.hid ((hsh.out.below HB6.out).below hb6)) hm9 h1 HL HA (Lib.hid (H8.out.below hb6)) hlj hlk hy3 (by omega) (by omega) (by omega) (by omega) (Lib.hid (by omega)) (Lib.hid hxy) (Lib.hid (HB6.out.trans (hb6.mono HB6.out.size))) (Below.old hb6 e0) (Below.old hb6 e1) (Below.old hb6 e2) (Below.old hb6 e3) (Below.old hb6 e4) (Below.old hba P0) (Below.old hba P1) (Below.old hba P2) (Lib.hid (((HI.out.2.1.set _ _).far (Ne.symm hab) _ _).far (Ne.symm hab) _ _)) (Lib.hid (((HI.out.2.2.far hab _ _).far hab _ _).set _ _)) ?_ ?_ ?_ ?_ ?_ ?_ ?_
            all_goals rfl
    · rw [e1']
      rcases hlen.1 hnil with rfl | ⟨g, cap, rfl⟩
      · refine reach_seq fin6 room6 (reach_seq fin6 room6 ?_)
        refine reach_code (n := 0) rfl fin6 room6 fun R hR => ?_
        have HR := Lib.hid hR
        clear hR
        gi_wp2
        change R _ _
        refine HR.out _ _ ?_
        clear HR
        refine reach_cond false rfl fin6 room6 ?_
        simp only [Bool.false_eq_true, if_false]
        refine reach_skip (n := 0) fin6 room6 rfl ?_
        refine reach_seq fin6 room6 (reach_seq fin6 room6 ?_)
        refine reach_code (n := 0) rfl fin6 room6 fun R hR => ?_
        have HR := Lib.hid hR
        clear hR
        gi_wp2
        change R _ _
        refine HR.out _ _ ?_
        clear HR
        refine reach_cond true rfl fin6 room6 ?_
        simp only [if_true]
        refine reach_seq fin6 room6 (reach_region fin6 room6 (Reach.here ?_))
        rw [← HS.out]
        exact ⟨.early _ _ _ 0 1 73 ⟨⟨_, rfl, rfl, rfl, rfl⟩, ⟨_, rfl, rfl, rfl, rfl⟩⟩ (by omega) rfl rfl, HB6.out⟩
      · refine reach_seq fin6 room6 (reach_seq fin6 room6 ?_)
        refine reach_code (n := 0) rfl fin6 room6 fun R hR => ?_
        have HR := Lib.hid hR
        clear hR
        gi_wp2
        change R _ _
        refine HR.out _ _ ?_
        clear HR
        refine reach_cond false rfl fin6 room6 ?_
        simp only [Bool.false_eq_true, if_false]
        refine reach_skip (n := 0) fin6 room6 rfl ?_
        refine reach_seq fin6 room6 (reach_seq fin6 room6 ?_)
        refine reach_code (n := 0) rfl fin6 room6 fun R hR => ?_
        have HR := Lib.hid hR
        clear hR
        gi_wp2
        change R _ _
        refine HR.out _ _ ?_
        clear HR
        refine reach_cond true rfl fin6 room6 ?_
        simp only [if_true]
        refine reach_seq fin6 room6 (reach_region fin6 room6 (Reach.here ?_))
        rw [← HS.out]
        exact ⟨.early _ _ _ 0 1 73 ⟨⟨_, rfl, rfl, rfl, rfl⟩, ⟨_, rfl, rfl, rfl, rfl⟩⟩ (by omega) rfl rfl, HB6.out⟩
    · obtain ⟨g, cap, rfl⟩ := hlen.2 hne
      have hposi : ¬ (((apAll rs rl rw sh l m m).length : Nat) : Int) = 0 := fun h => hne (List.length_eq_zero_iff.1 (by omega))
      have hposb : ((((apAll rs rl rw sh l m m).length : Nat) : Int) == 0) = false := by rw [beq_eq_false_iff_ne]; exact hposi
      rw [e2']
      refine reach_seq fin6 room6 (reach_seq fin6 room6 ?_)
      refine reach_code (n := 0) rfl fin6 room6 fun R hR => ?_
      have HR := Lib.hid hR
      clear hR
      gi_wp2
      change R _ _
      refine HR.out _ _ ?_
      clear HR
      refine reach_cond false rfl fin6 room6 ?_
      simp only [Bool.false_eq_true, if_false]
      refine reach_skip (n := 0) fin6 room6 rfl ?_
      refine reach_seq fin6 room6 (reach_seq fin6 room6 ?_)
      refine reach_code (n := 0) rfl fin6 room6 fun R hR => ?_
      have HR := Lib.hid hR
      clear hR
      gi_wp2
      change R _ _
      refine HR.out _ _ ?_
      clear HR
      refine reach_cond true rfl fin6 room6 ?_
      simp only [if_true]
      refine reach_seq fin6 room6 (reach_region fin6 room6 (Reach.here ?_))
      rw [← HS.out]
      exact ⟨.early _ _ _ 0 1 73 ⟨⟨_, rfl, rfl, rfl, rfl⟩, ⟨_, rfl, rfl, rfl, rfl⟩⟩ (by omega) rfl rfl, HB6.out⟩
end Go.Proofs.YtpdmgecbapmgdaaGreat
end
section
namespace Go.Proofs.YtpdmgecbapmgdaaGreat
open Go.RowKit Go.Cx Go.Conc
theorem fence_ok : FenceOk Tryz.prog Fc.fn := fenceOk_of (L := [7,33,34,15,13,18,55,56,57,58,59,62,63,64,65,66,77,96,97,98,99,100,101,102,103,104,105,106,107,108,109,110,124,138,78,159,160,161,125,172,3,5,6,8,16,17,19,20,21,30,31,32,35,36,37,38,39,40,41,43,60,61,67,75,76,79,80,81,82,83,84,111,123]) (by kernel_rfl)
theorem shafts_strike {W : World} {A : Option Addr} {n : Nat} {sh : Nat → Shaft} (h : ShaftsAt W A n sh) : ShaftsAt (strike W) A n sh := fun k hk => by
  obtain ⟨b, o, e, hx⟩ := h k hk
  have c := fun a => (twin_strike W).cell a
  exact ⟨b, o, e, by rw [← c]; exact hx.h0, by rw [← c]; exact hx.h1, by rw [← c]; exact hx.h2, by rw [← c]; exact hx.h3, by rw [← c]; exact hx.h4, by rw [← c]; exact hx.h5, by rw [← c]; exact hx.h6⟩
theorem shot_there : ∃ fn, Tryz.prog.funcs[14]? = some fn ∧ (fn.name == "runtime.NumGoroutine") = false ∧ fn.body.isNone = false := ⟨_, Tryz.func14, by kernel_rfl, by kernel_rfl⟩
theorem law_calls {f : FuncId} {r z : Nat} {C0 : Code} {a0 : Act} {args : Array Value} {W : World} (hen : Frame.enter Tryz.prog f args .normal = (lawFr f).atR a0 [.code C0]) (hin : Fc.fn f)
    (h : Reach Fc Tryz.prog (lawFr f) [] (fun a k w => AtCallG 14 r z a k ∧ Below (strike W).heap.size (strike W) w) a0 [.code C0] (strike W)) :
    ∃ a k w N t, AtCallG 14 r z a k ∧ Below W.heap.size W w ∧ Lone t ∧ runNT Tryz.prog N (solo (G (Frame.enter Tryz.prog f args .normal) []) W) #[] = (.next (solo (G (Frame.enter Tryz.prog 14 #[] .normal) [(lawFr f).at a k]) w), t) := by
  obtain ⟨a, k, v, ⟨hat, hb⟩, hs⟩ := h
  have hs : StepsIn (Machine.fenced Tryz.prog Fc) Tryz.prog (lone (Frame.enter Tryz.prog f args .normal) [] (strike W)) (lone ((lawFr f).atR a k) [] v) := by rw [hen]; exact hs
  obtain ⟨N, w, t, hr, hl, htw⟩ := chain_calm (Fc := Fc) rfl fence_ok hs (G (Frame.enter Tryz.prog f args .normal) []) (strike W) W #[] rfl
    ⟨_, [], rfl, frIn_enter fence_ok hin _, .inl rfl, fun c h => by simp at h⟩ (twin_strike W) (fun op h => by simp at h) ((lawFr f).atR a k) [] v rfl rfl
  have hsz : (strike W).heap.size = W.heap.size := by simp [strike]
  rw [hsz] at hb
  refine ⟨a, k, w, N + 1, t, hat, twin_below htw hb, hl, ?_⟩
  rw [runNT_add, hr]
  simp only [Frame.atR_of_none (show (lawFr f).roundOf = none from rfl), runNT, stepT_solo (show (G ((lawFr f).at a k) []).status = .running from rfl), runT_solo_go (call_step shot_there hat w)]
  simp [MemOp.ofEvents]
theorem env_below {w w1 : World} (h : Env (OldL w) w w1) : Below w.heap.size w w1 where
  os := h.os
  tape := h.tape
  output := h.output
  size := h.size
  block := by
    intro k hk
    have hs := h.same k w.heap[k] (by simp [hk])
    rw [Array.getElem?_eq_getElem hk]
    cases ho : w.heap[k] with
    | cells c e fr =>
      rw [ho] at hs
      obtain ⟨c', h1, h2, h3⟩ := hs
      rw [h1]
      have : c' = c := by
        apply Array.ext h2
        intro i hi hi'
        have := h3 i ⟨k, rfl, hk⟩
        rw [Array.getElem?_eq_getElem hi, Array.getElem?_eq_getElem hi'] at this
        exact Option.some.inj this
      rw [this]
    | _ => rw [ho] at hs; exact hs ⟨k, rfl, hk⟩
theorem entry_rel (hp : TabOk Tryz.tab) (b : Frame) (w : World) : XRel (fun _ => none) (fun _ => False) (fun _ => False) [b] Tryz.x0 (G (Frame.enter Tryz.prog 14 #[] .normal) [b]) w := by
  obtain ⟨fr, he⟩ : ∃ fr, enterA Tryz.tab 14 [] false = some fr := by
    cases h : enterA Tryz.tab 14 [] false with
    | some fr => exact ⟨fr, rfl⟩
    | none => exact absurd (show (enterA Tryz.tab 14 [] false).isSome = true by kernel_rfl) (by rw [h]; simp)
  have hr := enter_rel (f := fun _ => none) hp (args' := #[]) (kind := .normal) .nil he rfl
  unfold Tryz.x0
  rw [he]
  refine .plain (Bd := 0) ⟨⟨_, [], rfl, hr, .nil⟩, ?_⟩ (Nat.zero_le _) .nil
  exact {
    wf := ⟨fun b o h => by simp [T.get] at h, fun b c x r ba m h => by simp [T.get] at h, fun r m h => by simp [members, T.get] at h⟩
    obj := fun b x h => by cases h
    mine := fun b x h => by cases h
    part := fun b x i h => by cases h
    apart := fun b b' x x' o o' h => by cases h
    coord := fun b b' x x' o o' h => by cases h
    home := fun b x h => by cases h }
theorem law_run {f : FuncId} {fl : Func} {r z : Nat} {C0 : Code} {a0 : Act} {args : Array Value} {W : World} (hen : Frame.enter Tryz.prog f args .normal = (lawFr f).atR a0 [.code C0]) (hin : Fc.fn f) (hfl : Tryz.prog.funcs[f]? = some fl) (hres : fl.results = #[.tmp r]) (hrz : r < z)
    (h : Reach Fc Tryz.prog (lawFr f) [] (fun a k w => AtCallG 14 r z a k ∧ Below (strike W).heap.size (strike W) w) a0 [.code C0] (strike W)) :
    ∃ M last o w' t', runNT Tryz.prog (M + 1) (solo (G (Frame.enter Tryz.prog f args .normal) []) W) #[] = (.ended o w', t') ∧
      runN Tryz.prog M (solo (G (Frame.enter Tryz.prog f args .normal) []) W) = .next last ∧ Go.step Tryz.prog last = .ended o w' ∧
      Go.Conc.Good Tryz.prog (fun v w1 => v = .bool true ∧ Below W.heap.size W w1) last o w' t' := by
  obtain ⟨a, k, w, N, t, hat, hb, hl, hr⟩ := law_calls hen hin h
  obtain ⟨K, last, o, w2, t2, h1, h2, h3, h4⟩ := Tryz.shot_run (b := (lawFr f).at a k) (bot := []) (sl := none) hl (fun l h => h.elim) (entry_rel Tryz.tabOk _ w) (Post := fun v w1 => v = .bool true ∧ Env (OldL w) w w1) (n := 4) (fun w' he => after_callG fence_ok hin hfl hres hrz hat he)
  rw [← solo_eq_crowd] at h1 h2
  obtain ⟨r1, r2⟩ := run_then hr h1 h2
  exact ⟨N + K, last, o, w2, t2, r1, r2, h3, h4.mono fun v hp => ⟨hp.1, hb.trans ((env_below hp.2).mono hb.size)⟩⟩
end Go.Proofs.YtpdmgecbapmgdaaGreat
end
section
namespace Go.Proofs.YtpdmgecbapmgdaaGreat
open Go.RowKit Go.ChangeShapes Go.WideShapes Go.Joins
def fieldsOf (P : Program) (t : TypeId) : Option (List (Nat × TypeId)) := match P.underlying t with
  | some (.struct fs) => some (fs.toList.map fun f => (f.offset, f.type))
  | _ => none
theorem fields_two {P : Program} {t : TypeId} {o0 o1 : Nat} {t0 t1 : TypeId} (h : fieldsOf P t = some [(o0, t0), (o1, t1)]) : ∃ f0 f1 : Field, P.underlying t = some (.struct #[f0, f1]) ∧ f0.offset = o0 ∧ f0.type = t0 ∧ f1.offset = o1 ∧ f1.type = t1 := by
  unfold fieldsOf at h
  split at h
  · next fs e =>
    obtain ⟨l⟩ := fs
    match l, h with
    | [f0, f1], h =>
      simp at h
      exact ⟨f0, f1, e, h.1.1, h.1.2, h.2.1, h.2.2⟩
    | [], h => simp at h
    | [_], h => simp at h
    | _ :: _ :: _ :: _, h => simp at h
  · cases h
theorem fields_four {P : Program} {t : TypeId} {o0 o1 o2 o3 : Nat} {t0 t1 t2 t3 : TypeId} (h : fieldsOf P t = some [(o0, t0), (o1, t1), (o2, t2), (o3, t3)]) :
    ∃ f0 f1 f2 f3 : Field, P.underlying t = some (.struct #[f0, f1, f2, f3]) ∧ f0.offset = o0 ∧ f0.type = t0 ∧ f1.offset = o1 ∧ f1.type = t1 ∧ f2.offset = o2 ∧ f2.type = t2 ∧ f3.offset = o3 ∧ f3.type = t3 := by
  unfold fieldsOf at h
  split at h
  · next fs e =>
    obtain ⟨l⟩ := fs
    match l, h with
    | [f0, f1, f2, f3], h =>
      simp at h
      obtain ⟨⟨h1, h2⟩, ⟨h3, h4⟩, ⟨h5, h6⟩, h7, h8⟩ := h
      exact ⟨f0, f1, f2, f3, e, h1, h2, h3, h4, h5, h6, h7, h8⟩
    | [], h => simp at h
    | [_], h => simp at h
    | [_, _], h => simp at h
    | [_, _, _], h => simp at h
    | _ :: _ :: _ :: _ :: _ :: _, h => simp at h
  · cases h
theorem fo26 : fieldsOf Tryz.prog 26 = some [(0, 23), (4, 24)] := by kernel_rfl
theorem fo23 : fieldsOf Tryz.prog 23 = some [(0, 3), (1, 3), (2, 3), (3, 3)] := by kernel_rfl
theorem fo52 : fieldsOf Tryz.prog 52 = some [(0, 3), (1, 3)] := by kernel_rfl
theorem fo65 : fieldsOf Tryz.prog 65 = some [(0, 9), (1, 52), (3, 52), (5, 52)] := by kernel_rfl
theorem ul24 : Tryz.prog.underlying 24 = some (.slice 65) := by kernel_rfl
theorem ul3 : Tryz.prog.underlying 3 = some (.int .i64) := by kernel_rfl
theorem ul9 : Tryz.prog.underlying 9 = some .string := by kernel_rfl
theorem co26 : Tryz.prog.cellsOf 26 = 5 := by kernel_rfl
theorem co23 : Tryz.prog.cellsOf 23 = 4 := by kernel_rfl
theorem co24 : Tryz.prog.cellsOf 24 = 1 := by kernel_rfl
theorem co3 : Tryz.prog.cellsOf 3 = 1 := by kernel_rfl
theorem co9 : Tryz.prog.cellsOf 9 = 1 := by kernel_rfl
theorem co52 : Tryz.prog.cellsOf 52 = 2 := by kernel_rfl
theorem co65 : Tryz.prog.cellsOf 65 = 7 := by kernel_rfl
section
variable {H : Type} {enc : TypeId × Value → H} {W : World} {base : Nat} {sp : Nat → Bool} {held : Bool}
theorem open_span {fuel : Nat} {c0 c1 : Value} {x : DataW H × List MemPlace} (h : DataW.trod enc Tryz.prog W base sp held fuel 52 [c0, c1] = some x) : ∃ u v : Int, c0 = .int .i64 u ∧ c1 = .int .i64 v := by
  obtain ⟨f0, f1, e, a0, b0, a1, b1⟩ := fields_two fo52
  obtain ⟨y0, y1, n, _, _, t0, t1⟩ := trod_struct2 e h
  rw [a0, b0, co3] at t0
  rw [a1, b1, co3] at t1
  obtain ⟨u, h0, _⟩ := DataW.trod_int ul3 t0
  obtain ⟨v, h1, _⟩ := DataW.trod_int ul3 t1
  simp at h0 h1
  exact ⟨u, v, h0, h1⟩
theorem open_rule {fuel : Nat} {c0 c1 c2 c3 : Value} {x : DataW H × List MemPlace} (h : DataW.trod enc Tryz.prog W base sp held fuel 23 [c0, c1, c2, c3] = some x) :
    ∃ a b c d : Int, c0 = .int .i64 a ∧ c1 = .int .i64 b ∧ c2 = .int .i64 c ∧ c3 = .int .i64 d := by
  obtain ⟨f0, f1, f2, f3, e, a0, b0, a1, b1, a2, b2, a3, b3⟩ := fields_four fo23
  obtain ⟨y0, y1, y2, y3, n, _, _, t0, t1, t2, t3⟩ := trod_struct4 e h
  rw [a0, b0, co3] at t0
  rw [a1, b1, co3] at t1
  rw [a2, b2, co3] at t2
  rw [a3, b3, co3] at t3
  obtain ⟨u0, h0, _⟩ := DataW.trod_int ul3 t0
  obtain ⟨u1, h1, _⟩ := DataW.trod_int ul3 t1
  obtain ⟨u2, h2, _⟩ := DataW.trod_int ul3 t2
  obtain ⟨u3, h3, _⟩ := DataW.trod_int ul3 t3
  simp at h0 h1 h2 h3
  exact ⟨u0, u1, u2, u3, h0, h1, h2, h3⟩
theorem open_shaft {fuel : Nat} {cs : List Value} {x : DataW H × List MemPlace} (h : DataW.trod enc Tryz.prog W base sp held fuel 65 cs = some x) :
    ∃ y : Shaft, cs = [.string y.name, .int .i64 y.s0, .int .i64 y.s1, .int .i64 y.l0, .int .i64 y.l1, .int .i64 y.w0, .int .i64 y.w1] := by
  obtain ⟨f0, f1, f2, f3, e, a0, b0, a1, b1, a2, b2, a3, b3⟩ := fields_four fo65
  obtain ⟨y0, y1, y2, y3, n, _, hl, t0, t1, t2, t3⟩ := trod_struct4 e h
  rw [co65] at hl
  match cs, hl with
  | [c0, c1, c2, c3, c4, c5, c6], _ =>
    rw [a0, b0, co9] at t0
    rw [a1, b1, co52] at t1
    rw [a2, b2, co52] at t2
    rw [a3, b3, co52] at t3
    simp only [List.drop, List.take] at t0 t1 t2 t3
    obtain ⟨s, h0, _⟩ := DataW.trod_string ul9 t0
    obtain ⟨u1, v1, rfl, rfl⟩ := open_span t1
    obtain ⟨u2, v2, rfl, rfl⟩ := open_span t2
    obtain ⟨u3, v3, rfl, rfl⟩ := open_span t3
    simp at h0
    subst h0
    exact ⟨⟨s, u1, v1, u2, v2, u3, v3⟩, rfl⟩
theorem add_spot {a : Addr} {w : World} {v : Value} {k : Nat} (h : w.cell? (a.add k) = some v) (hk : k = 0) : a = ⟨a.block, a.off, none⟩ := by
  subst hk
  simp only [Addr.add, if_true] at h
  unfold World.cell? at h
  obtain ⟨b, o, sp⟩ := a
  cases sp with
  | none => rfl
  | some s =>
    dsimp only at h
    split at h
    · simp at h
    · cases h
theorem open_shafts {fuel : Nat} {v : Value} {x : DataW H × List MemPlace} (h : DataW.trod enc Tryz.prog W base sp held fuel 24 [v] = some x) : ∃ (A : Option Addr) (n c : Nat) (sh : Nat → Shaft), v = .slice A n c ∧ n ≤ c ∧ ShaftsAt W A n sh := by
  rcases Go.Deep.open_slice ul24 h with ⟨h0, _⟩ | ⟨a, len, cap, m, n, D, Pl, h0, hb, hl, hm, hmm, rfl, hx⟩
  · simp at h0
    subst h0
    exact ⟨none, 0, 0, fun _ => ⟨.empty, 0, 0, 0, 0, 0, 0⟩, rfl, Nat.le_refl _, fun k hk => by omega⟩
  · simp at h0
    subst h0
    have hlm : len ≤ m := by rw [hmm]; split <;> omega
    have each : ∀ i, i < len → ∃ y : Shaft, a = ⟨a.block, a.off, none⟩ ∧ ShaftAt W a.block (a.off + i * 7) y := by
      intro i hi
      obtain ⟨cs', h1, h2⟩ := hx i (by omega)
      rw [co65] at h1
      obtain ⟨_, hlen, hcell⟩ := World.cells?_some h1
      obtain ⟨y, rfl⟩ := open_shaft h2
      have hsp : a = ⟨a.block, a.off, none⟩ := by
        obtain ⟨cs0, g1, g2⟩ := hx 0 (by omega)
        rw [co65] at g1
        obtain ⟨_, glen, gcell⟩ := World.cells?_some g1
        obtain ⟨z, rfl⟩ := open_shaft g2
        have g0 := gcell 0 (by omega)
        simp only [Nat.zero_mul] at g0
        have g3 : ((a.add 0).add 0) = a.add 0 := by simp [Addr.add]
        rw [g3] at g0
        exact add_spot (k := 0) g0 rfl
      refine ⟨y, hsp, ?_⟩
      have key : ∀ j, (a.add (i * 7)).add j = ⟨a.block, a.off + i * 7 + j, none⟩ := by
        intro j
        rw [hsp]
        unfold Addr.add
        by_cases h1 : i * 7 = 0 <;> by_cases h2 : j = 0 <;> simp [h1, h2]
      have e0 := hcell 0 (by omega)
      have e1 := hcell 1 (by omega)
      have e2 := hcell 2 (by omega)
      have e3 := hcell 3 (by omega)
      have e4 := hcell 4 (by omega)
      have e5 := hcell 5 (by omega)
      have e6 := hcell 6 (by omega)
      rw [key] at e0 e1 e2 e3 e4 e5 e6
      exact ⟨by simpa using e0, by simpa using e1, by simpa using e2, by simpa using e3, by simpa using e4, by simpa using e5, by simpa using e6⟩
    refine ⟨some a, len, cap, fun i => if hi : i < len then (each i hi).choose else ⟨.empty, 0, 0, 0, 0, 0, 0⟩, rfl, hl, fun k hk => ⟨a.block, a.off, ?_, ?_⟩⟩
    · rw [← (each k hk).choose_spec.1]
    · dsimp only
      rw [dif_pos hk]
      exact (each k hk).choose_spec.2
theorem open_stock {fuel : Nat} {cs : List Value} {x : DataW H × List MemPlace} (h : DataW.trod enc Tryz.prog W base sp held fuel 26 cs = some x) :
    ∃ (rs rl rw many : Int) (A : Option Addr) (n c : Nat) (sh : Nat → Shaft), cs = [.int .i64 rs, .int .i64 rl, .int .i64 rw, .int .i64 many, .slice A n c] ∧ n ≤ c ∧ ShaftsAt W A n sh := by
  obtain ⟨f0, f1, e, a0, b0, a1, b1⟩ := fields_two fo26
  obtain ⟨y0, y1, n, _, hl, t0, t1⟩ := trod_struct2 e h
  rw [co26] at hl
  match cs, hl with
  | [c0, c1, c2, c3, c4], _ =>
    rw [a0, b0, co23] at t0
    rw [a1, b1, co24] at t1
    simp only [List.drop, List.take] at t0 t1
    obtain ⟨a, b, c, d, rfl, rfl, rfl, rfl⟩ := open_rule t0
    obtain ⟨A, n', cap, sh, rfl, h1, h2⟩ := open_shafts t1
    exact ⟨a, b, c, d, A, n', cap, sh, rfl, h1, h2⟩
end
end Go.Proofs.YtpdmgecbapmgdaaGreat
end
section
namespace Go.Proofs.YtpdmgecbapmgdaaGreat
open Go.RowKit Go.Cx Go.Conc Go.ChangeShapes Go.WideShapes Go.ChangeAt
theorem picks_strike {W : World} {A : Option Addr} {n : Nat} {p : Nat → Int} (h : PicksAt W A n p) : PicksAt (strike W) A n p := fun k hk => by
  obtain ⟨b, o, e, hx, h2⟩ := h k hk
  exact ⟨b, o, e, by rw [← (twin_strike W).cell]; exact hx, h2⟩
theorem enter6 (v0 v1 v2 : Value) : Frame.enter Tryz.prog 6 #[v0, v1, v2] .normal = (lawFr 6).atR { tmps := #[v0, v1, v2] ++ Array.replicate 206 undef, defers := [] } [.code A6] := by
  have hb : Tryz.f6.body = some A6 := rfl
  have hn : Tryz.f6.ntmps = 209 := rfl
  simp [Frame.enter, Frame.atR, Tryz.func6, hb, hn]
theorem true_run (rs rl rw many : Int) (A : Option Addr) (n c : Nat) (sh : Nat → Shaft) (bits : Int) (PA : Option Addr) (pn pc : Nat) (p : Nat → Int) (W : World) (hc : n ≤ c) (hpc : pn ≤ pc) (hsh : ShaftsAt W A n sh) (hp : PicksAt W PA pn p) :
    ∃ M last o w' t', runNT Tryz.prog (M + 1) (solo (G (Frame.enter Tryz.prog 6 #[stockV rs rl rw many A n c, .int .u16 bits, .slice PA pn pc] .normal) []) W) #[] = (.ended o w', t') ∧
      runN Tryz.prog M (solo (G (Frame.enter Tryz.prog 6 #[stockV rs rl rw many A n c, .int .u16 bits, .slice PA pn pc] .normal) []) W) = .next last ∧ Go.step Tryz.prog last = .ended o w' ∧
      Go.Conc.Good Tryz.prog (fun v w1 => v = .bool true ∧ Below W.heap.size W w1) last o w' t' :=
  law_run (enter6 _ _ _) fin6 Tryz.func6 rfl (by omega) (true_walk rs rl rw many A n c sh bits PA pn pc p (strike W) hc hpc (Lib.hid (shafts_strike hsh)) (Lib.hid (picks_strike hp)))
theorem own : ownKnob Tryz.prog.godebug = none := by kernel_rfl
theorem laidOut : laidOutB Tryz.prog = true := by kernel_rfl
theorem ul4 : Tryz.prog.underlying 4 = some .bool := by kernel_rfl
theorem ul57 : Tryz.prog.underlying 57 = some (.int .u16) := by kernel_rfl
theorem ul58 : Tryz.prog.underlying 58 = some (.slice 57) := by kernel_rfl
theorem co57 : Tryz.prog.cellsOf 57 = 1 := by kernel_rfl
theorem shut_true {H : Type} {enc : TypeId × Value → H} {w : World} {base : Nat} {sp : Nat → Bool} {held : Bool} : DataW.Trod enc Tryz.prog w base sp held 4 (.bool true) (.lit (.bool true)) [] := by
  refine ⟨1, ?_⟩
  simp only [DataW.trod, Value.cells, ul4]
theorem open_picks {H : Type} {enc : TypeId × Value → H} {W : World} {base : Nat} {sp : Nat → Bool} {held : Bool} {fuel : Nat} {v : Value} {x : DataW H × List MemPlace} (h : DataW.trod enc Tryz.prog W base sp held fuel 58 [v] = some x) :
    ∃ (A : Option Addr) (n c : Nat) (p : Nat → Int), v = .slice A n c ∧ n ≤ c ∧ PicksAt W A n p := by
  rcases Go.Deep.open_slice ul58 h with ⟨h0, _⟩ | ⟨a, len, cap, m, n, D, Pl, h0, hb, hl, hm, hmm, rfl, hx⟩
  · simp at h0
    subst h0
    exact ⟨none, 0, 0, fun _ => 0, rfl, Nat.le_refl _, fun k hk => by omega⟩
  · simp at h0
    subst h0
    have hlm : len ≤ m := by rw [hmm]; split <;> omega
    have each : ∀ i, i < len → ∃ y : Int, a = ⟨a.block, a.off, none⟩ ∧ W.cell? ⟨a.block, a.off + i, none⟩ = some (.int .u16 y) ∧ 0 ≤ y ∧ y ≤ 65535 := by
      intro i hi
      obtain ⟨cs', h1, h2⟩ := hx i (by omega)
      rw [co57] at h1
      obtain ⟨_, hlen, hcell⟩ := World.cells?_some h1
      obtain ⟨y, rfl, _, hwf⟩ := DataW.trod_int ul57 h2
      have hsp : a = ⟨a.block, a.off, none⟩ := by
        obtain ⟨cs0, g1, g2⟩ := hx 0 (by omega)
        rw [co57] at g1
        obtain ⟨_, glen, gcell⟩ := World.cells?_some g1
        obtain ⟨z, rfl, _, _⟩ := DataW.trod_int ul57 g2
        have g0 := gcell 0 (by omega)
        simp only [Nat.zero_mul] at g0
        have g3 : ((a.add 0).add 0) = a.add 0 := by simp [Addr.add]
        rw [g3] at g0
        exact add_spot (k := 0) g0 rfl
      refine ⟨y, hsp, ?_, ?_⟩
      · have e0 := hcell 0 (by omega)
        have key : (a.add (i * 1)).add 0 = ⟨a.block, a.off + i, none⟩ := by
          rw [hsp]
          unfold Addr.add
          by_cases h1 : i = 0
          · subst h1; simp
          · simp [h1]
        rw [key] at e0
        simpa using e0
      · simp [Lit.wf, IntKind.min, IntKind.max, IntKind.signed, IntKind.bits] at hwf
        omega
    refine ⟨some a, len, cap, fun i => if hi : i < len then (each i hi).choose else 0, rfl, hl, fun k hk => ⟨a.block, a.off, ?_, ?_⟩⟩
    · rw [← (each k hk).choose_spec.1]
    · dsimp only
      rw [dif_pos hk]
      exact (each k hk).choose_spec.2
theorem params6 : Tryz.f6.params.toList = [26, 57, 58] := rfl
theorem true_lifted (os : Os) (started : os.Started) (H : Type) (enc : TypeId × Value → H) :
    ReturnsInLeavingWide {} Tryz.checked os 6 .any (Rows.arrowTrueSpec.pre6 enc Tryz.prog Tryz.f6 Rows.arrowTrueRow.domain false) (Rows.arrowTrueSpec.post enc Tryz.prog Tryz.f6 false true false false) := by
  refine returnsInLeavingWide_of_change_sized (C := Tryz.checked) own started Tryz.func6
    (ChangeSpec.witness6 (enc := enc) (C := Tryz.checked) false ⟨#[], #[.agg #[.int .i64 0, .int .i64 0, .int .i64 0, .int .i64 0, .slice none 0 0], .int .u16 0, .slice none 0 0], []⟩ 8 (by kernel_rfl) (by kernel_rfl) (by kernel_rfl) (by kernel_rfl)) ?_
  intro W base args ds gs before hval0 hW _ _ _
  have hval : ∀ (j : Nat) t v, Tryz.f6.params[j]? = some t → args[j]? = some v → Value.okWide Tryz.prog W .any base t v := hval0
  have hW' := hW
  obtain ⟨p, q, hA0, hV, rfl, _, _⟩ := hW
  have hA : DataW.TrodAll enc Tryz.prog W 0 (fun _ => true) true Tryz.f6.params.toList args.toList ds p := hA0
  rw [params6] at hA
  obtain ⟨v0, v1, v2, d0, d1, d2, p0, p1, p2, rfl, rfl, rfl, h0, h1, h2⟩ := trodAll_three hA
  obtain ⟨rfl, rfl⟩ := trodVars_none hV
  obtain ⟨bits, rfl, rfl, rfl, hwb⟩ := open_int ul57 (hval 1 57 v1 rfl rfl) h1
  have hv0 := hval 0 26 v0 rfl rfl
  obtain ⟨f0, f1, e26, _⟩ := fields_two fo26
  have hagg : ∃ cs, v0 = .agg cs := by
    unfold Value.okWide at hv0
    rw [e26] at hv0
    obtain ⟨cs, h, _⟩ := hv0
    exact ⟨cs, h⟩
  obtain ⟨cs, rfl⟩ := hagg
  have h0k := h0
  have h2k := h2
  obtain ⟨fuel, hf⟩ := h0
  obtain ⟨rs, rl, rw', many, A, n, c, sh, hcs, hc, hsh⟩ := open_stock hf
  have hcs' : cs = #[.int .i64 rs, .int .i64 rl, .int .i64 rw', .int .i64 many, .slice A n c] := by
    have : cs.toList = [.int .i64 rs, .int .i64 rl, .int .i64 rw', .int .i64 many, .slice A n c] := hcs
    exact Array.toList_inj.1 this
  subst hcs'
  obtain ⟨fuel2, hf2⟩ := h2
  have hv2 := hval 2 58 v2 rfl rfl
  obtain ⟨PA0, pn0, pc0, rfl⟩ := okWide_slice ul58 hv2
  obtain ⟨PA, pn, pc, pk, e2, hpc, hpk⟩ := open_picks hf2
  cases e2
  clear hA0 hval0
  have hlt : ∀ x, x ∈ p0 ∨ x ∈ p2 → x.block < W.heap.size := fun x hx => hW'.lt x (by simp; rcases hx with h | h <;> simp [h])
  obtain ⟨M, last, o, w', t', r1, r2, r3, r4⟩ := true_run rs rl rw' many A n c sh bits PA0 pn0 pc0 pk W hc hpc hsh hpk
  refine ⟨M, last, o, w', t', r1, r2, r3, r4.mono fun v hF => ?_⟩
  obtain ⟨rfl, hb⟩ := hF
  refine ⟨_, _, _, [], p0 ++ [] ++ p2, [], hW', ?_, ?_, rfl, hb.frame _, fun h => by cases h⟩
  · exact trodAll_mk1 (t := 4) (v := .bool true) (d := .lit (.bool true)) shut_true
  · have h3 := trodAll_mk3 (Below.trod laidOut (by kernel_rfl) (of_decide_eq_true (by kernel_rfl)) h0k hb fun x hx => hlt x (.inl hx)) (shut_int (enc := enc) (w := w') (base := 0) (spare := fun b => decide (b < W.heap.size)) (held := true) ul57 hwb) (Below.trod laidOut (by kernel_rfl) (of_decide_eq_true (by kernel_rfl)) h2k hb fun x hx => hlt x (.inr hx))
    simp only [List.append_nil, List.nil_append] at h3 ⊢
    exact h3
theorem arrowTrue_holds : Rows.ArrowTrueSaid :=
  OpenClaim.holds_of_wide_leaving 6 Tryz.f6 rfl rfl rfl rfl rfl rfl rfl ⟨rfl, rfl, rfl, rfl, rfl⟩ rfl rfl rfl rfl rfl (by kernel_rfl) Tryz.func6 (by kernel_rfl)
    (of_decide_eq_true (by kernel_rfl)) (by unfold Func.isWrapper; first | (rw [if_pos (by decide +kernel)]; kernel_rfl) | (rw [if_neg (by decide +kernel)]; exact ⟨rfl, rfl⟩))
    (fun os started H enc _ => true_lifted os started H enc)
end Go.Proofs.YtpdmgecbapmgdaaGreat
end
