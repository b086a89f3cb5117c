/- A part of the proof that ArrowEach returns true for every input: no further condition. -/
import Derived.Test.YtlabfeofejemjaaGreatGp3
import Derived.Deep.Slices
import Derived.Lib.SmallJoins
import Derived.Test.YtlabfeofejemjaaGreatLe1
import Derived.Test.YtlabfeofejemjaaGreatRows
import Derived.Conc.Own4
import Derived.Conc.LeavingOf
import Derived.Carry
set_option linter.unusedSimpArgs false
set_option linter.unusedVariables false
set_option maxHeartbeats 2000000
set_option maxRecDepth 100000
section
namespace Go.Proofs.YtlabfeofejemjaaGreat
open Go.RowKit Go.Cx Go.Conc
def dstsIn (ops : Array Oper) (D : List Nat) : Bool := (List.range ops.size).all fun j => match dstAt ops j with | some s => D.contains s | none => true
theorem dstsIn_use {ops : Array Oper} {D : List Nat} (h : dstsIn ops D = true) {j s : Nat} (hj : j < ops.size) (e : dstAt ops j = some s) : s ∈ D := by
  have h1 := List.all_eq_true.1 h j (List.mem_range.2 hj)
  rw [e] at h1
  simpa using h1
theorem RF.act {ops : Array Oper} {sup : Nat → List Nat} {Ψ : Nat → List Value → World → Prop} {I : World → Prop} {z : Nat} {a0 : Act} {listed : Array Bool} {a : Act} {w : World} (h : RF ops sup Ψ I z a0 listed a w) (hz : a0.tmps.size = z) (D : List Nat) (hD : dstsIn ops D = true) :
    a = { tmps := (D.map fun d => (d, a.eval (.tmp d))).foldl (fun t x => t.setIfInBounds x.1 x.2) a0.tmps, defers := [] } := by
  have e := fold_set a (D.map fun d => (d, a.eval (.tmp d))) a0.tmps (by rw [hz, h.size]) (fun x hx => by
      obtain ⟨d, _, rfl⟩ := List.mem_map.1 hx
      rfl) fun s hs => (h.old s fun j hj e => hs _ (List.mem_map.2 ⟨s, dstsIn_use hD hj e, rfl⟩) rfl).symm
  rw [e]
  obtain ⟨t, d⟩ := a
  have := h.defers
  simp only at this
  subst this
  rfl
def lft' : Code → Code
  | .seq x _ => x
  | c => c
theorem each_walk (r : Rl) (A : Option Addr) (n c : Nat) (sh : Nat → Sh) (at8 mk : Int) (PA : Option Addr) (pn pc : Nat) (p : Nat → Int) (W : World) (hc : n ≤ c) (hpc : pn ≤ pc) (ha0 : 0 ≤ at8) (ha1 : at8 ≤ 255) (hm0 : 0 ≤ mk) (hm1 : mk ≤ 65535) (hsh : Hid (ShotsAt W A n sh)) (hp : Hid (PicksAt W PA pn p)) :
    Reach Fc Tryz.prog (lawFr 5) [] (SeekE W) { tmps := #[cardV r A n c, .int .u8 at8, .int .u16 mk, .slice PA pn pc] ++ Array.replicate 177 undef, defers := [] } [.code A5] W := by
  have hcode : A5 = .seq (lft' A5) (.seq (lft' (rgt' A5)) A5t) := rfl
  generalize hS : SeekE W = S
  have HS := Lib.hid hS
  clear hS
  rw [hcode]
  clear hcode
  generalize hA5 : A5t = C5
  have HC5 := Lib.hid hA5
  clear hA5
  simp only [List.size_toArray, List.length_cons, List.length_nil, Nat.reduceAdd, Nat.reduceSub, Array.replicate_succ, Array.replicate_zero, List.push_toArray, List.append_toArray, List.nil_append, List.cons_append]
  simp only [lft', rgt', A5, Tryz.f5]
  refine reach_seq fin5 room5 ?_
  refine reach_code (n := 0) rfl fin5 room5 fun R hR => ?_
  have HR := Lib.hid hR
  clear hR
  gi_wp2
  change R _ _
  refine HR.out _ _ ?_
  clear HR
  refine reach_seq fin5 room5 (reach_seq fin5 room5 ?_)
  refine reach_code (n := 0) rfl fin5 room5 fun R hR => ?_
  have HR := Lib.hid hR
  clear hR
  obtain ⟨e0, e1, e2, e3, e4⟩ := box_cells (Below.refl (W.heap.size + 1) (W.alloc (.cells #[.int .i64 r.ls, .int .i64 r.ms, .int .i64 r.wd, .int .i64 r.lt, .slice A n c] 26)))
  have hb1 : Below W.heap.size W (W.alloc (.cells #[.int .i64 r.ls, .int .i64 r.ms, .int .i64 r.wd, .int .i64 r.lt, .slice A n c] 26)) := (Below.refl _ _).alloc (Nat.le_refl _) _
  have hlt1 : W.heap.size < (W.alloc (.cells #[.int .i64 r.ls, .int .i64 r.ms, .int .i64 r.wd, .int .i64 r.lt, .slice A n c] 26)).heap.size := by rw [size_alloc]; omega
  generalize (W.alloc (.cells #[.int .i64 r.ls, .int .i64 r.ms, .int .i64 r.wd, .int .i64 r.lt, .slice A n c] 26)) = w1 at *
  have HB1 := Lib.hid hb1
  clear hb1
  by_cases hno : CardOk r sh n
  · have hok := Lib.hid hno
    clear hno
    have hn8 := hok.out.count
    by_cases hal : AllAgree r sh n
    · have hall0 := Lib.hid hal
      clear hal
      refine wpIn_region_F (sup := fun j => ([[20], [21], [22], [23], [24], [25], [26], [27], [28], [29], [30], [31], [32], [33], [34], [35], [36], [37]] : List (List Nat)).getD j []) (Ψ := fun i vs w => match i with | 0 => vs = [cardV r A n c] | 1 => vs = [.bool true] | 2 => vs = [.bool false] | 3 => vs = [.bool false] | 4 => vs = [cardV r A n c] | 5 => vs = [.pointer (some ⟨W.heap.size, 4, none⟩)] | 6 => vs = [.slice A n c] | 7 => vs = [.int .i64 n] | 9 => vs = [.bool true] | 10 => vs = [.bool false] | 11 => vs = [.bool false] | 12 => vs = [.bool false] | 13 => vs = [.pointer (some ⟨W.heap.size, 4, none⟩)] | 14 => vs = [.slice A n c] | 15 => vs = [.int .i64 n] | 8 => ∃ LA lc, vs = [.slice LA n lc] ∧ n ≤ lc ∧ IntsAt w LA n (fun k => (k : Int)) | 16 => vs = [.bool (decide ((n : Int) = 0))] | 17 => vs = [.bool (decide ((n : Int) = 0))] | _ => True) (I := fun w => Below w1.heap.size w1 w) (z := 181) (by kernel_rfl) (by kernel_rfl) (by kernel_rfl) rfl rfl (Below.refl _ _).drew (fun listed a w' j' hj hr => ?_) fun listed a w' hj hall => ?_
      · have hgrow : ∀ w'' : World, Below w'.heap.size w' w'' → ∀ i vs, (fun i vs w => match i with | 0 => vs = [cardV r A n c] | 1 => vs = [.bool true] | 2 => vs = [.bool false] | 3 => vs = [.bool false] | 4 => vs = [cardV r A n c] | 5 => vs = [.pointer (some ⟨W.heap.size, 4, none⟩)] | 6 => vs = [.slice A n c] | 7 => vs = [.int .i64 n] | 9 => vs = [.bool true] | 10 => vs = [.bool false] | 11 => vs = [.bool false] | 12 => vs = [.bool false] | 13 => vs = [.pointer (some ⟨W.heap.size, 4, none⟩)] | 14 => vs = [.slice A n c] | 15 => vs = [.int .i64 n] | 8 => ∃ LA lc, vs = [.slice LA n lc] ∧ n ≤ lc ∧ IntsAt w LA n (fun k => (k : Int)) | 16 => vs = [.bool (decide ((n : Int) = 0))] | 17 => vs = [.bool (decide ((n : Int) = 0))] | _ => True : Nat → List Value → World → Prop) i vs w' → (fun i vs w => match i with | 0 => vs = [cardV r A n c] | 1 => vs = [.bool true] | 2 => vs = [.bool false] | 3 => vs = [.bool false] | 4 => vs = [cardV r A n c] | 5 => vs = [.pointer (some ⟨W.heap.size, 4, none⟩)] | 6 => vs = [.slice A n c] | 7 => vs = [.int .i64 n] | 9 => vs = [.bool true] | 10 => vs = [.bool false] | 11 => vs = [.bool false] | 12 => vs = [.bool false] | 13 => vs = [.pointer (some ⟨W.heap.size, 4, none⟩)] | 14 => vs = [.slice A n c] | 15 => vs = [.int .i64 n] | 8 => ∃ LA lc, vs = [.slice LA n lc] ∧ n ≤ lc ∧ IntsAt w LA n (fun k => (k : Int)) | 16 => vs = [.bool (decide ((n : Int) = 0))] | 17 => vs = [.bool (decide ((n : Int) = 0))] | _ => True : Nat → List Value → World → Prop) i vs w'' := by
          intro w'' hb'' i vs h
          try simp only at h ⊢
          split at h <;> first
            | exact h
            | (obtain ⟨LA, lc, h1, h2, h3⟩ := h; exact ⟨LA, lc, h1, h2, h3.below hb''⟩)
            | trivial
        have hjs' : j' < 18 := by
          obtain ⟨_, o', h3, _⟩ := mem_ready.1 hr
          exact (Array.getElem?_eq_some_iff.1 h3).1
        have hI := hj.inv
        obtain ⟨tm, df⟩ := a
        have hdf := hj.defers
        simp only at hdf
        subst hdf
        have hz' : ∀ {d : Nat}, d < 181 → d < (Act.mk tm []).tmps.size := fun h => by rw [hj.size]; exact h
        have g4 := at_slot hj.size (show Act.eval _ (.tmp 4) = .pointer (some ⟨W.heap.size, 0, none⟩) from (hj.old 4 (oldB_use (by kernel_rfl)))) (by omega)
        have c0 := Below.old hI e0
        have c1 := Below.old hI e1
        have c2 := Below.old hI e2
        have c3 := Below.old hI e3
        have c4 := Below.old hI e4
        have hjs : j' = 0 ∨ j' = 1 ∨ j' = 2 ∨ j' = 3 ∨ j' = 4 ∨ j' = 5 ∨ j' = 6 ∨ j' = 7 ∨ j' = 8 ∨ j' = 9 ∨ j' = 10 ∨ j' = 11 ∨ j' = 12 ∨ j' = 13 ∨ j' = 14 ∨ j' = 15 ∨ j' = 16 ∨ j' = 17 := by omega
        rcases hjs with rfl | rfl | rfl | rfl | rfl | rfl | rfl | rfl | rfl | rfl | rfl | rfl | rfl | rfl | rfl | rfl | rfl | rfl
        · refine wpOpIn_step rfl fun K hK => ?_
          go_simp
          exact hK _ _ (RFNext.pure (d := 20) rfl hI (hz' (by omega)) rfl (by first | rfl | simp))
        · have f20 := at_slot hj.size (show Act.eval _ (.tmp 20) = cardV r A n c from (List.cons.inj (hj.fact 0 (by decide) (dep hr (by kernel_rfl)))).1) (by omega)
          refine wpOpIn_step rfl fun K hK => ?_
          go_simp
          refine (Fair_any r A n c sh w' hc (Lib.hid (hsh.out.below (HB1.out.trans (hI.mono HB1.out.size))))).mono ?_
          rintro e w2 ⟨g, rfl, hg, hb'⟩
          obtain rfl : g = true := hg.2 hok.out
          exact hK _ _ (RFNext.grow (d := 21) (hgrow _ hb') rfl (hI.trans (hb'.mono hI.size)) (hz' (by omega)) rfl rfl)
        · have f21 := at_slot hj.size (show Act.eval _ (.tmp 21) = .bool true from (List.cons.inj (hj.fact 1 (by decide) (dep hr (by kernel_rfl)))).1) (by omega)
          refine wpOpIn_step rfl fun K hK => ?_
          go_simp
          exact hK _ _ (RFNext.pure (d := 22) rfl hI (hz' (by omega)) rfl (by first | rfl | simp))
        · have f22 := at_slot hj.size (show Act.eval _ (.tmp 22) = .bool false from (List.cons.inj (hj.fact 2 (by decide) (dep hr (by kernel_rfl)))).1) (by omega)
          refine wpOpIn_step rfl fun K hK => ?_
          go_simp
          exact hK _ _ (RFNext.pure (d := 23) rfl hI (hz' (by omega)) rfl (by first | rfl | simp))
        · have f23 := at_slot hj.size (show Act.eval _ (.tmp 23) = .bool false from (List.cons.inj (hj.fact 3 (by decide) (dep hr (by kernel_rfl)))).1) (by omega)
          refine wpOpIn_step rfl fun K hK => ?_
          go_simp
          exact hK _ _ (RFNext.pure (d := 24) rfl hI (hz' (by omega)) rfl (by first | rfl | simp))
        · have f23 := at_slot hj.size (show Act.eval _ (.tmp 23) = .bool false from (List.cons.inj (hj.fact 3 (by decide) (dep hr (by kernel_rfl)))).1) (by omega)
          refine wpOpIn_step rfl fun K hK => ?_
          go_simp
          exact hK _ _ (RFNext.pure (d := 25) rfl hI (hz' (by omega)) rfl (by first | rfl | simp))
        · have f23 := at_slot hj.size (show Act.eval _ (.tmp 23) = .bool false from (List.cons.inj (hj.fact 3 (by decide) (dep hr (by kernel_rfl)))).1) (by omega)
          have f25 := at_slot hj.size (show Act.eval _ (.tmp 25) = .pointer (some ⟨W.heap.size, 4, none⟩) from (List.cons.inj (hj.fact 5 (by decide) (dep hr (by kernel_rfl)))).1) (by omega)
          refine wpOpIn_step rfl fun K hK => ?_
          go_simp
          exact hK _ _ (RFNext.pure (d := 26) rfl hI (hz' (by omega)) rfl (by first | rfl | simp))
        · have f23 := at_slot hj.size (show Act.eval _ (.tmp 23) = .bool false from (List.cons.inj (hj.fact 3 (by decide) (dep hr (by kernel_rfl)))).1) (by omega)
          have f26 := at_slot hj.size (show Act.eval _ (.tmp 26) = .slice A n c from (List.cons.inj (hj.fact 6 (by decide) (dep hr (by kernel_rfl)))).1) (by omega)
          refine wpOpIn_step rfl fun K hK => ?_
          go_simp
          exact hK _ _ (RFNext.pure (d := 27) rfl hI (hz' (by omega)) rfl (by first | rfl | simp))
        · have f23 := at_slot hj.size (show Act.eval _ (.tmp 23) = .bool false from (List.cons.inj (hj.fact 3 (by decide) (dep hr (by kernel_rfl)))).1) (by omega)
          have f27 := at_slot hj.size (show Act.eval _ (.tmp 27) = .int .i64 n from (List.cons.inj (hj.fact 7 (by decide) (dep hr (by kernel_rfl)))).1) (by omega)
          refine wpOpIn_step rfl fun K hK => ?_
          go_simp
          refine (UpTo_any n w' (by omega)).mono ?_
          rintro e w2 ⟨LA, lc, rfl, hlc, hints, hb'⟩
          exact hK _ _ (RFNext.grow (d := 28) (hgrow _ hb') rfl (hI.trans (hb'.mono hI.size)) (hz' (by omega)) rfl ⟨LA, lc, rfl, hlc, hints⟩)
        · have f23 := at_slot hj.size (show Act.eval _ (.tmp 23) = .bool false from (List.cons.inj (hj.fact 3 (by decide) (dep hr (by kernel_rfl)))).1) (by omega)
          have f24 := at_slot hj.size (show Act.eval _ (.tmp 24) = cardV r A n c from (List.cons.inj (hj.fact 4 (by decide) (dep hr (by kernel_rfl)))).1) (by omega)
          obtain ⟨LA, lc, g28, hlc, hints⟩ := hj.fact 8 (by decide) (dep hr (by kernel_rfl))
          have f28 := at_slot hj.size (show Act.eval _ (.tmp 28) = .slice LA n lc from (List.cons.inj g28).1) (by omega)
          refine wpOpIn_step rfl fun K hK => ?_
          go_simp
          refine (FitsOf_any r A n c sh LA n lc (fun k => k) w' hc hn8 hlc hok (Lib.hid (hsh.out.below (HB1.out.trans (hI.mono HB1.out.size)))) (Lib.hid fun k hk => hk) (Lib.hid hints)).mono ?_
          rintro e w2 ⟨g, rfl, hg, hb'⟩
          obtain rfl : g = true := hg.2 hall0.out
          exact hK _ _ (RFNext.grow (d := 29) (hgrow _ hb') rfl (hI.trans (hb'.mono hI.size)) (hz' (by omega)) rfl rfl)
        · have f23 := at_slot hj.size (show Act.eval _ (.tmp 23) = .bool false from (List.cons.inj (hj.fact 3 (by decide) (dep hr (by kernel_rfl)))).1) (by omega)
          have f29 := at_slot hj.size (show Act.eval _ (.tmp 29) = .bool true from (List.cons.inj (hj.fact 9 (by decide) (dep hr (by kernel_rfl)))).1) (by omega)
          refine wpOpIn_step rfl fun K hK => ?_
          go_simp
          exact hK _ _ (RFNext.pure (d := 30) rfl hI (hz' (by omega)) rfl (by first | rfl | simp))
        · have f23 := at_slot hj.size (show Act.eval _ (.tmp 23) = .bool false from (List.cons.inj (hj.fact 3 (by decide) (dep hr (by kernel_rfl)))).1) (by omega)
          have f30 := at_slot hj.size (show Act.eval _ (.tmp 30) = .bool false from (List.cons.inj (hj.fact 10 (by decide) (dep hr (by kernel_rfl)))).1) (by omega)
          refine wpOpIn_step rfl fun K hK => ?_
          go_simp
          exact hK _ _ (RFNext.pure (d := 31) rfl hI (hz' (by omega)) rfl (by first | rfl | simp))
        · have f31 := at_slot hj.size (show Act.eval _ (.tmp 31) = .bool false from (List.cons.inj (hj.fact 11 (by decide) (dep hr (by kernel_rfl)))).1) (by omega)
          refine wpOpIn_step rfl fun K hK => ?_
          go_simp
          exact hK _ _ (RFNext.pure (d := 32) rfl hI (hz' (by omega)) rfl (by first | rfl | simp))
        · have f32 := at_slot hj.size (show Act.eval _ (.tmp 32) = .bool false from (List.cons.inj (hj.fact 12 (by decide) (dep hr (by kernel_rfl)))).1) (by omega)
          refine wpOpIn_step rfl fun K hK => ?_
          go_simp
          exact hK _ _ (RFNext.pure (d := 33) rfl hI (hz' (by omega)) rfl (by first | rfl | simp))
        · have f32 := at_slot hj.size (show Act.eval _ (.tmp 32) = .bool false from (List.cons.inj (hj.fact 12 (by decide) (dep hr (by kernel_rfl)))).1) (by omega)
          have f33 := at_slot hj.size (show Act.eval _ (.tmp 33) = .pointer (some ⟨W.heap.size, 4, none⟩) from (List.cons.inj (hj.fact 13 (by decide) (dep hr (by kernel_rfl)))).1) (by omega)
          refine wpOpIn_step rfl fun K hK => ?_
          go_simp
          exact hK _ _ (RFNext.pure (d := 34) rfl hI (hz' (by omega)) rfl (by first | rfl | simp))
        · have f32 := at_slot hj.size (show Act.eval _ (.tmp 32) = .bool false from (List.cons.inj (hj.fact 12 (by decide) (dep hr (by kernel_rfl)))).1) (by omega)
          have f34 := at_slot hj.size (show Act.eval _ (.tmp 34) = .slice A n c from (List.cons.inj (hj.fact 14 (by decide) (dep hr (by kernel_rfl)))).1) (by omega)
          refine wpOpIn_step rfl fun K hK => ?_
          go_simp
          exact hK _ _ (RFNext.pure (d := 35) rfl hI (hz' (by omega)) rfl (by first | rfl | simp))
        · have f32 := at_slot hj.size (show Act.eval _ (.tmp 32) = .bool false from (List.cons.inj (hj.fact 12 (by decide) (dep hr (by kernel_rfl)))).1) (by omega)
          have f35 := at_slot hj.size (show Act.eval _ (.tmp 35) = .int .i64 n from (List.cons.inj (hj.fact 15 (by decide) (dep hr (by kernel_rfl)))).1) (by omega)
          refine wpOpIn_step rfl fun K hK => ?_
          go_simp
          exact hK _ _ (RFNext.pure (d := 36) rfl hI (hz' (by omega)) rfl (by first | rfl | simp))
        · have f32 := at_slot hj.size (show Act.eval _ (.tmp 32) = .bool false from (List.cons.inj (hj.fact 12 (by decide) (dep hr (by kernel_rfl)))).1) (by omega)
          have f36 := at_slot hj.size (show Act.eval _ (.tmp 36) = .bool (decide ((n : Int) = 0)) from (List.cons.inj (hj.fact 16 (by decide) (dep hr (by kernel_rfl)))).1) (by omega)
          refine wpOpIn_step rfl fun K hK => ?_
          go_simp
          exact hK _ _ (RFNext.pure (d := 37) rfl hI (hz' (by omega)) rfl (by first | rfl | simp))
      · have hI := hj.inv
        have e := hj.act rfl [20, 21, 22, 23, 24, 25, 26, 27, 28, 29, 30, 31, 32, 33, 34, 35, 36, 37] (by kernel_rfl)
        have e37 : a.eval (.tmp 37) = .bool (decide ((n : Int) = 0)) := (List.cons.inj (hall 17 (by decide))).1
        simp only [List.map_cons, List.map_nil, List.foldl_cons, List.foldl_nil, e37] at e
        generalize a.eval (.tmp 20) = x20 at e
        generalize a.eval (.tmp 21) = x21 at e
        generalize a.eval (.tmp 22) = x22 at e
        generalize a.eval (.tmp 23) = x23 at e
        generalize a.eval (.tmp 24) = x24 at e
        generalize a.eval (.tmp 25) = x25 at e
        generalize a.eval (.tmp 26) = x26 at e
        generalize a.eval (.tmp 27) = x27 at e
        generalize a.eval (.tmp 28) = x28 at e
        generalize a.eval (.tmp 29) = x29 at e
        generalize a.eval (.tmp 30) = x30 at e
        generalize a.eval (.tmp 31) = x31 at e
        generalize a.eval (.tmp 32) = x32 at e
        generalize a.eval (.tmp 33) = x33 at e
        generalize a.eval (.tmp 34) = x34 at e
        generalize a.eval (.tmp 35) = x35 at e
        generalize a.eval (.tmp 36) = x36 at e
        clear hj hall e37
        subst e
        simp only [List.foldl_cons, List.foldl_nil, List.setIfInBounds_toArray, List.set_cons_succ, List.set_cons_zero]
        change R _ _
        refine HR.out _ _ ?_
        clear HR
        by_cases hn0 : n = 0
        · subst hn0
          refine reach_cond true rfl fin5 room5 ?_
          simp only [if_true]
          refine reach_seq fin5 room5 (reach_region fin5 room5 (Reach.here ?_))
          rw [← HS.out]
          exact ⟨.early _ _ _ 0 1 38 ⟨⟨_, rfl, rfl, rfl, rfl⟩, ⟨_, rfl, rfl, rfl, rfl⟩⟩ (by omega) rfl rfl, HB1.out.trans (hI.mono HB1.out.size)⟩
        · refine reach_cond false (by show Value.bool (decide ((n : Int) = 0)) = _; rw [decide_eq_false (by omega)]) fin5 room5 ?_
          simp only [Bool.false_eq_true, if_false]
          refine reach_skip (n := 0) fin5 room5 rfl ?_
          rw [← HC5.out, ← HS.out]
          have hb := HB1.out.trans (hI.mono HB1.out.size)
          exact each_tail r A n c sh at8 mk PA pn pc p W.heap.size W _ hc hn0 hpc ha0 ha1 hm0 hm1 hok hall0 (Lib.hid (hsh.out.below hb)) (Lib.hid (hp.out.below hb)) (Lib.hid hb) (Nat.lt_of_lt_of_le hlt1 hI.size) (Below.old hI e0) (Below.old hI e1) (Below.old hI e2) (Below.old hI e3) (Below.old hI e4)
    · have hall0 : Hid (¬ AllAgree r sh n) := Lib.hid hal
      clear hal
      refine wpIn_region_F (sup := fun j => ([[20], [21], [22], [23], [24], [25], [26], [27], [28], [29], [30], [31], [32], [33], [34], [35], [36], [37]] : List (List Nat)).getD j []) (Ψ := fun i vs w => match i with | 0 => vs = [cardV r A n c] | 1 => vs = [.bool true] | 2 => vs = [.bool false] | 3 => vs = [.bool false] | 4 => vs = [cardV r A n c] | 5 => vs = [.pointer (some ⟨W.heap.size, 4, none⟩)] | 6 => vs = [.slice A n c] | 7 => vs = [.int .i64 n] | 9 => vs = [.bool false] | 10 => vs = [.bool true] | 11 => vs = [.bool true] | 12 => vs = [.bool true] | 13 => vs = [undef] | 14 => vs = [undef] | 15 => vs = [undef] | 16 => vs = [undef] | 17 => vs = [.bool true] | 8 => ∃ LA lc, vs = [.slice LA n lc] ∧ n ≤ lc ∧ IntsAt w LA n (fun k => (k : Int)) | _ => True) (I := fun w => Below w1.heap.size w1 w) (z := 181) (by kernel_rfl) (by kernel_rfl) (by kernel_rfl) rfl rfl (Below.refl _ _).drew (fun listed a w' j' hj hr => ?_) fun listed a w' hj hall => ?_
      · have hgrow : ∀ w'' : World, Below w'.heap.size w' w'' → ∀ i vs, (fun i vs w => match i with | 0 => vs = [cardV r A n c] | 1 => vs = [.bool true] | 2 => vs = [.bool false] | 3 => vs = [.bool false] | 4 => vs = [cardV r A n c] | 5 => vs = [.pointer (some ⟨W.heap.size, 4, none⟩)] | 6 => vs = [.slice A n c] | 7 => vs = [.int .i64 n] | 9 => vs = [.bool false] | 10 => vs = [.bool true] | 11 => vs = [.bool true] | 12 => vs = [.bool true] | 13 => vs = [undef] | 14 => vs = [undef] | 15 => vs = [undef] | 16 => vs = [undef] | 17 => vs = [.bool true] | 8 => ∃ LA lc, vs = [.slice LA n lc] ∧ n ≤ lc ∧ IntsAt w LA n (fun k => (k : Int)) | _ => True : Nat → List Value → World → Prop) i vs w' → (fun i vs w => match i with | 0 => vs = [cardV r A n c] | 1 => vs = [.bool true] | 2 => vs = [.bool false] | 3 => vs = [.bool false] | 4 => vs = [cardV r A n c] | 5 => vs = [.pointer (some ⟨W.heap.size, 4, none⟩)] | 6 => vs = [.slice A n c] | 7 => vs = [.int .i64 n] | 9 => vs = [.bool false] | 10 => vs = [.bool true] | 11 => vs = [.bool true] | 12 => vs = [.bool true] | 13 => vs = [undef] | 14 => vs = [undef] | 15 => vs = [undef] | 16 => vs = [undef] | 17 => vs = [.bool true] | 8 => ∃ LA lc, vs = [.slice LA n lc] ∧ n ≤ lc ∧ IntsAt w LA n (fun k => (k : Int)) | _ => True : Nat → List Value → World → Prop) i vs w'' := by
          intro w'' hb'' i vs h
          try simp only at h ⊢
          split at h <;> first
            | exact h
            | (obtain ⟨LA, lc, h1, h2, h3⟩ := h; exact ⟨LA, lc, h1, h2, h3.below hb''⟩)
            | trivial
        have hjs' : j' < 18 := by
          obtain ⟨_, o', h3, _⟩ := mem_ready.1 hr
          exact (Array.getElem?_eq_some_iff.1 h3).1
        have hI := hj.inv
        obtain ⟨tm, df⟩ := a
        have hdf := hj.defers
        simp only at hdf
        subst hdf
        have hz' : ∀ {d : Nat}, d < 181 → d < (Act.mk tm []).tmps.size := fun h => by rw [hj.size]; exact h
        have g4 := at_slot hj.size (show Act.eval _ (.tmp 4) = .pointer (some ⟨W.heap.size, 0, none⟩) from (hj.old 4 (oldB_use (by kernel_rfl)))) (by omega)
        have c0 := Below.old hI e0
        have c1 := Below.old hI e1
        have c2 := Below.old hI e2
        have c3 := Below.old hI e3
        have c4 := Below.old hI e4
        have hjs : j' = 0 ∨ j' = 1 ∨ j' = 2 ∨ j' = 3 ∨ j' = 4 ∨ j' = 5 ∨ j' = 6 ∨ j' = 7 ∨ j' = 8 ∨ j' = 9 ∨ j' = 10 ∨ j' = 11 ∨ j' = 12 ∨ j' = 13 ∨ j' = 14 ∨ j' = 15 ∨ j' = 16 ∨ j' = 17 := by omega
        rcases hjs with rfl | rfl | rfl | rfl | rfl | rfl | rfl | rfl | rfl | rfl | rfl | rfl | rfl | rfl | rfl | rfl | rfl | rfl
        · refine wpOpIn_step rfl fun K hK => ?_
          go_simp
          exact hK _ _ (RFNext.pure (d := 20) rfl hI (hz' (by omega)) rfl (by first | rfl | simp))
        · have f20 := at_slot hj.size (show Act.eval _ (.tmp 20) = cardV r A n c from (List.cons.inj (hj.fact 0 (by decide) (dep hr (by kernel_rfl)))).1) (by omega)
          refine wpOpIn_step rfl fun K hK => ?_
          go_simp
          refine (Fair_any r A n c sh w' hc (Lib.hid (hsh.out.below (HB1.out.trans (hI.mono HB1.out.size))))).mono ?_
          rintro e w2 ⟨g, rfl, hg, hb'⟩
          obtain rfl : g = true := hg.2 hok.out
          exact hK _ _ (RFNext.grow (d := 21) (hgrow _ hb') rfl (hI.trans (hb'.mono hI.size)) (hz' (by omega)) rfl rfl)
        · have f21 := at_slot hj.size (show Act.eval _ (.tmp 21) = .bool true from (List.cons.inj (hj.fact 1 (by decide) (dep hr (by kernel_rfl)))).1) (by omega)
          refine wpOpIn_step rfl fun K hK => ?_
          go_simp
          exact hK _ _ (RFNext.pure (d := 22) rfl hI (hz' (by omega)) rfl (by first | rfl | simp))
        · have f22 := at_slot hj.size (show Act.eval _ (.tmp 22) = .bool false from (List.cons.inj (hj.fact 2 (by decide) (dep hr (by kernel_rfl)))).1) (by omega)
          refine wpOpIn_step rfl fun K hK => ?_
          go_simp
          exact hK _ _ (RFNext.pure (d := 23) rfl hI (hz' (by omega)) rfl (by first | rfl | simp))
        · have f23 := at_slot hj.size (show Act.eval _ (.tmp 23) = .bool false from (List.cons.inj (hj.fact 3 (by decide) (dep hr (by kernel_rfl)))).1) (by omega)
          refine wpOpIn_step rfl fun K hK => ?_
          go_simp
          exact hK _ _ (RFNext.pure (d := 24) rfl hI (hz' (by omega)) rfl (by first | rfl | simp))
        · have f23 := at_slot hj.size (show Act.eval _ (.tmp 23) = .bool false from (List.cons.inj (hj.fact 3 (by decide) (dep hr (by kernel_rfl)))).1) (by omega)
          refine wpOpIn_step rfl fun K hK => ?_
          go_simp
          exact hK _ _ (RFNext.pure (d := 25) rfl hI (hz' (by omega)) rfl (by first | rfl | simp))
        · have f23 := at_slot hj.size (show Act.eval _ (.tmp 23) = .bool false from (List.cons.inj (hj.fact 3 (by decide) (dep hr (by kernel_rfl)))).1) (by omega)
          have f25 := at_slot hj.size (show Act.eval _ (.tmp 25) = .pointer (some ⟨W.heap.size, 4, none⟩) from (List.cons.inj (hj.fact 5 (by decide) (dep hr (by kernel_rfl)))).1) (by omega)
          refine wpOpIn_step rfl fun K hK => ?_
          go_simp
          exact hK _ _ (RFNext.pure (d := 26) rfl hI (hz' (by omega)) rfl (by first | rfl | simp))
        · have f23 := at_slot hj.size (show Act.eval _ (.tmp 23) = .bool false from (List.cons.inj (hj.fact 3 (by decide) (dep hr (by kernel_rfl)))).1) (by omega)
          have f26 := at_slot hj.size (show Act.eval _ (.tmp 26) = .slice A n c from (List.cons.inj (hj.fact 6 (by decide) (dep hr (by kernel_rfl)))).1) (by omega)
          refine wpOpIn_step rfl fun K hK => ?_
          go_simp
          exact hK _ _ (RFNext.pure (d := 27) rfl hI (hz' (by omega)) rfl (by first | rfl | simp))
        · have f23 := at_slot hj.size (show Act.eval _ (.tmp 23) = .bool false from (List.cons.inj (hj.fact 3 (by decide) (dep hr (by kernel_rfl)))).1) (by omega)
          have f27 := at_slot hj.size (show Act.eval _ (.tmp 27) = .int .i64 n from (List.cons.inj (hj.fact 7 (by decide) (dep hr (by kernel_rfl)))).1) (by omega)
          refine wpOpIn_step rfl fun K hK => ?_
          go_simp
          refine (UpTo_any n w' (by omega)).mono ?_
          rintro e w2 ⟨LA, lc, rfl, hlc, hints, hb'⟩
          exact hK _ _ (RFNext.grow (d := 28) (hgrow _ hb') rfl (hI.trans (hb'.mono hI.size)) (hz' (by omega)) rfl ⟨LA, lc, rfl, hlc, hints⟩)
        · have f23 := at_slot hj.size (show Act.eval _ (.tmp 23) = .bool false from (List.cons.inj (hj.fact 3 (by decide) (dep hr (by kernel_rfl)))).1) (by omega)
          have f24 := at_slot hj.size (show Act.eval _ (.tmp 24) = cardV r A n c from (List.cons.inj (hj.fact 4 (by decide) (dep hr (by kernel_rfl)))).1) (by omega)
          obtain ⟨LA, lc, g28, hlc, hints⟩ := hj.fact 8 (by decide) (dep hr (by kernel_rfl))
          have f28 := at_slot hj.size (show Act.eval _ (.tmp 28) = .slice LA n lc from (List.cons.inj g28).1) (by omega)
          refine wpOpIn_step rfl fun K hK => ?_
          go_simp
          refine (FitsOf_any r A n c sh LA n lc (fun k => k) w' hc hn8 hlc hok (Lib.hid (hsh.out.below (HB1.out.trans (hI.mono HB1.out.size)))) (Lib.hid fun k hk => hk) (Lib.hid hints)).mono ?_
          rintro e w2 ⟨g, rfl, hg, hb'⟩
          obtain rfl : g = false := (by cases g; rfl; exact absurd (hg.1 rfl) hall0.out)
          exact hK _ _ (RFNext.grow (d := 29) (hgrow _ hb') rfl (hI.trans (hb'.mono hI.size)) (hz' (by omega)) rfl rfl)
        · have f23 := at_slot hj.size (show Act.eval _ (.tmp 23) = .bool false from (List.cons.inj (hj.fact 3 (by decide) (dep hr (by kernel_rfl)))).1) (by omega)
          have f29 := at_slot hj.size (show Act.eval _ (.tmp 29) = .bool false from (List.cons.inj (hj.fact 9 (by decide) (dep hr (by kernel_rfl)))).1) (by omega)
          refine wpOpIn_step rfl fun K hK => ?_
          go_simp
          exact hK _ _ (RFNext.pure (d := 30) rfl hI (hz' (by omega)) rfl (by first | rfl | simp))
        · have f23 := at_slot hj.size (show Act.eval _ (.tmp 23) = .bool false from (List.cons.inj (hj.fact 3 (by decide) (dep hr (by kernel_rfl)))).1) (by omega)
          have f30 := at_slot hj.size (show Act.eval _ (.tmp 30) = .bool true from (List.cons.inj (hj.fact 10 (by decide) (dep hr (by kernel_rfl)))).1) (by omega)
          refine wpOpIn_step rfl fun K hK => ?_
          go_simp
          exact hK _ _ (RFNext.pure (d := 31) rfl hI (hz' (by omega)) rfl (by first | rfl | simp))
        · have f31 := at_slot hj.size (show Act.eval _ (.tmp 31) = .bool true from (List.cons.inj (hj.fact 11 (by decide) (dep hr (by kernel_rfl)))).1) (by omega)
          refine wpOpIn_step rfl fun K hK => ?_
          go_simp
          exact hK _ _ (RFNext.pure (d := 32) rfl hI (hz' (by omega)) rfl (by first | rfl | simp))
        · have f32 := at_slot hj.size (show Act.eval _ (.tmp 32) = .bool true from (List.cons.inj (hj.fact 12 (by decide) (dep hr (by kernel_rfl)))).1) (by omega)
          refine wpOpIn_step rfl fun K hK => ?_
          go_simp
          exact hK _ _ (RFNext.pure (d := 33) rfl hI (hz' (by omega)) rfl (by first | rfl | simp))
        · have f32 := at_slot hj.size (show Act.eval _ (.tmp 32) = .bool true from (List.cons.inj (hj.fact 12 (by decide) (dep hr (by kernel_rfl)))).1) (by omega)
          have f33 := at_slot hj.size (show Act.eval _ (.tmp 33) = undef from (List.cons.inj (hj.fact 13 (by decide) (dep hr (by kernel_rfl)))).1) (by omega)
          refine wpOpIn_step rfl fun K hK => ?_
          go_simp
          exact hK _ _ (RFNext.pure (d := 34) rfl hI (hz' (by omega)) rfl (by first | rfl | simp))
        · have f32 := at_slot hj.size (show Act.eval _ (.tmp 32) = .bool true from (List.cons.inj (hj.fact 12 (by decide) (dep hr (by kernel_rfl)))).1) (by omega)
          have f34 := at_slot hj.size (show Act.eval _ (.tmp 34) = undef from (List.cons.inj (hj.fact 14 (by decide) (dep hr (by kernel_rfl)))).1) (by omega)
          refine wpOpIn_step rfl fun K hK => ?_
          go_simp
          exact hK _ _ (RFNext.pure (d := 35) rfl hI (hz' (by omega)) rfl (by first | rfl | simp))
        · have f32 := at_slot hj.size (show Act.eval _ (.tmp 32) = .bool true from (List.cons.inj (hj.fact 12 (by decide) (dep hr (by kernel_rfl)))).1) (by omega)
          have f35 := at_slot hj.size (show Act.eval _ (.tmp 35) = undef from (List.cons.inj (hj.fact 15 (by decide) (dep hr (by kernel_rfl)))).1) (by omega)
          refine wpOpIn_step rfl fun K hK => ?_
          go_simp
          exact hK _ _ (RFNext.pure (d := 36) rfl hI (hz' (by omega)) rfl (by first | rfl | simp))
        · have f32 := at_slot hj.size (show Act.eval _ (.tmp 32) = .bool true from (List.cons.inj (hj.fact 12 (by decide) (dep hr (by kernel_rfl)))).1) (by omega)
          have f36 := at_slot hj.size (show Act.eval _ (.tmp 36) = undef from (List.cons.inj (hj.fact 16 (by decide) (dep hr (by kernel_rfl)))).1) (by omega)
          refine wpOpIn_step rfl fun K hK => ?_
          go_simp
          exact hK _ _ (RFNext.pure (d := 37) rfl hI (hz' (by omega)) rfl (by first | rfl | simp))
      · have hI := hj.inv
        have e := hj.act rfl [20, 21, 22, 23, 24, 25, 26, 27, 28, 29, 30, 31, 32, 33, 34, 35, 36, 37] (by kernel_rfl)
        have e37 : a.eval (.tmp 37) = .bool true := (List.cons.inj (hall 17 (by decide))).1
        simp only [List.map_cons, List.map_nil, List.foldl_cons, List.foldl_nil, e37] at e
        generalize a.eval (.tmp 20) = x20 at e
        generalize a.eval (.tmp 21) = x21 at e
        generalize a.eval (.tmp 22) = x22 at e
        generalize a.eval (.tmp 23) = x23 at e
        generalize a.eval (.tmp 24) = x24 at e
        generalize a.eval (.tmp 25) = x25 at e
        generalize a.eval (.tmp 26) = x26 at e
        generalize a.eval (.tmp 27) = x27 at e
        generalize a.eval (.tmp 28) = x28 at e
        generalize a.eval (.tmp 29) = x29 at e
        generalize a.eval (.tmp 30) = x30 at e
        generalize a.eval (.tmp 31) = x31 at e
        generalize a.eval (.tmp 32) = x32 at e
        generalize a.eval (.tmp 33) = x33 at e
        generalize a.eval (.tmp 34) = x34 at e
        generalize a.eval (.tmp 35) = x35 at e
        generalize a.eval (.tmp 36) = x36 at e
        clear hj hall e37
        subst e
        simp only [List.foldl_cons, List.foldl_nil, List.setIfInBounds_toArray, List.set_cons_succ, List.set_cons_zero]
        change R _ _
        refine HR.out _ _ ?_
        clear HR
        refine reach_cond true rfl fin5 room5 ?_
        simp only [if_true]
        refine reach_seq fin5 room5 (reach_region fin5 room5 (Reach.here ?_))
        rw [← HS.out]
        exact ⟨.early _ _ _ 0 1 38 ⟨⟨_, rfl, rfl, rfl, rfl⟩, ⟨_, rfl, rfl, rfl, rfl⟩⟩ (by omega) rfl rfl, HB1.out.trans (hI.mono HB1.out.size)⟩
  · skip
    refine wpIn_region_D (D := [(20, cardV r A n c), (21, .bool false), (22, .bool true), (23, .bool true), (24, undef), (25, undef), (26, undef), (27, undef), (28, undef), (29, undef), (30, undef), (31, .bool true), (32, .bool true), (33, undef), (34, undef), (35, undef), (36, undef), (37, .bool true)])
      (I := fun w => Below w1.heap.size w1 w) (z := 181) (by kernel_rfl) (by kernel_rfl) (by kernel_rfl) (by kernel_rfl) (by kernel_rfl) rfl rfl (Below.refl _ _).drew ?_ ?_
    · intro j a w hj hd hz hold hf hI
      have HI := Lib.hid hI
      have c0 := Below.old hI e0
      have c1 := Below.old hI e1
      have c2 := Below.old hI e2
      have c3 := Below.old hI e3
      have c4 := Below.old hI e4
      clear hI
      have s4 := at_slot hz (hold 4 (by kernel_rfl)) (by omega)
      clear hold
      have hjs : j = 0 ∨ j = 1 ∨ j = 2 ∨ j = 3 ∨ j = 4 ∨ j = 5 ∨ j = 6 ∨ j = 7 ∨ j = 8 ∨ j = 9 ∨ j = 10 ∨ j = 11 ∨ j = 12 ∨ j = 13 ∨ j = 14 ∨ j = 15 ∨ j = 16 ∨ j = 17 := by have : j < 18 := hj; omega
      rcases hjs with rfl | rfl | rfl | rfl | rfl | rfl | rfl | rfl | rfl | rfl | rfl | rfl | rfl | rfl | rfl | rfl | rfl | rfl
      · refine wpOpIn_step rfl fun K hK => ?_
        go_simp
        exact hK _ _ ⟨_, _, rfl, rfl, rfl, HI.out⟩
      · have f20 := at_slot hz (hf 0 20 _ (by kernel_rfl) rfl) (by omega)
        refine wpOpIn_step rfl fun K hK => ?_
        go_simp
        refine (Fair_any r A n c sh w hc (Lib.hid (hsh.out.below (HB1.out.trans (HI.out.mono HB1.out.size))))).mono ?_
        rintro e w' ⟨g, rfl, hg, hb'⟩; obtain rfl : g = false := (by cases g; rfl; exact absurd (hg.1 rfl) hno)
        exact hK _ _ ⟨_, _, rfl, rfl, rfl, HI.out.trans (hb'.mono HI.out.size)⟩
      · have f21 := at_slot hz (hf 1 21 _ (by kernel_rfl) rfl) (by omega)
        refine wpOpIn_step rfl fun K hK => ?_
        go_simp
        exact hK _ _ ⟨_, _, rfl, rfl, rfl, HI.out⟩
      · have f22 := at_slot hz (hf 2 22 _ (by kernel_rfl) rfl) (by omega)
        refine wpOpIn_step rfl fun K hK => ?_
        go_simp
        exact hK _ _ ⟨_, _, rfl, rfl, rfl, HI.out⟩
      · have f23 := at_slot hz (hf 3 23 _ (by kernel_rfl) rfl) (by omega)
        refine wpOpIn_step rfl fun K hK => ?_
        go_simp
        exact hK _ _ ⟨_, _, rfl, rfl, rfl, HI.out⟩
      · have f23 := at_slot hz (hf 3 23 _ (by kernel_rfl) rfl) (by omega)
        refine wpOpIn_step rfl fun K hK => ?_
        go_simp
        exact hK _ _ ⟨_, _, rfl, rfl, rfl, HI.out⟩
      · have f23 := at_slot hz (hf 3 23 _ (by kernel_rfl) rfl) (by omega)
        refine wpOpIn_step rfl fun K hK => ?_
        go_simp
        exact hK _ _ ⟨_, _, rfl, rfl, rfl, HI.out⟩
      · have f23 := at_slot hz (hf 3 23 _ (by kernel_rfl) rfl) (by omega)
        refine wpOpIn_step rfl fun K hK => ?_
        go_simp
        exact hK _ _ ⟨_, _, rfl, rfl, rfl, HI.out⟩
      · have f23 := at_slot hz (hf 3 23 _ (by kernel_rfl) rfl) (by omega)
        refine wpOpIn_step rfl fun K hK => ?_
        go_simp
        exact hK _ _ ⟨_, _, rfl, rfl, rfl, HI.out⟩
      · have f23 := at_slot hz (hf 3 23 _ (by kernel_rfl) rfl) (by omega)
        refine wpOpIn_step rfl fun K hK => ?_
        go_simp
        exact hK _ _ ⟨_, _, rfl, rfl, rfl, HI.out⟩
      · have f23 := at_slot hz (hf 3 23 _ (by kernel_rfl) rfl) (by omega)
        refine wpOpIn_step rfl fun K hK => ?_
        go_simp
        exact hK _ _ ⟨_, _, rfl, rfl, rfl, HI.out⟩
      · have f23 := at_slot hz (hf 3 23 _ (by kernel_rfl) rfl) (by omega)
        refine wpOpIn_step rfl fun K hK => ?_
        go_simp
        exact hK _ _ ⟨_, _, rfl, rfl, rfl, HI.out⟩
      · have f31 := at_slot hz (hf 11 31 _ (by kernel_rfl) rfl) (by omega)
        refine wpOpIn_step rfl fun K hK => ?_
        go_simp
        exact hK _ _ ⟨_, _, rfl, rfl, rfl, HI.out⟩
      · have f32 := at_slot hz (hf 12 32 _ (by kernel_rfl) rfl) (by omega)
        refine wpOpIn_step rfl fun K hK => ?_
        go_simp
        exact hK _ _ ⟨_, _, rfl, rfl, rfl, HI.out⟩
      · have f32 := at_slot hz (hf 12 32 _ (by kernel_rfl) rfl) (by omega)
        refine wpOpIn_step rfl fun K hK => ?_
        go_simp
        exact hK _ _ ⟨_, _, rfl, rfl, rfl, HI.out⟩
      · have f32 := at_slot hz (hf 12 32 _ (by kernel_rfl) rfl) (by omega)
        refine wpOpIn_step rfl fun K hK => ?_
        go_simp
        exact hK _ _ ⟨_, _, rfl, rfl, rfl, HI.out⟩
      · have f32 := at_slot hz (hf 12 32 _ (by kernel_rfl) rfl) (by omega)
        refine wpOpIn_step rfl fun K hK => ?_
        go_simp
        exact hK _ _ ⟨_, _, rfl, rfl, rfl, HI.out⟩
      · have f32 := at_slot hz (hf 12 32 _ (by kernel_rfl) rfl) (by omega)
        refine wpOpIn_step rfl fun K hK => ?_
        go_simp
        exact hK _ _ ⟨_, _, rfl, rfl, rfl, HI.out⟩
    intro w5 hI
    simp only [List.foldl_cons, List.foldl_nil, List.setIfInBounds_toArray, List.set_cons_succ, List.set_cons_zero]
    change R _ _
    refine HR.out _ _ ?_
    clear HR
    refine reach_cond true rfl fin5 room5 ?_
    simp only [if_true]
    refine reach_seq fin5 room5 (reach_region fin5 room5 (Reach.here ?_))
    rw [← HS.out]
    exact ⟨.early _ _ _ 0 1 38 ⟨⟨_, rfl, rfl, rfl, rfl⟩, ⟨_, rfl, rfl, rfl, rfl⟩⟩ (by omega) rfl rfl, HB1.out.trans (hI.mono HB1.out.size)⟩
end Go.Proofs.YtlabfeofejemjaaGreat
end
section
namespace Go.Proofs.YtlabfeofejemjaaGreat
open Go.RowKit Go.ChangeShapes Go.WideShapes Go.Joins
def fieldsOf (P : Program) (t : TypeId) : Option (List (Nat × TypeId)) := match P.underlying t with
  | some (.struct fs) => some (fs.toList.map fun f => (f.offset, f.type))
  | _ => none
theorem fields_two {P : Program} {t : TypeId} {o0 o1 : Nat} {t0 t1 : TypeId} (h : fieldsOf P t = some [(o0, t0), (o1, t1)]) : ∃ f0 f1 : Field, P.underlying t = some (.struct #[f0, f1]) ∧ f0.offset = o0 ∧ f0.type = t0 ∧ f1.offset = o1 ∧ f1.type = t1 := by
  unfold fieldsOf at h
  split at h
  · next fs e =>
    obtain ⟨l⟩ := fs
    match l, h with
    | [f0, f1], h =>
      simp at h
      exact ⟨f0, f1, e, h.1.1, h.1.2, h.2.1, h.2.2⟩
    | [], h => simp at h
    | [_], h => simp at h
    | _ :: _ :: _ :: _, h => simp at h
  · cases h
theorem fields_four {P : Program} {t : TypeId} {o0 o1 o2 o3 : Nat} {t0 t1 t2 t3 : TypeId} (h : fieldsOf P t = some [(o0, t0), (o1, t1), (o2, t2), (o3, t3)]) :
    ∃ f0 f1 f2 f3 : Field, P.underlying t = some (.struct #[f0, f1, f2, f3]) ∧ f0.offset = o0 ∧ f0.type = t0 ∧ f1.offset = o1 ∧ f1.type = t1 ∧ f2.offset = o2 ∧ f2.type = t2 ∧ f3.offset = o3 ∧ f3.type = t3 := by
  unfold fieldsOf at h
  split at h
  · next fs e =>
    obtain ⟨l⟩ := fs
    match l, h with
    | [f0, f1, f2, f3], h =>
      simp at h
      obtain ⟨⟨h1, h2⟩, ⟨h3, h4⟩, ⟨h5, h6⟩, h7, h8⟩ := h
      exact ⟨f0, f1, f2, f3, e, h1, h2, h3, h4, h5, h6, h7, h8⟩
    | [], h => simp at h
    | [_], h => simp at h
    | [_, _], h => simp at h
    | [_, _, _], h => simp at h
    | _ :: _ :: _ :: _ :: _ :: _, h => simp at h
  · cases h
theorem fo26 : fieldsOf Tryz.prog 26 = some [(0, 23), (4, 24)] := by kernel_rfl
theorem fo23 : fieldsOf Tryz.prog 23 = some [(0, 3), (1, 3), (2, 3), (3, 3)] := by kernel_rfl
theorem fo29 : fieldsOf Tryz.prog 29 = some [(0, 3), (1, 3)] := by kernel_rfl
theorem fo46 : fieldsOf Tryz.prog 46 = some [(0, 3), (1, 29), (3, 3), (4, 3)] := by kernel_rfl
theorem ul24 : Tryz.prog.underlying 24 = some (.slice 46) := by kernel_rfl
theorem ul3 : Tryz.prog.underlying 3 = some (.int .i64) := by kernel_rfl
theorem ul5 : Tryz.prog.underlying 5 = some (.int .u8) := by kernel_rfl
theorem ul41 : Tryz.prog.underlying 41 = some (.int .u16) := by kernel_rfl
theorem ul42 : Tryz.prog.underlying 42 = some (.slice 41) := by kernel_rfl
theorem ul4 : Tryz.prog.underlying 4 = some .bool := by kernel_rfl
theorem co26 : Tryz.prog.cellsOf 26 = 5 := by kernel_rfl
theorem co23 : Tryz.prog.cellsOf 23 = 4 := by kernel_rfl
theorem co24 : Tryz.prog.cellsOf 24 = 1 := by kernel_rfl
theorem co3 : Tryz.prog.cellsOf 3 = 1 := by kernel_rfl
theorem co29 : Tryz.prog.cellsOf 29 = 2 := by kernel_rfl
theorem co46 : Tryz.prog.cellsOf 46 = 5 := by kernel_rfl
theorem co41 : Tryz.prog.cellsOf 41 = 1 := by kernel_rfl
section
variable {H : Type} {enc : TypeId × Value → H} {W : World} {base : Nat} {sp : Nat → Bool} {held : Bool}
theorem open_span {fuel : Nat} {c0 c1 : Value} {x : DataW H × List MemPlace} (h : DataW.trod enc Tryz.prog W base sp held fuel 29 [c0, c1] = some x) : ∃ u v : Int, c0 = .int .i64 u ∧ c1 = .int .i64 v := by
  obtain ⟨f0, f1, e, a0, b0, a1, b1⟩ := fields_two fo29
  obtain ⟨y0, y1, n, _, _, t0, t1⟩ := trod_struct2 e h
  rw [a0, b0, co3] at t0
  rw [a1, b1, co3] at t1
  obtain ⟨u, h0, _⟩ := DataW.trod_int ul3 t0
  obtain ⟨v, h1, _⟩ := DataW.trod_int ul3 t1
  simp at h0 h1
  exact ⟨u, v, h0, h1⟩
theorem open_rule {fuel : Nat} {c0 c1 c2 c3 : Value} {x : DataW H × List MemPlace} (h : DataW.trod enc Tryz.prog W base sp held fuel 23 [c0, c1, c2, c3] = some x) :
    ∃ a b c d : Int, c0 = .int .i64 a ∧ c1 = .int .i64 b ∧ c2 = .int .i64 c ∧ c3 = .int .i64 d := by
  obtain ⟨f0, f1, f2, f3, e, a0, b0, a1, b1, a2, b2, a3, b3⟩ := fields_four fo23
  obtain ⟨y0, y1, y2, y3, n, _, _, t0, t1, t2, t3⟩ := trod_struct4 e h
  rw [a0, b0, co3] at t0
  rw [a1, b1, co3] at t1
  rw [a2, b2, co3] at t2
  rw [a3, b3, co3] at t3
  obtain ⟨u0, h0, _⟩ := DataW.trod_int ul3 t0
  obtain ⟨u1, h1, _⟩ := DataW.trod_int ul3 t1
  obtain ⟨u2, h2, _⟩ := DataW.trod_int ul3 t2
  obtain ⟨u3, h3, _⟩ := DataW.trod_int ul3 t3
  simp at h0 h1 h2 h3
  exact ⟨u0, u1, u2, u3, h0, h1, h2, h3⟩
theorem open_shot {fuel : Nat} {cs : List Value} {x : DataW H × List MemPlace} (h : DataW.trod enc Tryz.prog W base sp held fuel 46 cs = some x) :
    ∃ y : Sh, cs = [.int .i64 y.d, .int .i64 y.u, .int .i64 y.v, .int .i64 y.wd, .int .i64 y.lt] := by
  obtain ⟨f0, f1, f2, f3, e, a0, b0, a1, b1, a2, b2, a3, b3⟩ := fields_four fo46
  obtain ⟨y0, y1, y2, y3, n, _, hl, t0, t1, t2, t3⟩ := trod_struct4 e h
  rw [co46] at hl
  match cs, hl with
  | [c0, c1, c2, c3, c4], _ =>
    rw [a0, b0, co3] at t0
    rw [a1, b1, co29] at t1
    rw [a2, b2, co3] at t2
    rw [a3, b3, co3] at t3
    simp only [List.drop, List.take] at t0 t1 t2 t3
    obtain ⟨d, h0, _⟩ := DataW.trod_int ul3 t0
    obtain ⟨u1, v1, rfl, rfl⟩ := open_span t1
    obtain ⟨wd, h2, _⟩ := DataW.trod_int ul3 t2
    obtain ⟨lt, h3, _⟩ := DataW.trod_int ul3 t3
    simp at h0 h2 h3
    subst h0 h2 h3
    exact ⟨⟨d, u1, v1, wd, lt⟩, rfl⟩
theorem add_spot {a : Addr} {w : World} {v : Value} {k : Nat} (h : w.cell? (a.add k) = some v) (hk : k = 0) : a = ⟨a.block, a.off, none⟩ := by
  subst hk
  simp only [Addr.add, if_true] at h
  unfold World.cell? at h
  obtain ⟨b, o, sp⟩ := a
  cases sp with
  | none => rfl
  | some s =>
    dsimp only at h
    split at h
    · simp at h
    · cases h
theorem open_shots {fuel : Nat} {v : Value} {x : DataW H × List MemPlace} (h : DataW.trod enc Tryz.prog W base sp held fuel 24 [v] = some x) : ∃ (A : Option Addr) (n c : Nat) (sh : Nat → Sh), v = .slice A n c ∧ n ≤ c ∧ ShotsAt W A n sh := by
  rcases Go.Deep.open_slice ul24 h with ⟨h0, _⟩ | ⟨a, len, cap, m, n, D, Pl, h0, hb, hl, hm, hmm, rfl, hx⟩
  · simp at h0
    subst h0
    exact ⟨none, 0, 0, fun _ => ⟨0, 0, 0, 0, 0⟩, rfl, Nat.le_refl _, fun k hk => by omega⟩
  · simp at h0
    subst h0
    have hlm : len ≤ m := by rw [hmm]; split <;> omega
    have each : ∀ i, i < len → ∃ y : Sh, a = ⟨a.block, a.off, none⟩ ∧ ShotAt W a.block (a.off + i * 5) y := by
      intro i hi
      obtain ⟨cs', h1, h2⟩ := hx i (by omega)
      rw [co46] at h1
      obtain ⟨_, hlen, hcell⟩ := World.cells?_some h1
      obtain ⟨y, rfl⟩ := open_shot h2
      have hsp : a = ⟨a.block, a.off, none⟩ := by
        obtain ⟨cs0, g1, g2⟩ := hx 0 (by omega)
        rw [co46] at g1
        obtain ⟨_, glen, gcell⟩ := World.cells?_some g1
        obtain ⟨z, rfl⟩ := open_shot g2
        have g0 := gcell 0 (by omega)
        simp only [Nat.zero_mul] at g0
        have g3 : ((a.add 0).add 0) = a.add 0 := by simp [Addr.add]
        rw [g3] at g0
        exact add_spot (k := 0) g0 rfl
      refine ⟨y, hsp, ?_⟩
      have key : ∀ j, (a.add (i * 5)).add j = ⟨a.block, a.off + i * 5 + j, none⟩ := by
        intro j
        rw [hsp]
        unfold Addr.add
        by_cases h1 : i * 5 = 0 <;> by_cases h2 : j = 0 <;> simp [h1, h2]
      have e0 := hcell 0 (by omega)
      have e1 := hcell 1 (by omega)
      have e2 := hcell 2 (by omega)
      have e3 := hcell 3 (by omega)
      have e4 := hcell 4 (by omega)
      rw [key] at e0 e1 e2 e3 e4
      exact ⟨by simpa using e0, by simpa using e1, by simpa using e2, by simpa using e3, by simpa using e4⟩
    refine ⟨some a, len, cap, fun i => if hi : i < len then (each i hi).choose else ⟨0, 0, 0, 0, 0⟩, rfl, hl, fun k hk => ⟨a.block, a.off, ?_, ?_⟩⟩
    · rw [← (each k hk).choose_spec.1]
    · dsimp only
      rw [dif_pos hk]
      exact (each k hk).choose_spec.2
theorem open_card {fuel : Nat} {cs : List Value} {x : DataW H × List MemPlace} (h : DataW.trod enc Tryz.prog W base sp held fuel 26 cs = some x) :
    ∃ (r : Rl) (A : Option Addr) (n c : Nat) (sh : Nat → Sh), cs = [.int .i64 r.ls, .int .i64 r.ms, .int .i64 r.wd, .int .i64 r.lt, .slice A n c] ∧ n ≤ c ∧ ShotsAt W A n sh := by
  obtain ⟨f0, f1, e, a0, b0, a1, b1⟩ := fields_two fo26
  obtain ⟨y0, y1, n, _, hl, t0, t1⟩ := trod_struct2 e h
  rw [co26] at hl
  match cs, hl with
  | [c0, c1, c2, c3, c4], _ =>
    rw [a0, b0, co23] at t0
    rw [a1, b1, co24] at t1
    simp only [List.drop, List.take] at t0 t1
    obtain ⟨a, b, c, d, rfl, rfl, rfl, rfl⟩ := open_rule t0
    obtain ⟨A, n', cap, sh, rfl, h1, h2⟩ := open_shots t1
    exact ⟨⟨a, b, c, d⟩, A, n', cap, sh, rfl, h1, h2⟩
end
theorem open_picks {H : Type} {enc : TypeId × Value → H} {W : World} {base : Nat} {sp : Nat → Bool} {held : Bool} {fuel : Nat} {v : Value} {x : DataW H × List MemPlace} (h : DataW.trod enc Tryz.prog W base sp held fuel 42 [v] = some x) :
    ∃ (A : Option Addr) (n c : Nat) (p : Nat → Int), v = .slice A n c ∧ n ≤ c ∧ PicksAt W A n p := by
  rcases Go.Deep.open_slice ul42 h with ⟨h0, _⟩ | ⟨a, len, cap, m, n, D, Pl, h0, hb, hl, hm, hmm, rfl, hx⟩
  · simp at h0
    subst h0
    exact ⟨none, 0, 0, fun _ => 0, rfl, Nat.le_refl _, fun k hk => by omega⟩
  · simp at h0
    subst h0
    have hlm : len ≤ m := by rw [hmm]; split <;> omega
    have each : ∀ i, i < len → ∃ y : Int, a = ⟨a.block, a.off, none⟩ ∧ W.cell? ⟨a.block, a.off + i, none⟩ = some (.int .u16 y) ∧ 0 ≤ y ∧ y ≤ 65535 := by
      intro i hi
      obtain ⟨cs', h1, h2⟩ := hx i (by omega)
      rw [co41] at h1
      obtain ⟨_, hlen, hcell⟩ := World.cells?_some h1
      obtain ⟨y, rfl, _, hwf⟩ := DataW.trod_int ul41 h2
      have hsp : a = ⟨a.block, a.off, none⟩ := by
        obtain ⟨cs0, g1, g2⟩ := hx 0 (by omega)
        rw [co41] at g1
        obtain ⟨_, glen, gcell⟩ := World.cells?_some g1
        obtain ⟨z, rfl, _, _⟩ := DataW.trod_int ul41 g2
        have g0 := gcell 0 (by omega)
        simp only [Nat.zero_mul] at g0
        have g3 : ((a.add 0).add 0) = a.add 0 := by simp [Addr.add]
        rw [g3] at g0
        exact add_spot (k := 0) g0 rfl
      refine ⟨y, hsp, ?_, ?_⟩
      · have e0 := hcell 0 (by omega)
        have key : (a.add (i * 1)).add 0 = ⟨a.block, a.off + i, none⟩ := by
          rw [hsp]
          unfold Addr.add
          by_cases h1 : i = 0
          · subst h1; simp
          · simp [h1]
        rw [key] at e0
        simpa using e0
      · simp [Lit.wf, IntKind.min, IntKind.max, IntKind.signed, IntKind.bits] at hwf
        omega
    refine ⟨some a, len, cap, fun i => if hi : i < len then (each i hi).choose else 0, rfl, hl, fun k hk => ⟨a.block, a.off, ?_, ?_⟩⟩
    · rw [← (each k hk).choose_spec.1]
    · dsimp only
      rw [dif_pos hk]
      exact (each k hk).choose_spec.2
end Go.Proofs.YtlabfeofejemjaaGreat
end
section
namespace Go.Proofs.YtlabfeofejemjaaGreat
open Go.RowKit Go.Cx Go.Conc Go.ChangeShapes Go.WideShapes Go.ChangeAt
theorem fence_ok : FenceOk Tryz.prog Fc.fn := fenceOk_of (L := [3,4,5,6,7,9,10,11,12,13,14,15,16,17,18,19,20,21,22,23,24,25,26,27,28,29,30,31,32,33,34,45,46,47,48,49,50,51,52,53,54,55,56,57,58,59,60,61,74,75,76,77,78,79,80,81,82,83,84,85,111,112,113,131]) (by kernel_rfl)
theorem shot_there : ∃ fn, Tryz.prog.funcs[8]? = some fn ∧ (fn.name == "runtime.NumGoroutine") = false ∧ fn.body.isNone = false := ⟨_, Tryz.func8, by kernel_rfl, by kernel_rfl⟩
theorem law_calls {f : FuncId} {r z : Nat} {C0 : Code} {a0 : Act} {args : Array Value} {W : World} (hen : Frame.enter Tryz.prog f args .normal = (lawFr f).atR a0 [.code C0]) (hin : Fc.fn f)
    (h : Reach Fc Tryz.prog (lawFr f) [] (fun a k w => AtCallG 8 r z a k ∧ Below (strike W).heap.size (strike W) w) a0 [.code C0] (strike W)) :
    ∃ a k w N t, AtCallG 8 r z a k ∧ Below W.heap.size W w ∧ Lone t ∧ runNT Tryz.prog N (solo (G (Frame.enter Tryz.prog f args .normal) []) W) #[] = (.next (solo (G (Frame.enter Tryz.prog 8 #[] .normal) [(lawFr f).at a k]) w), t) := by
  obtain ⟨a, k, v, ⟨hat, hb⟩, hs⟩ := h
  have hs : StepsIn (Machine.fenced Tryz.prog Fc) Tryz.prog (lone (Frame.enter Tryz.prog f args .normal) [] (strike W)) (lone ((lawFr f).atR a k) [] v) := by rw [hen]; exact hs
  obtain ⟨N, w, t, hr, hl, htw⟩ := chain_calm (Fc := Fc) rfl fence_ok hs (G (Frame.enter Tryz.prog f args .normal) []) (strike W) W #[] rfl
    ⟨_, [], rfl, frIn_enter fence_ok hin _, .inl rfl, fun c h => by simp at h⟩ (twin_strike W) (fun op h => by simp at h) ((lawFr f).atR a k) [] v rfl rfl
  have hsz : (strike W).heap.size = W.heap.size := by simp [strike]
  rw [hsz] at hb
  refine ⟨a, k, w, N + 1, t, hat, twin_below htw hb, hl, ?_⟩
  rw [runNT_add, hr]
  simp only [Frame.atR_of_none (show (lawFr f).roundOf = none from rfl), runNT, stepT_solo (show (G ((lawFr f).at a k) []).status = .running from rfl), runT_solo_go (call_step shot_there hat w)]
  simp [MemOp.ofEvents]
theorem env_below {w w1 : World} (h : Env (OldL w) w w1) : Below w.heap.size w w1 where
  os := h.os
  tape := h.tape
  output := h.output
  size := h.size
  block := by
    intro k hk
    have hs := h.same k w.heap[k] (by simp [hk])
    rw [Array.getElem?_eq_getElem hk]
    cases ho : w.heap[k] with
    | cells c e fr =>
      rw [ho] at hs
      obtain ⟨c', h1, h2, h3⟩ := hs
      rw [h1]
      have : c' = c := by
        apply Array.ext h2
        intro i hi hi'
        have := h3 i ⟨k, rfl, hk⟩
        rw [Array.getElem?_eq_getElem hi, Array.getElem?_eq_getElem hi'] at this
        exact Option.some.inj this
      rw [this]
    | _ => rw [ho] at hs; exact hs ⟨k, rfl, hk⟩
theorem entry_rel (hp : TabOk Tryz.tab) (b : Frame) (w : World) : XRel (fun _ => none) (fun _ => False) (fun _ => False) [b] Tryz.x0 (G (Frame.enter Tryz.prog 8 #[] .normal) [b]) w := by
  obtain ⟨fr, he⟩ : ∃ fr, enterA Tryz.tab 8 [] false = some fr := by
    cases h : enterA Tryz.tab 8 [] false with
    | some fr => exact ⟨fr, rfl⟩
    | none => exact absurd (show (enterA Tryz.tab 8 [] false).isSome = true by kernel_rfl) (by rw [h]; simp)
  have hr := enter_rel (f := fun _ => none) hp (args' := #[]) (kind := .normal) .nil he rfl
  unfold Tryz.x0
  rw [he]
  refine .plain (Bd := 0) ⟨⟨_, [], rfl, hr, .nil⟩, ?_⟩ (Nat.zero_le _) .nil
  exact {
    wf := ⟨fun b o h => by simp [T.get] at h, fun b c x r ba m h => by simp [T.get] at h, fun r m h => by simp [members, T.get] at h⟩
    obj := fun b x h => by cases h
    mine := fun b x h => by cases h
    part := fun b x i h => by cases h
    apart := fun b b' x x' o o' h => by cases h
    coord := fun b b' x x' o o' h => by cases h
    home := fun b x h => by cases h }
theorem law_run {f : FuncId} {fl : Func} {r z : Nat} {C0 : Code} {a0 : Act} {args : Array Value} {W : World} (hen : Frame.enter Tryz.prog f args .normal = (lawFr f).atR a0 [.code C0]) (hin : Fc.fn f) (hfl : Tryz.prog.funcs[f]? = some fl) (hres : fl.results = #[.tmp r]) (hrz : r < z)
    (h : Reach Fc Tryz.prog (lawFr f) [] (fun a k w => AtCallG 8 r z a k ∧ Below (strike W).heap.size (strike W) w) a0 [.code C0] (strike W)) :
    ∃ M last o w' t', runNT Tryz.prog (M + 1) (solo (G (Frame.enter Tryz.prog f args .normal) []) W) #[] = (.ended o w', t') ∧
      runN Tryz.prog M (solo (G (Frame.enter Tryz.prog f args .normal) []) W) = .next last ∧ Go.step Tryz.prog last = .ended o w' ∧
      Go.Conc.Good Tryz.prog (fun v w1 => v = .bool true ∧ Below W.heap.size W w1) last o w' t' := by
  obtain ⟨a, k, w, N, t, hat, hb, hl, hr⟩ := law_calls hen hin h
  obtain ⟨K, last, o, w2, t2, h1, h2, h3, h4⟩ := Tryz.shot_run (b := (lawFr f).at a k) (bot := []) (sl := none) hl (fun l h => h.elim) (entry_rel Tryz.tabOk _ w) (Post := fun v w1 => v = .bool true ∧ Env (OldL w) w w1) (n := 4) (fun w' he => after_callG fence_ok hin hfl hres hrz hat he)
  rw [← solo_eq_crowd] at h1 h2
  obtain ⟨r1, r2⟩ := run_then hr h1 h2
  exact ⟨N + K, last, o, w2, t2, r1, r2, h3, h4.mono fun v hp => ⟨hp.1, hb.trans ((env_below hp.2).mono hb.size)⟩⟩
theorem shots_strike {W : World} {A : Option Addr} {n : Nat} {sh : Nat → Sh} (h : ShotsAt W A n sh) : ShotsAt (strike W) A n sh := fun k hk => by
  obtain ⟨b, o, e, hx⟩ := h k hk
  have c := fun a => (twin_strike W).cell a
  exact ⟨b, o, e, by rw [← c]; exact hx.h0, by rw [← c]; exact hx.h1, by rw [← c]; exact hx.h2, by rw [← c]; exact hx.h3, by rw [← c]; exact hx.h4⟩
theorem picks_strike {W : World} {A : Option Addr} {n : Nat} {p : Nat → Int} (h : PicksAt W A n p) : PicksAt (strike W) A n p := fun k hk => by
  obtain ⟨b, o, e, hx, h2⟩ := h k hk
  exact ⟨b, o, e, by rw [← (twin_strike W).cell]; exact hx, h2⟩
theorem enter5 (v0 v1 v2 v3 : Value) : Frame.enter Tryz.prog 5 #[v0, v1, v2, v3] .normal = (lawFr 5).atR { tmps := #[v0, v1, v2, v3] ++ Array.replicate 177 undef, defers := [] } [.code A5] := by
  have hb : Tryz.f5.body = some A5 := rfl
  have hn : Tryz.f5.ntmps = 181 := rfl
  simp [Frame.enter, Frame.atR, Tryz.func5, hb, hn]
theorem each_run (r : Rl) (A : Option Addr) (n c : Nat) (sh : Nat → Sh) (at8 mk : Int) (PA : Option Addr) (pn pc : Nat) (p : Nat → Int) (W : World) (hc : n ≤ c) (hpc : pn ≤ pc) (ha0 : 0 ≤ at8) (ha1 : at8 ≤ 255) (hm0 : 0 ≤ mk) (hm1 : mk ≤ 65535) (hsh : ShotsAt W A n sh) (hp : PicksAt W PA pn p) :
    ∃ M last o w' t', runNT Tryz.prog (M + 1) (solo (G (Frame.enter Tryz.prog 5 #[cardV r A n c, .int .u8 at8, .int .u16 mk, .slice PA pn pc] .normal) []) W) #[] = (.ended o w', t') ∧
      runN Tryz.prog M (solo (G (Frame.enter Tryz.prog 5 #[cardV r A n c, .int .u8 at8, .int .u16 mk, .slice PA pn pc] .normal) []) W) = .next last ∧ Go.step Tryz.prog last = .ended o w' ∧
      Go.Conc.Good Tryz.prog (fun v w1 => v = .bool true ∧ Below W.heap.size W w1) last o w' t' :=
  law_run (enter5 _ _ _ _) fin5 Tryz.func5 rfl (by omega) (each_walk r A n c sh at8 mk PA pn pc p (strike W) hc hpc ha0 ha1 hm0 hm1 (Lib.hid (shots_strike hsh)) (Lib.hid (picks_strike hp)))
theorem own : ownKnob Tryz.prog.godebug = none := by kernel_rfl
theorem laidOut : laidOutB Tryz.prog = true := by kernel_rfl
theorem shut_true {H : Type} {enc : TypeId × Value → H} {w : World} {base : Nat} {sp : Nat → Bool} {held : Bool} : DataW.Trod enc Tryz.prog w base sp held 4 (.bool true) (.lit (.bool true)) [] := by
  refine ⟨1, ?_⟩
  simp only [DataW.trod, Value.cells, ul4]
theorem params5 : Tryz.f5.params.toList = [26, 5, 41, 42] := rfl
theorem each_lifted (os : Os) (started : os.Started) (H : Type) (enc : TypeId × Value → H) :
    ReturnsInLeavingWide {} Tryz.checked os 5 .any (Rows.arrowEachSpec.pre6 enc Tryz.prog Tryz.f5 Rows.arrowEachRow.domain false) (Rows.arrowEachSpec.post enc Tryz.prog Tryz.f5 false true false false) := by
  refine returnsInLeavingWide_of_change_sized (C := Tryz.checked) own started Tryz.func5
    (ChangeSpec.witness6 (enc := enc) (C := Tryz.checked) false ⟨#[], #[.agg #[.int .i64 0, .int .i64 0, .int .i64 0, .int .i64 0, .slice none 0 0], .int .u8 0, .int .u16 0, .slice none 0 0], []⟩ 8 (by kernel_rfl) (by kernel_rfl) (by kernel_rfl) (by kernel_rfl)) ?_
  intro W base args ds gs before hval0 hW _ _ _
  have hval : ∀ (j : Nat) t v, Tryz.f5.params[j]? = some t → args[j]? = some v → Value.okWide Tryz.prog W .any base t v := hval0
  have hW' := hW
  obtain ⟨p, q, hA0, hV, rfl, _, _⟩ := hW
  have hA : DataW.TrodAll enc Tryz.prog W 0 (fun _ => true) true Tryz.f5.params.toList args.toList ds p := hA0
  rw [params5] at hA
  obtain ⟨v0, v1, v2, v3, d0, d1, d2, d3, p0, p1, p2, p3, rfl, rfl, rfl, h0, h1, h2, h3⟩ := trodAll_four hA
  obtain ⟨rfl, rfl⟩ := trodVars_none hV
  obtain ⟨at8, rfl, rfl, rfl, hw1⟩ := open_int ul5 (hval 1 5 v1 rfl rfl) h1
  obtain ⟨mk, rfl, rfl, rfl, hw2⟩ := open_int ul41 (hval 2 41 v2 rfl rfl) h2
  have hv0 := hval 0 26 v0 rfl rfl
  obtain ⟨f0, f1, e26, _⟩ := fields_two fo26
  have hagg : ∃ cs, v0 = .agg cs := by
    unfold Value.okWide at hv0
    rw [e26] at hv0
    obtain ⟨cs, h, _⟩ := hv0
    exact ⟨cs, h⟩
  obtain ⟨cs, rfl⟩ := hagg
  have h0k := h0
  have h3k := h3
  obtain ⟨fuel, hf⟩ := h0
  obtain ⟨r, A, n, c, sh, hcs, hc, hsh⟩ := open_card hf
  have hcs' : cs = #[.int .i64 r.ls, .int .i64 r.ms, .int .i64 r.wd, .int .i64 r.lt, .slice A n c] := by
    have : cs.toList = [.int .i64 r.ls, .int .i64 r.ms, .int .i64 r.wd, .int .i64 r.lt, .slice A n c] := hcs
    exact Array.toList_inj.1 this
  subst hcs'
  obtain ⟨fuel2, hf2⟩ := h3
  have hv3 := hval 3 42 v3 rfl rfl
  obtain ⟨PA0, pn0, pc0, rfl⟩ := okWide_slice ul42 hv3
  obtain ⟨PA, pn, pc, pk, e2, hpc, hpk⟩ := open_picks hf2
  cases e2
  clear hA0 hval0
  have hb8 : 0 ≤ at8 ∧ at8 ≤ 255 := by simp [Lit.wf, IntKind.min, IntKind.max, IntKind.signed, IntKind.bits] at hw1; omega
  have hbm : 0 ≤ mk ∧ mk ≤ 65535 := by simp [Lit.wf, IntKind.min, IntKind.max, IntKind.signed, IntKind.bits] at hw2; omega
  have hlt : ∀ x, x ∈ p0 ∨ x ∈ p3 → x.block < W.heap.size := fun x hx => hW'.lt x (by simp; rcases hx with h | h <;> simp [h])
  obtain ⟨M, last, o, w', t', r1, r2, r3, r4⟩ := each_run r A n c sh at8 mk PA0 pn0 pc0 pk W hc hpc hb8.1 hb8.2 hbm.1 hbm.2 hsh hpk
  refine ⟨M, last, o, w', t', r1, r2, r3, r4.mono fun v hF => ?_⟩
  obtain ⟨rfl, hb⟩ := hF
  refine ⟨_, _, _, [], p0 ++ [] ++ [] ++ p3, [], hW', ?_, ?_, rfl, hb.frame _, fun h => by cases h⟩
  · exact trodAll_mk1 (t := 4) (v := .bool true) (d := .lit (.bool true)) shut_true
  · have h9 := trodAll_mk4 (Below.trod laidOut (by kernel_rfl) (of_decide_eq_true (by kernel_rfl)) h0k hb fun x hx => hlt x (.inl hx)) (shut_int (enc := enc) (w := w') (base := 0) (spare := fun b => decide (b < W.heap.size)) (held := true) ul5 hw1) (shut_int (enc := enc) (w := w') (base := 0) (spare := fun b => decide (b < W.heap.size)) (held := true) ul41 hw2) (Below.trod laidOut (by kernel_rfl) (of_decide_eq_true (by kernel_rfl)) h3k hb fun x hx => hlt x (.inr hx))
    simp only [List.append_nil, List.nil_append] at h9 ⊢
    exact h9
theorem arrowEach_holds : Rows.ArrowEachSaid :=
  OpenClaim.holds_of_wide_leaving 5 Tryz.f5 rfl rfl rfl rfl rfl rfl rfl ⟨rfl, rfl, rfl, rfl, rfl⟩ rfl rfl rfl rfl rfl (by kernel_rfl) Tryz.func5 (by kernel_rfl)
    (of_decide_eq_true (by kernel_rfl)) (by unfold Func.isWrapper; first | (rw [if_pos (by decide +kernel)]; kernel_rfl) | (rw [if_neg (by decide +kernel)]; exact ⟨rfl, rfl⟩))
    (fun os started H enc _ => each_lifted os started H enc)
end Go.Proofs.YtlabfeofejemjaaGreat
end
