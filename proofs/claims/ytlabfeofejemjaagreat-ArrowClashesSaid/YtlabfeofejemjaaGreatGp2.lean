/- A part of the proof that ArrowClashes returns true for every input: no further condition. -/
import Derived.Test.YtlabfeofejemjaaGreatGp1
import Derived.Test.YtlabfeofejemjaaGreatCx8
import Derived.Test.YtlabfeofejemjaaGreatCx9
import Derived.Conc.Own4
import Derived.Deep.Slices
import Derived.Lib.SmallJoins
set_option linter.unusedSimpArgs false
set_option linter.unusedVariables false
set_option maxHeartbeats 2000000
set_option maxRecDepth 100000
section
namespace Go.Proofs.YtlabfeofejemjaaGreat
open Go.RowKit
theorem box_two {W w : World} {X : Obj} {r : Rl} {A : Option Addr} {n c : Nat} {t : TypeId} (h : Below ((W.alloc X).alloc (.cells #[.int .i64 r.ls, .int .i64 r.ms, .int .i64 r.wd, .int .i64 r.lt, .slice A n c] t)).heap.size ((W.alloc X).alloc (.cells #[.int .i64 r.ls, .int .i64 r.ms, .int .i64 r.wd, .int .i64 r.lt, .slice A n c] t)) w) :
    w.cell? ⟨W.heap.size + 1, 0, none⟩ = some (.int .i64 r.ls) ∧ w.cell? ⟨W.heap.size + 1, 1, none⟩ = some (.int .i64 r.ms) ∧ w.cell? ⟨W.heap.size + 1, 2, none⟩ = some (.int .i64 r.wd) ∧ w.cell? ⟨W.heap.size + 1, 3, none⟩ = some (.int .i64 r.lt) ∧ w.cell? ⟨W.heap.size + 1, 4, none⟩ = some (.slice A n c) := by
  have h1 : ((W.alloc X).alloc (.cells #[.int .i64 r.ls, .int .i64 r.ms, .int .i64 r.wd, .int .i64 r.lt, .slice A n c] t)).heap[W.heap.size + 1]? = some (.cells #[.int .i64 r.ls, .int .i64 r.ms, .int .i64 r.wd, .int .i64 r.lt, .slice A n c] t (0, 0)) := heap_new' (by simp)
  have h2 := (h.block (W.heap.size + 1) (by simp)).trans h1
  exact five90 h2
theorem below_two (W : World) (X Y : Obj) : Below W.heap.size W ((W.alloc X).alloc Y) := ((Below.refl _ _).alloc (Nat.le_refl _) _).alloc (by simp) _
def SaysFits (p : Prop) (z : Int) (W : World) (e : Ending) (w' : World) : Prop := ∃ g : Bool, e = .returned (.tuple #[.bool g, .int .i64 z]) ∧ (z = 0 → (g = true ↔ p)) ∧ (z ≠ 0 → g = false) ∧ Below W.heap.size W w'
def SaysList (z : Int) (q : Nat → (Nat → Nat) → Prop) (W : World) (e : Ending) (w' : World) : Prop := ∃ (LA : Option Addr) (m lc : Nat) (l : Nat → Nat), e = .returned (.tuple #[.slice LA m lc, .int .i64 z]) ∧ m ≤ lc ∧ IntsAt w' LA m (fun k => (l k : Int)) ∧ (z = 0 → q m l) ∧ (z ≠ 0 → m = 0) ∧ Below W.heap.size W w'
def ClashIs (r : Rl) (sh : Nat → Sh) (n m : Nat) (l : Nat → Nat) : Prop := (AllAgree r sh n ∧ m = 0) ∨ (FirstClash r sh n (l 0) (l 1) ∧ m = 2)
def TrustIs (r : Rl) (sh : Nat → Sh) (n m : Nat) (l : Nat → Nat) : Prop := m = bN r sh (2 ^ n) ∧ l = bF r sh (2 ^ n)
theorem clash_none {r : Rl} {sh : Nat → Sh} {n : Nat} {e : Ending} {w' : World} {z : Nat} (hal : AllAgree r sh n) (h : (AllAgree r sh n ∧ e = .returned (.slice none 0 0)) ∨
    ∃ i j g, FirstClash r sh n i j ∧ e = .returned (.slice (some ⟨g, 0, none⟩) 2 2) ∧ z ≤ g ∧ w'.cell? ⟨g, 0, none⟩ = some (.int .i64 (i : Nat)) ∧ w'.cell? ⟨g, 1, none⟩ = some (.int .i64 (j : Nat))) : e = .returned (.slice none 0 0) := by
  rcases h with h | ⟨i, j, g, hf, _⟩
  · exact h.2
  · exact absurd (hal i j hf.lt hf.lt') (by rw [hf.no]; simp)
theorem clash_some {r : Rl} {sh : Nat → Sh} {n : Nat} {e : Ending} {w' : World} {z : Nat} (hal : ¬ AllAgree r sh n) (h : (AllAgree r sh n ∧ e = .returned (.slice none 0 0)) ∨
    ∃ i j g, FirstClash r sh n i j ∧ e = .returned (.slice (some ⟨g, 0, none⟩) 2 2) ∧ z ≤ g ∧ w'.cell? ⟨g, 0, none⟩ = some (.int .i64 (i : Nat)) ∧ w'.cell? ⟨g, 1, none⟩ = some (.int .i64 (j : Nat))) :
    ∃ i j g, FirstClash r sh n i j ∧ e = .returned (.slice (some ⟨g, 0, none⟩) 2 2) ∧ z ≤ g ∧ w'.cell? ⟨g, 0, none⟩ = some (.int .i64 (i : Nat)) ∧ w'.cell? ⟨g, 1, none⟩ = some (.int .i64 (j : Nat)) := by
  rcases h with h | h
  · exact absurd h.1 hal
  · exact h
theorem clash_list {r : Rl} {sh : Nat → Sh} {n : Nat} {e : Ending} {w' : World} {z : Nat} (h : (AllAgree r sh n ∧ e = .returned (.slice none 0 0)) ∨
    ∃ i j g, FirstClash r sh n i j ∧ e = .returned (.slice (some ⟨g, 0, none⟩) 2 2) ∧ z ≤ g ∧ w'.cell? ⟨g, 0, none⟩ = some (.int .i64 (i : Nat)) ∧ w'.cell? ⟨g, 1, none⟩ = some (.int .i64 (j : Nat))) :
    ∃ (LA : Option Addr) (m lc : Nat) (l : Nat → Nat), e = .returned (.slice LA m lc) ∧ m ≤ lc ∧ IntsAt w' LA m (fun k => (l k : Int)) ∧ ClashIs r sh n m l := by
  rcases h with ⟨h1, h2⟩ | ⟨i, j, g, hf, h1, _, h2, h3⟩
  · exact ⟨none, 0, 0, fun _ => 0, h2, Nat.le_refl _, fun k hk => by omega, .inl ⟨h1, rfl⟩⟩
  · refine ⟨_, 2, 2, fun k => if k = 0 then i else j, h1, Nat.le_refl _, fun k hk => ⟨g, 0, rfl, ?_⟩, .inr ⟨by simpa using hf, rfl⟩⟩
    have : k = 0 ∨ k = 1 := by omega
    rcases this with rfl | rfl
    · simpa using h2
    · simpa using h3
section
variable (r : Rl) (A : Option Addr) (n c : Nat) (sh : Nat → Sh) (W : World) (hn : n ≤ 20) (hc : n ≤ c) (hsh : Hid (ShotsAt W A n sh))
include hn hc hsh
theorem Fits_any : CallsIn Fc 0 Tryz.prog 13 #[cardV r A n c] W (SaysFits (AllAgree r sh n) (cardZ r sh n) W) := by
  have hck := fun w (hb : Below W.heap.size W w) => check_any r A n c sh w hn hc (Lib.hid (hsh.out.below hb))
  have hz := cardZ_ok (r := r) (sh := sh) (n := n)
  generalize cardZ r sh n = z at *
  have HCK := Lib.hid hck
  have HZ := Lib.hid hz
  clear hck hz
  by_cases h0 : z = 0
  · have hok := Lib.hid (HZ.out.1 h0)
    have hn8 := hok.out.count
    subst h0
    have hcl := fun w (hb : Below W.heap.size W w) => clash_any r A n c sh w hn8 hc (Lib.hid hok.out.rule) (Lib.hid hok.out.each) (Lib.hid (hsh.out.below hb))
    have HCL := Lib.hid hcl
    clear hcl
    by_cases hal : AllAgree r sh n
    · have HAL := Lib.hid hal
      clear hal
      gi_enter Tryz.func13, Tryz.ntmps13
      gi_wp2_with (first
        | (gi_at_call 46; refine (HCK.out _ (below_two _ _ _)).mono ?_; rintro e w2 ⟨rfl, hb2⟩; obtain ⟨c0, c1, c2, c3, c4⟩ := box_two hb2; have HB2 := Lib.hid ((below_two _ _ _).trans (hb2.mono (below_two _ _ _).size)); clear hb2)
        | (gi_at_call 53; refine (HCL.out _ HB2.out).mono ?_; rintro e w3 ⟨hb3, h⟩; obtain rfl := clash_none HAL.out h; have HB3 := Lib.hid (HB2.out.trans (hb3.mono HB2.out.size)); clear hb3 h))
      go_ret2
      exact ⟨true, by simp, fun _ => ⟨fun _ => HAL.out, fun _ => rfl⟩, fun h => absurd rfl h, HB3.out⟩
    · have HAL : Hid (¬ AllAgree r sh n) := Lib.hid hal
      clear hal
      gi_enter Tryz.func13, Tryz.ntmps13
      gi_wp2_with (first
        | (gi_at_call 46; refine (HCK.out _ (below_two _ _ _)).mono ?_; rintro e w2 ⟨rfl, hb2⟩; obtain ⟨c0, c1, c2, c3, c4⟩ := box_two hb2; have HB2 := Lib.hid ((below_two _ _ _).trans (hb2.mono (below_two _ _ _).size)); clear hb2)
        | (gi_at_call 53; refine (HCL.out _ HB2.out).mono ?_; rintro e w3 ⟨hb3, h⟩; obtain ⟨i, j, g, hf, rfl, _⟩ := clash_some HAL.out h; have HB3 := Lib.hid (HB2.out.trans (hb3.mono HB2.out.size)); clear hb3 h))
      go_ret2
      exact ⟨false, by simp, fun _ => ⟨fun h => (by cases h), fun h => absurd h HAL.out⟩, fun _ => rfl, HB3.out⟩
  · gi_enter Tryz.func13, Tryz.ntmps13
    gi_wp2_with (gi_at_call 46; refine (HCK.out _ (below_two _ _ _)).mono ?_; rintro e w2 ⟨rfl, hb2⟩; have HB2 := Lib.hid ((below_two _ _ _).trans (hb2.mono (below_two _ _ _).size)); clear hb2)
    go_ret2
    exact ⟨false, rfl, fun h => absurd h h0, fun _ => rfl, HB2.out⟩
theorem Clash_any : CallsIn Fc 0 Tryz.prog 15 #[cardV r A n c] W (SaysList (cardZ r sh n) (ClashIs r sh n) W) := by
  have hck := fun w (hb : Below W.heap.size W w) => check_any r A n c sh w hn hc (Lib.hid (hsh.out.below hb))
  have hz := cardZ_ok (r := r) (sh := sh) (n := n)
  generalize cardZ r sh n = z at *
  have HCK := Lib.hid hck
  have HZ := Lib.hid hz
  clear hck hz
  by_cases h0 : z = 0
  · have hok := Lib.hid (HZ.out.1 h0)
    have hn8 := hok.out.count
    subst h0
    have hcl := fun w (hb : Below W.heap.size W w) => clash_any r A n c sh w hn8 hc (Lib.hid hok.out.rule) (Lib.hid hok.out.each) (Lib.hid (hsh.out.below hb))
    have HCL := Lib.hid hcl
    clear hcl
    gi_enter Tryz.func15, Tryz.ntmps15
    gi_wp2_with (first
      | (gi_at_call 46; refine (HCK.out _ (below_two _ _ _)).mono ?_; rintro e w2 ⟨rfl, hb2⟩; obtain ⟨c0, c1, c2, c3, c4⟩ := box_two hb2; have HB2 := Lib.hid ((below_two _ _ _).trans (hb2.mono (below_two _ _ _).size)); clear hb2)
      | (gi_at_call 53; refine (HCL.out _ HB2.out).mono ?_; rintro e w3 ⟨hb3, h⟩; obtain ⟨LA, m, lc, l, rfl, h1, h2, h3⟩ := clash_list h; have HB3 := Lib.hid (HB2.out.trans (hb3.mono HB2.out.size)); clear hb3 h))
    go_ret2
    exact ⟨LA, m, lc, l, rfl, h1, h2, fun _ => h3, fun h => absurd rfl h, HB3.out⟩
  · gi_enter Tryz.func15, Tryz.ntmps15
    gi_wp2_with (gi_at_call 46; refine (HCK.out _ (below_two _ _ _)).mono ?_; rintro e w2 ⟨rfl, hb2⟩; have HB2 := Lib.hid ((below_two _ _ _).trans (hb2.mono (below_two _ _ _).size)); clear hb2)
    go_ret2
    exact ⟨none, 0, 0, fun _ => 0, rfl, Nat.le_refl _, fun k hk => by omega, fun h => absurd h h0, fun _ => rfl, HB2.out⟩
theorem Trust_any : CallsIn Fc 0 Tryz.prog 18 #[cardV r A n c] W (SaysList (cardZ r sh n) (TrustIs r sh n) W) := by
  have hck := fun w (hb : Below W.heap.size W w) => check_any r A n c sh w hn hc (Lib.hid (hsh.out.below hb))
  have hz := cardZ_ok (r := r) (sh := sh) (n := n)
  generalize cardZ r sh n = z at *
  have HCK := Lib.hid hck
  have HZ := Lib.hid hz
  clear hck hz
  by_cases h0 : z = 0
  · have hok := Lib.hid (HZ.out.1 h0)
    have hn8 := hok.out.count
    subst h0
    have hcl := fun w (hb : Below W.heap.size W w) => trust_any r A n c sh w hn8 hc (Lib.hid hok.out.rule) (Lib.hid hok.out.each) (Lib.hid (hsh.out.below hb))
    have HCL := Lib.hid hcl
    clear hcl
    gi_enter Tryz.func18, Tryz.ntmps18
    gi_wp2_with (first
      | (gi_at_call 46; refine (HCK.out _ (below_two _ _ _)).mono ?_; rintro e w2 ⟨rfl, hb2⟩; obtain ⟨c0, c1, c2, c3, c4⟩ := box_two hb2; have HB2 := Lib.hid ((below_two _ _ _).trans (hb2.mono (below_two _ _ _).size)); clear hb2)
      | (gi_at_call 55; refine (HCL.out _ HB2.out).mono ?_; rintro e w3 ⟨LA, lc, rfl, h1, h2, hb3⟩; have HB3 := Lib.hid (HB2.out.trans (hb3.mono HB2.out.size)); clear hb3))
    go_ret2
    exact ⟨LA, _, lc, _, rfl, h1, h2, fun _ => ⟨rfl, rfl⟩, fun h => absurd rfl h, HB3.out⟩
  · gi_enter Tryz.func18, Tryz.ntmps18
    gi_wp2_with (gi_at_call 46; refine (HCK.out _ (below_two _ _ _)).mono ?_; rintro e w2 ⟨rfl, hb2⟩; have HB2 := Lib.hid ((below_two _ _ _).trans (hb2.mono (below_two _ _ _).size)); clear hb2)
    go_ret2
    exact ⟨none, 0, 0, fun _ => 0, rfl, Nat.le_refl _, fun k hk => by omega, fun h => absurd h h0, fun _ => rfl, HB2.out⟩
end
end Go.Proofs.YtlabfeofejemjaaGreat
end
section
namespace Go.Proofs.YtlabfeofejemjaaGreat
open Go.RowKit
inductive RoleG where
  | val (d : Nat) (v : Value)
  | any (d : Nat)
  | st
def RoleG.slot : RoleG → Option Nat
  | .val d _ => some d
  | .any d => some d
  | .st => none
def nvG (R : List RoleG) (i : Nat) : Bool := match R[i]? with
  | some (.any _) => true
  | some .st => true
  | _ => false
def outsG (V : Nat → Value) : List RoleG → Nat → List (Nat × Value)
  | [], _ => []
  | .val d v :: R, i => (d, v) :: outsG V R (i + 1)
  | .any d :: R, i => (d, V i) :: outsG V R (i + 1)
  | .st :: R, i => outsG V R (i + 1)
def updB (L : Nat → Bool) (j : Nat) : Nat → Bool := fun i => if i = j then true else L i
def updV (V : Nat → Value) (j : Nat) (v : Value) : Nat → Value := fun i => if i = j then v else V i
section
variable {F : Fence} {n : Nat} {P : Program} {ops : Array Oper} {Q : Exit → Act → World → Prop}
def slotV (R : List RoleG) (a : Act) (i : Nat) : Value := match R[i]? with
  | some (.any d) => a.eval (.tmp d)
  | _ => undef
structure RG (ops : Array Oper) (R : List RoleG) (I : (Nat → Bool) → (Nat → Value) → World → Prop) (z : Nat) (a0 : Act) (listed : Array Bool) (a : Act) (w : World) : Prop where
  defers : a.defers = []
  size : a.tmps.size = z
  old : ∀ s, (∀ ρ ∈ R, ρ.slot ≠ some s) → a.eval (.tmp s) = a0.eval (.tmp s)
  val : ∀ (j d : Nat) (v : Value), R[j]? = some (.val d v) → listed.getD j false = true → a.eval (.tmp d) = v
  inv : I (fun i => listed.getD i false && nvG R i) (slotV R a) w
theorem outsG_mem {V : Nat → Value} {x : Nat × Value} : ∀ {R : List RoleG} {i : Nat}, x ∈ outsG V R i → ∃ k, R[k]? = some (.val x.1 x.2) ∨ (R[k]? = some (.any x.1) ∧ x.2 = V (i + k))
  | [], i, h => by cases h
  | .val d v :: R, i, h => by
    rcases List.mem_cons.1 h with rfl | h
    · exact ⟨0, .inl rfl⟩
    · obtain ⟨k, h⟩ := outsG_mem h
      exact ⟨k + 1, by simpa [Nat.add_assoc, Nat.add_comm 1] using h⟩
  | .any d :: R, i, h => by
    rcases List.mem_cons.1 h with rfl | h
    · exact ⟨0, .inr ⟨rfl, rfl⟩⟩
    · obtain ⟨k, h⟩ := outsG_mem h
      exact ⟨k + 1, by simpa [Nat.add_assoc, Nat.add_comm 1] using h⟩
  | .st :: R, i, h => by
    obtain ⟨k, h⟩ := outsG_mem (R := R) (i := i + 1) h
    exact ⟨k + 1, by simpa [Nat.add_assoc, Nat.add_comm 1] using h⟩
theorem outsG_has {V : Nat → Value} : ∀ {R : List RoleG} {i k d : Nat}, (R[k]?.bind RoleG.slot) = some d → ∃ v, (d, v) ∈ outsG V R i
  | [], i, k, d, h => by simp at h
  | .val e v :: R, i, 0, d, h => by
    simp [RoleG.slot] at h
    exact ⟨v, by subst h; exact List.mem_cons_self ..⟩
  | .any e :: R, i, 0, d, h => by
    simp [RoleG.slot] at h
    exact ⟨V i, by subst h; exact List.mem_cons_self ..⟩
  | .st :: R, i, 0, d, h => by simp [RoleG.slot] at h
  | .val e v :: R, i, k + 1, d, h => by
    obtain ⟨u, hu⟩ := outsG_has (R := R) (i := i + 1) (k := k) (d := d) (by simpa using h)
    exact ⟨u, List.mem_cons_of_mem _ hu⟩
  | .any e :: R, i, k + 1, d, h => by
    obtain ⟨u, hu⟩ := outsG_has (R := R) (i := i + 1) (k := k) (d := d) (by simpa using h)
    exact ⟨u, List.mem_cons_of_mem _ hu⟩
  | .st :: R, i, k + 1, d, h => by
    obtain ⟨u, hu⟩ := outsG_has (R := R) (i := i + 1) (k := k) (d := d) (by simpa using h)
    exact ⟨u, hu⟩
end
end Go.Proofs.YtlabfeofejemjaaGreat
end
section
namespace Go.Proofs.YtlabfeofejemjaaGreat
open Go.RowKit
section
variable {F : Fence} {n : Nat} {P : Program} {ops : Array Oper} {Q : Exit → Act → World → Prop}
structure RH (ops : Array Oper) (R : List RoleG) (I : (Nat → Bool) → (Nat → Value) → World → Prop) (z : Nat) (a0 : Act) (listed : Array Bool) (a : Act) (w : World) : Prop where
  defers : a.defers = []
  size : a.tmps.size = z
  old : ∀ s, (∀ ρ ∈ R, ρ.slot ≠ some s) → a.eval (.tmp s) = a0.eval (.tmp s)
  val : ∀ (j d : Nat) (v : Value), R[j]? = some (.val d v) → listed.getD j false = true → a.eval (.tmp d) = v
  inv : I (fun i => listed.getD i false && nvG R i) (slotV R a) w
  closed : ∀ i, listed.getD i false = true → ∀ j, depB ops i j = true → listed.getD j false = true
def aheadB (ops : Array Oper) (j e : Nat) : Bool := decide (e ≠ j) && (clos ops (e + 1) [e]).contains j
theorem ahead_not {listed : Array Bool} {R : List RoleG} {j e : Nat} (hc : ∀ i, listed.getD i false = true → ∀ j, depB ops i j = true → listed.getD j false = true) (hd : ∀ k, depB ops j k = true → listed.getD k false = true) (hj : listed.getD j false = false) (he : aheadB ops j e = true) : (listed.getD e false && nvG R e) = false := by
  unfold aheadB at he
  simp only [Bool.and_eq_true, decide_eq_true_eq, List.contains_iff_mem] at he
  cases h : listed.getD e false with
  | false => rfl
  | true =>
    exfalso
    have := clos_listed (k := e) hc (hc e h) (e + 1) [e] (fun x hx => by
      rcases List.mem_singleton.1 hx with rfl
      exact .inl rfl) j he.2
    rcases this with h2 | h2
    · exact he.1 h2.symm
    · rw [hj] at h2; cases h2
theorem wpIn_region_H (R : List RoleG) {I : (Nat → Bool) → (Nat → Value) → World → Prop} {z : Nat} {a0 : Act} {id : Nat} {w : World} (hm : P.follows .mixedOrders = true) (hb : backB .any ops = true) (hlen : R.length = ops.size) (hnd : rowDst (R.map RoleG.slot) z z z = true) (hd : a0.defers = []) (hz : a0.tmps.size = z)
    (h0 : I (fun _ => false) (slotV R a0) { w with drawn := w.drawn + 1 })
    (hJ : ∀ j L V a w, j < ops.size → (nvG R j = true → L j = false) → (∀ k, depB ops j k = true → nvG R k = true → L k = true) → (∀ e, aheadB ops j e = true → nvG R e = true → L e = false) → a.defers = [] → a.tmps.size = z → (∀ s, R.all (fun ρ => ρ.slot != some s) = true → a.eval (.tmp s) = a0.eval (.tmp s)) →
      (∀ k d v, depB ops j k = true → R[k]? = some (.val d v) → a.eval (.tmp d) = v) → (∀ k d, R[k]? = some (.any d) → a.eval (.tmp d) = V k) → I L V w →
      wpOpIn F n P ops Q j (fun a' w' => a'.defers = [] ∧ match R[j]? with
        | some (.val d v) => a'.tmps = a.tmps.setIfInBounds d v ∧ I L V w'
        | some (.any d) => ∃ v, a'.tmps = a.tmps.setIfInBounds d v ∧ I (updB L j) (updV V j v) w'
        | _ => a'.tmps = a.tmps ∧ I (updB L j) V w') a w)
    (hE : ∀ L V w, (∀ i, nvG R i = true → L i = true) → I L V w → Q .normal { tmps := (outsG V R 0).foldl (fun t x => t.setIfInBounds x.1 x.2) a0.tmps, defers := [] } w) : (Code.region id ops true).wpIn F n P Q a0 w := by
  have hK : ∀ {j : Nat} {ρ : RoleG}, R[j]? = some ρ → (R.map RoleG.slot)[j]? = some ρ.slot := fun h => by rw [List.getElem?_map, h]; rfl
  have hkey : ∀ {j d : Nat} {ρ : RoleG}, R[j]? = some ρ → ρ.slot = some d → d < z ∧ ∀ i ρ', i ≠ j → R[i]? = some ρ' → ρ'.slot ≠ some d := fun {j d ρ} h e => by
    have h' := hK h
    rw [e] at h'
    obtain ⟨_, _, q3, q4⟩ := rowDst_use hnd h'
    exact ⟨q3, fun i ρ' hi h' e => q4 i hi (by rw [hK h', e])⟩
  have evs : ∀ (a a' : Act) (d : Nat) (v : Value), a'.tmps = a.tmps.setIfInBounds d v → (∀ s, s ≠ d → a'.eval (.tmp s) = a.eval (.tmp s)) ∧ (d < a.tmps.size → a'.eval (.tmp d) = v) := fun a a' d v h => by
    constructor
    · intro s hs
      simp only [Act.eval, h]
      simp [Ne.symm hs]
    · intro hd
      simp only [Act.eval, h]
      simp [hd]
  have same : ∀ (a a' : Act), a'.tmps = a.tmps → ∀ s, a'.eval (.tmp s) = a.eval (.tmp s) := fun a a' h s => by simp only [Act.eval, h]
  have hlist : ∀ {listed : Array Bool} {i : Nat}, i ∈ Region.ready .any ops listed → i < ops.size := fun hi => by
    obtain ⟨_, o, h3, _⟩ := mem_ready.1 hi
    exact (Array.getElem?_eq_some_iff.1 h3).1
  refine wpIn_region_J (J := RH ops R I z a0) hm hb ?_ (fun listed a w i hj hi => ?_) fun listed a w hj hall => ?_
  · have hno : ∀ i, (Array.replicate ops.size false).getD i false = false := fun i => by
      rw [Array.getD_eq_getD_getElem?]
      rcases Nat.lt_or_ge i ops.size with h | h <;> simp [h]
    refine ⟨hd, hz, fun _ _ => rfl, fun j d v _ hl => (by rw [hno j] at hl; cases hl), ?_, fun i hl => (by rw [hno i] at hl; cases hl)⟩
    have e : (fun i => (Array.replicate ops.size false).getD i false && nvG R i) = fun _ => false := by
      funext i
      rw [hno i]
      rfl
    rw [e]
    exact h0
  · have his := hlist hi
    have hnot := not_yet hi
    refine wpOpIn_mono (fun a' w' h => ?_) (hJ i (fun i => listed.getD i false && nvG R i) (slotV R a) a w his (fun _ => by simp [hnot]) (fun k hk hnv => by simp [dep hi hk, hnv]) (fun e he hnv => ahead_not hj.closed (fun k hk => dep hi hk) hnot he) hj.defers hj.size (fun s hs => hj.old s fun ρ hρ => by simpa using List.all_eq_true.1 hs ρ hρ) (fun k d v hk e => hj.val k d v e (dep hi hk)) (fun k d e => by simp [slotV, e]) hj.inv)
    obtain ⟨h1, h2⟩ := h
    obtain ⟨ρ, hρ⟩ : ∃ ρ, R[i]? = some ρ := ⟨R[i], by simp [hlen, his]⟩
    have hgd : ∀ k, (listed.setIfInBounds i true).getD k false = if k = i then true else listed.getD k false := fun k => by
      by_cases e : k = i
      · subst e; rw [set_self hi]; simp
      · rw [gset (fun e' => e e'.symm)]; simp [e]
    have hclosed : ∀ k, (listed.setIfInBounds i true).getD k false = true → ∀ j, depB ops k j = true → (listed.setIfInBounds i true).getD j false = true := fun k hk j hkj => by
      rw [hgd j]
      by_cases e : j = i
      · simp [e]
      · rw [if_neg e]
        rw [hgd k] at hk
        by_cases e2 : k = i
        · subst e2; exact dep hi hkj
        · rw [if_neg e2] at hk
          exact hj.closed k hk j hkj
    rw [hρ] at h2
    cases ρ with
    | val d v =>
      obtain ⟨h2, h3⟩ := h2
      obtain ⟨q1, q2⟩ := hkey hρ rfl
      obtain ⟨e1, e2⟩ := evs a a' d v h2
      have e2 := e2 (by rw [hj.size]; exact q1)
      refine ⟨h1, by rw [h2]; simpa using hj.size, fun s hs => ?_, fun k e u hk hl => ?_, ?_, hclosed⟩
      · rw [e1 s fun e => hs _ (List.mem_iff_getElem?.2 ⟨i, hρ⟩) (by rw [e]; rfl)]; exact hj.old s hs
      · by_cases ek : k = i
        · subst ek; rw [hρ] at hk; cases hk; exact e2
        · rw [hgd k, if_neg ek] at hl
          have hne := q2 k _ ek hk
          rw [e1 e fun e' => hne (by rw [e']; rfl)]
          exact hj.val k e u hk hl
      · have eL : (fun k => (listed.setIfInBounds i true).getD k false && nvG R k) = fun k => listed.getD k false && nvG R k := by
          funext k
          rw [hgd k]
          by_cases ek : k = i
          · subst ek; simp [nvG, hρ]
          · simp [ek]
        have eV : slotV R a' = slotV R a := by
          funext k
          unfold slotV
          split
          · next d' hk =>
            have hne := q2 k _ (fun e => by subst e; rw [hρ] at hk; cases hk) hk
            exact e1 d' fun e' => hne (by rw [e']; rfl)
          · rfl
        rw [eL, eV]
        exact h3
    | any d =>
      obtain ⟨v, h2, h3⟩ := h2
      obtain ⟨q1, q2⟩ := hkey hρ rfl
      obtain ⟨e1, e2⟩ := evs a a' d v h2
      have e2 := e2 (by rw [hj.size]; exact q1)
      refine ⟨h1, by rw [h2]; simpa using hj.size, fun s hs => ?_, fun k e u hk hl => ?_, ?_, hclosed⟩
      · rw [e1 s fun e => hs _ (List.mem_iff_getElem?.2 ⟨i, hρ⟩) (by rw [e]; rfl)]; exact hj.old s hs
      · have ek : k ≠ i := fun ek => by subst ek; rw [hρ] at hk; cases hk
        rw [hgd k, if_neg ek] at hl
        have hne := q2 k _ ek hk
        rw [e1 e fun e' => hne (by rw [e']; rfl)]
        exact hj.val k e u hk hl
      · have eL : (fun k => (listed.setIfInBounds i true).getD k false && nvG R k) = updB (fun k => listed.getD k false && nvG R k) i := by
          funext k
          rw [hgd k]
          unfold updB
          by_cases ek : k = i
          · subst ek; simp [nvG, hρ]
          · simp [ek]
        have eV : slotV R a' = updV (slotV R a) i v := by
          funext k
          unfold updV
          by_cases ek : k = i
          · subst ek; simp only [if_true]; unfold slotV; rw [hρ]; exact e2
          · rw [if_neg ek]
            unfold slotV
            split
            · next d' hk =>
              have hne := q2 k _ ek hk
              exact e1 d' fun e' => hne (by rw [e']; rfl)
            · rfl
        rw [eL, eV]
        exact h3
    | st =>
      obtain ⟨h2, h3⟩ := h2
      have e1 := same a a' h2
      refine ⟨h1, by rw [h2]; exact hj.size, fun s hs => by rw [e1]; exact hj.old s hs, fun k e u hk hl => ?_, ?_, hclosed⟩
      · have ek : k ≠ i := fun ek => by subst ek; rw [hρ] at hk; cases hk
        rw [hgd k, if_neg ek] at hl
        rw [e1]
        exact hj.val k e u hk hl
      · have eL : (fun k => (listed.setIfInBounds i true).getD k false && nvG R k) = updB (fun k => listed.getD k false && nvG R k) i := by
          funext k
          rw [hgd k]
          unfold updB
          by_cases ek : k = i
          · subst ek; simp [nvG, hρ]
          · simp [ek]
        have eV : slotV R a' = slotV R a := by
          funext k
          unfold slotV
          split
          · exact e1 _
          · rfl
        rw [eL, eV]
        exact h3
  · have hin : ∀ i, nvG R i = true → i < ops.size := fun i h => by
      rcases Nat.lt_or_ge i R.length with h' | h'
      · omega
      · unfold nvG at h
        rw [List.getElem?_eq_none h'] at h
        cases h
    have h1 := hE _ _ w (fun i hi => by simp [hall i (hin i hi), hi]) hj.inv
    have e0 : (outsG (slotV R a) R 0).foldl (fun (t : Array Value) (x : Nat × Value) => t.setIfInBounds x.1 x.2) a0.tmps = a.tmps := by
      refine fold_set a _ a0.tmps (by rw [hz, hj.size]) (fun x hx => ?_) fun s hs => (hj.old s fun ρ hρ e => ?_).symm
      · obtain ⟨k, h | ⟨h, h2⟩⟩ := outsG_mem hx
        · have hk : k < ops.size := by
            rcases Nat.lt_or_ge k R.length with h' | h'
            · omega
            · rw [List.getElem?_eq_none h'] at h; cases h
          exact hj.val k _ _ h (hall k hk)
        · rw [h2, Nat.zero_add]
          simp [slotV, h]
      · obtain ⟨k, hk⟩ := List.mem_iff_getElem?.1 hρ
        obtain ⟨v, hv⟩ := outsG_has (V := slotV R a) (i := 0) (k := k) (d := s) (by rw [hk]; exact e)
        exact hs _ hv rfl
    rw [e0] at h1
    obtain ⟨t, d⟩ := a
    have := hj.defers
    simp only at this
    subst this
    exact h1
end
end Go.Proofs.YtlabfeofejemjaaGreat
end
section
namespace Go.Proofs.YtlabfeofejemjaaGreat
open Go.ConcR (DC0)
open Go.RowKit
open Go.RowKit Go.Cx Go.Conc
section
variable {F : Fence} {n : Nat} {P : Program} {Post : Act → World → Prop} {a : Act} {w : World} {b : Frame} {k : List Item} {cs : List Frame}
def Through (Post : Act → World → Prop) : Exit → Act → World → Prop
  | .normal, a, w => Post a w
  | _, _, _ => False
abbrev Comes (F : Fence) (P : Program) (b : Frame) (cs : List Frame) (a : Act) (k : List Item) (w : World) (a' : Act) (k' : List Item) (w' : World) : Prop :=
  StepsIn (Machine.fenced P F) P (lone (b.atR a k) cs w) (lone (b.atR a' k') cs w')
theorem comes_code {c : Code} (h : c.wpIn F n P (Through Post) a w) (hro : b.roundOf = F.round) (hb : F.fn b.fn) (hr : F.room (cs.length + 1 + n)) :
    ∃ a' w', Post a' w' ∧ Comes F P b cs a (.code c :: k) w a' k w' := by
  obtain ⟨e, a', w', hp, harr⟩ := h b k cs hro hb hr
  cases e with
  | normal => exact ⟨a', w', hp, harr⟩
  | _ => exact hp.elim
theorem comes_seq {x y : Code} (hb : F.fn b.fn) (hr : F.room (cs.length + 1 + n)) : Comes F P b cs a (.code (.seq x y) :: k) w a (.code x :: .code y :: k) w :=
  .one (fenced_calm hb hr rfl) stepR_seq
theorem comes_cond {c : Operand} {x y : Code} {t : Bool} (hc : a.eval c = .bool t) (hb : F.fn b.fn) (hr : F.room (cs.length + 1 + n)) : Comes F P b cs a (.code (.cond c x y) :: k) w a (.code (if t then x else y) :: k) w :=
  .one (fenced_calm hb hr rfl) (stepR_cond hc)
theorem comes_region {id : Nat} {ops : Array Oper} (hb : F.fn b.fn) (hr : F.room (cs.length + 1 + n)) : Comes F P b cs a (.code (.region id ops false) :: k) w a (.inRegion ops (List.range ops.size) :: k) w :=
  .one (fenced_calm hb hr rfl) stepR_region
def reckons : Op → Bool
  | .move _ | .assign _ | .pick _ _ _ | .binOp _ _ _ _ _ | .load _ _ | .fieldAddr _ _ _ | .unOp _ _ _ => true
  | .call c => match c.callee with
    | .builtin .len => true
    | _ => false
  | _ => false
theorem reckons_about {o : Oper} (h : reckons o.op = true) (P : Program) (w : World) (ρ : Operand → Value) : o.about P w ρ = none := by
  unfold Oper.about
  cases hop : o.op with
  | call c =>
    rw [hop] at h
    simp only [reckons] at h
    cases hc : c.callee with
    | builtin b => simp [resolve, hc, Target.leads, Sem.run_pure]
    | invoke x y => rw [hc] at h; cases h
    | value f => rw [hc] at h; cases h
  | _ => simp_all [reckons]
theorem run_value {s : Sem Value} {P : Program} {w : World} : (∃ v w', (do let v ← s; pure (Next.value v) : Sem Next).run P w = .ok (.value v) w') ∨ ∃ x w', (do let v ← s; pure (Next.value v) : Sem Next).run P w = .halt x w' := by
  rw [Sem.run_bind]
  cases s.run P w with
  | ok v w' => exact .inl ⟨v, w', rfl⟩
  | halt x w' => exact .inr ⟨x, w', rfl⟩
theorem reckons_run {o : Oper} (h : reckons o.op = true) (P : Program) (w : World) (ρ : Operand → Value) : (∃ v w', (execOp ρ o).run P w = .ok (.value v) w') ∨ ∃ x w', (execOp ρ o).run P w = .halt x w' := by
  cases hop : o.op <;> simp only [hop, reckons] at h <;> try (cases h)
  all_goals unfold execOp; simp only [hop]
  case move x => exact .inl ⟨_, _, rfl⟩
  case assign x => exact .inl ⟨_, _, rfl⟩
  case pick c x y =>
    rw [Sem.run_bind]
    cases (asBool (ρ c)).run P w with
    | ok v w' => exact .inl ⟨_, w', rfl⟩
    | halt x w' => exact .inr ⟨x, w', rfl⟩
  case binOp op t x y u => exact run_value
  case load t x => exact run_value
  case fieldAddr t x f => exact run_value
  case unOp o t x => exact run_value
  case call c =>
    cases hc : c.callee with
    | builtin b =>
      rw [hc] at h
      cases b with
      | len =>
        have e : (do let d ← resolve ρ c o.type; invoke d.target d.args : Sem Next) = (do let v ← Builtin.len_ c.argTypes o.type (c.args.map ρ); pure (Next.value v) : Sem Next) := by
          simp [resolve, hc, invoke, builtin]
        rw [e]
        exact run_value
      | _ => cases h
    | invoke x y => rw [hc] at h; cases h
    | value f => rw [hc] at h; cases h
theorem comes_pre {ops : Array Oper} (l : List Oper) : ∀ (i : Nat) (rest : List Nat) (a : Act) (w : World), (∀ j, j < l.length → ops[i + j]? = l[j]?) → (l.all fun o => reckons o.op) = true →
    wpListIn F n P ops (Through Post) l a w → b.roundOf = F.round → F.fn b.fn → F.room (cs.length + 1 + n) →
    ∃ a' w', Post a' w' ∧ Comes F P b cs a (.inRegion ops (List.range' i l.length ++ rest) :: k) w a' (.inRegion ops rest :: k) w' := by
  induction l with
  | nil => exact fun i rest a w _ _ h _ _ _ => ⟨a, w, h, .refl _⟩
  | cons o l ih =>
    intro i rest a w hops hall h hro hb hr
    have ho : ops[i]? = some o := by simpa using hops 0 (by simp)
    have hops' : ∀ j, j < l.length → ops[i + 1 + j]? = l[j]? := fun j hj => by
      have := hops (j + 1) (by simp; omega)
      simpa [Nat.add_assoc, Nat.add_comm 1 j] using this
    simp only [List.all_cons, Bool.and_eq_true] at hall
    have hab : ∀ f, o.about P w a.eval = some f → F.fn f := fun f hf => by rw [reckons_about hall.1] at hf; cases hf
    have h0 : (lone (b.atR a (.inRegion ops (i :: (List.range' (i + 1) l.length ++ rest)) :: k)) cs w).fenced P F := fenced_oper hb hr ho hab
    have hfin : ∀ v, (b.atR a (.inRegion ops (i :: (List.range' (i + 1) l.length ++ rest)) :: k)).finish v = b.atR (a.put o.dst v) (.inRegion ops (List.range' (i + 1) l.length ++ rest) :: k) := by
      intro v; rw [Frame.finish_atR, ho]; rfl
    simp only [wpListIn] at h
    rw [List.length_cons, List.range'_succ, List.cons_append]
    by_cases hw : Region.wanted o (yielded ops a.tmps) = true
    · rw [if_pos hw] at h
      have h2 := h.2
      have hsem : o.semAt F.round a.eval = execOp a.eval o := by
        refine Oper.semAt_eq _ _ _ fun c hc => ?_
        rw [hc] at hall
        exact absurd hall.1 (by simp [reckons])
      rw [hsem] at h2
      rcases reckons_run hall.1 P w a.eval with ⟨v, w1, hrun⟩ | ⟨x, w1, hrun⟩
      · rw [hrun] at h2
        obtain ⟨a', w', hp, hs⟩ := ih (i + 1) rest _ _ hops' hall.2 h2 hro hb hr
        refine ⟨a', w', hp, .head h0 (step_lone_go ?_) hs⟩
        rw [stepGR_op (P := P) ho hw, hro, hsem, ← hfin]
        simp [stepG.apply, hrun]
      · rw [hrun] at h2
        cases x with
        | panic v => exact h2.elim
        | _ => exact h2.elim
    · rw [if_neg hw] at h
      obtain ⟨a', w', hp, hs⟩ := ih (i + 1) rest _ _ hops' hall.2 h.2 hro hb hr
      have hk := stepR_op_skip (P := P) (b := b) (a := a) (k := k) (cs := cs) (w := w) (ops := ops) (i := i) (rest := List.range' (i + 1) l.length ++ rest) (by simp [ho]; simpa using hw)
      simp only [ho, Option.bind_some] at hk
      exact ⟨a', w', hp, .head h0 hk hs⟩
end
section
variable {F : Fence} {n : Nat} {P : Program} {b : Frame} {cs : List Frame} {S : Act → List Item → World → Prop} {a : Act} {w : World} {k : List Item}
def Reach (F : Fence) (P : Program) (b : Frame) (cs : List Frame) (S : Act → List Item → World → Prop) (a : Act) (k : List Item) (w : World) : Prop :=
  ∃ a' k' w', S a' k' w' ∧ Comes F P b cs a k w a' k' w'
theorem Reach.here (h : S a k w) : Reach F P b cs S a k w := ⟨a, k, w, h, .refl _⟩
theorem reach_seq {x y : Code} (hb : F.fn b.fn) (hr : F.room (cs.length + 1 + n)) (h : Reach F P b cs S a (.code x :: .code y :: k) w) : Reach F P b cs S a (.code (.seq x y) :: k) w := by
  obtain ⟨a', k', w', h1, h2⟩ := h
  exact ⟨a', k', w', h1, (comes_seq hb hr).trans h2⟩
theorem reach_code {c : Code} (hro : b.roundOf = F.round) (hb : F.fn b.fn) (hr : F.room (cs.length + 1 + n))
    (h : ∀ R : Act → World → Prop, (∀ a' w', Reach F P b cs S a' k w' → R a' w') → c.wpIn F n P (Through R) a w) : Reach F P b cs S a (.code c :: k) w := by
  obtain ⟨a1, w1, ⟨a', k', w', h1, h2⟩, h3⟩ := comes_code (h (fun a' w' => Reach F P b cs S a' k w') fun a' w' h => h) hro hb hr
  exact ⟨a', k', w', h1, h3.trans h2⟩
theorem reach_cond {c : Operand} {x y : Code} (t : Bool) (hc : a.eval c = .bool t) (hb : F.fn b.fn) (hr : F.room (cs.length + 1 + n)) (h : Reach F P b cs S a (.code (if t then x else y) :: k) w) : Reach F P b cs S a (.code (.cond c x y) :: k) w := by
  obtain ⟨a', k', w', h1, h2⟩ := h
  exact ⟨a', k', w', h1, (comes_cond hc hb hr).trans h2⟩
theorem reach_skip (hb : F.fn b.fn) (hr : F.room (cs.length + 1 + n)) (hro : b.roundOf = F.round) (h : Reach F P b cs S a k w) : Reach F P b cs S a (.code .skip :: k) w :=
  reach_code (n := n) hro hb hr fun R hR => by
    gi_wp2
    exact hR _ _ h
theorem reach_region {id : Nat} {ops : Array Oper} (hb : F.fn b.fn) (hr : F.room (cs.length + 1 + n)) (h : Reach F P b cs S a (.inRegion ops (List.range ops.size) :: k) w) : Reach F P b cs S a (.code (.region id ops false) :: k) w := by
  obtain ⟨a', k', w', h1, h2⟩ := h
  exact ⟨a', k', w', h1, (comes_region hb hr).trans h2⟩
end
theorem put_same {a : Act} {d : Nat} {v : Value} (h : d < a.tmps.size) : (a.put (some d) v).tmps.getD d undef = v := by
  simp [Act.put, h]
theorem put_far {a : Act} {d e : Nat} {v : Value} (h : d ≠ e) : (a.put (some d) v).tmps.getD e undef = a.tmps.getD e undef := by
  simp [Act.put, h]
theorem put_size {a : Act} {d : Nat} {v : Value} : (a.put (some d) v).tmps.size = a.tmps.size := by simp [Act.put]
theorem put_defers {a : Act} {d : Nat} {v : Value} : (a.put (some d) v).defers = a.defers := rfl
abbrev lawFr (f : FuncId) : Frame := { (default : Frame) with fn := f, kind := .normal, roundOf := none }
structure EarlyAt (S : FuncId) (ops : Array Oper) (i j d r : Nat) : Prop where
  o : ∃ o, ops[i]? = some o ∧ o.op = .call { callee := .value (.func S), args := #[], argTypes := #[] } ∧ o.guard = none ∧ o.dst = some d
  p : ∃ o, ops[j]? = some o ∧ o.op = .assign (.tmp d) ∧ o.guard = none ∧ o.dst = some r
structure LateAt (S : FuncId) (ops : Array Oper) (i j1 j2 g c d e r : Nat) : Prop where
  o : ∃ o, ops[i]? = some o ∧ o.op = .call { callee := .value (.func S), args := #[], argTypes := #[] } ∧ o.guard = some (g, true) ∧ o.dst = some d
  g : (ops[g]?).bind (·.dst) = some c
  p : ∃ o, ops[j1]? = some o ∧ o.op = .pick (.tmp c) (.tmp d) (.const (.bool false)) ∧ o.guard = none ∧ o.dst = some e
  q : ∃ o, ops[j2]? = some o ∧ o.op = .assign (.tmp e) ∧ o.guard = none ∧ o.dst = some r
  ne : d ≠ c
inductive AtCallG (S : FuncId) (r z : Nat) : Act → List Item → Prop where
  | early (a : Act) (k : List Item) (ops : Array Oper) (i j d : Nat) (h : EarlyAt S ops i j d r) (hdz : d < z) (hd : a.defers = []) (hs : a.tmps.size = z) : AtCallG S r z a (.inRegion ops [i, j] :: .code .ret :: k)
  | late (a : Act) (k : List Item) (ops : Array Oper) (i j1 j2 g c d e : Nat) (h : LateAt S ops i j1 j2 g c d e r) (hdz : d < z) (hez : e < z) (hd : a.defers = []) (hs : a.tmps.size = z) (ht : a.tmps.getD c undef = .bool true) (hcz : c < z) : AtCallG S r z a (.inRegion ops [i, j1, j2] :: .code .ret :: k)
section
variable {P : Program} {S f : FuncId} {r z : Nat}
theorem call_step {a : Act} {k : List Item} (hS : ∃ fn, P.funcs[S]? = some fn ∧ (fn.name == "runtime.NumGoroutine") = false ∧ fn.body.isNone = false) (h : AtCallG S r z a k) (w : World) :
    stepG P true (G ((lawFr f).at a k) []) w = .go (G (Frame.enter P S #[] .normal) [(lawFr f).at a k]) w #[] := by
  obtain ⟨fn, hf, hn, hb⟩ := hS
  cases h with
  | early k ops i j d h hdz hd hs =>
    obtain ⟨o, ho, hop, hg, hdst⟩ := h.o
    have hw : Region.wanted o (yielded ops a.tmps) = true := by simp only [Region.wanted, hg]
    rw [stepG_enter ho hw (by intro h; cases h) (run_call_body hop hf hn hb)]
    have : listed P (lawFr f).fn a o w = #[] := by unfold listed; rw [events_call_body hop hf hn hb]; exact seen_none _ _
    rw [this]
    simp only [List.map_toArray, List.map_nil]
  | late k ops i j1 j2 g c d e h hdz hez hd hs ht hcz =>
    obtain ⟨o, ho, hop, hg, hdst⟩ := h.o
    have hw : Region.wanted o (yielded ops a.tmps) = true := by
      simp only [Region.wanted, hg]
      have hgc : a.tmps[c]? = some (.bool true) := by
        rw [Array.getD_eq_getD_getElem?, Array.getElem?_eq_getElem (by omega)] at ht
        rw [Array.getElem?_eq_getElem (by omega)]
        simpa using ht
      unfold yielded
      rw [h.g]
      simp [hgc]
    rw [stepG_enter ho hw (by intro h; cases h) (run_call_body hop hf hn hb)]
    have : listed P (lawFr f).fn a o w = #[] := by unfold listed; rw [events_call_body hop hf hn hb]; exact seen_none _ _
    rw [this]
    simp only [List.map_toArray, List.map_nil]
theorem goes_oneG {R : World → World → Prop} {Stop : Goroutine → World → Prop} {n : Nat} {g g' : Goroutine} {w : World} (hs : g.status = .running) (h : ∀ w1, stepG P true g w1 = .go g' w1 #[]) (hk : ∀ w1, R w w1 → Goes P true R DC0 Stop n g' w1) :
    Goes P true R DC0 Stop (n + 1) g w := Goes.step hs fun w1 h1 => by
  rw [h w1]
  exact ⟨⟨rfl, rfl⟩, hk w1 h1⟩
theorem step_assignG {a : Act} {k : List Item} {ops : Array Oper} {i : Nat} {rest : List Nat} {o : Oper} {x : Operand} (ho : ops[i]? = some o) (hg : o.guard = none) (hop : o.op = .assign x) (w : World) :
    stepG P true (G ((lawFr f).at a (.inRegion ops (i :: rest) :: k)) []) w = .go (G ((lawFr f).at (a.put o.dst (a.eval x)) (.inRegion ops rest :: k)) []) w #[] := by
  have hr : (execOp a.eval o).run P w = .ok (.value (a.eval x)) w := by unfold execOp; simp [hop]
  rw [stepG_value ho (by simp only [Region.wanted, hg]) (by intro h; cases h) hr]
  have : listed P (lawFr f).fn a o w = #[] := by
    unfold listed
    rw [show (execOp a.eval o).events P w #[] = #[] by unfold execOp; simp [hop]]
    exact seen_none _ _
  rw [this]
theorem step_pickG {a : Act} {k : List Item} {ops : Array Oper} {i : Nat} {rest : List Nat} {o : Oper} {c x y : Operand} (ho : ops[i]? = some o) (hg : o.guard = none) (hop : o.op = .pick c x y) (hc : a.eval c = .bool true) (w : World) :
    stepG P true (G ((lawFr f).at a (.inRegion ops (i :: rest) :: k)) []) w = .go (G ((lawFr f).at (a.put o.dst (a.eval x)) (.inRegion ops rest :: k)) []) w #[] := by
  have hr : (execOp a.eval o).run P w = .ok (.value (a.eval x)) w := by unfold execOp; simp [hop, hc, asBool]
  rw [stepG_value ho (by simp only [Region.wanted, hg]) (by intro h; cases h) hr]
  have : listed P (lawFr f).fn a o w = #[] := by
    unfold listed
    rw [show (execOp a.eval o).events P w #[] = #[] by unfold execOp; simp [hop, hc, asBool]]
    exact seen_none _ _
  rw [this]
theorem step_doneG {F : FuncId → Prop} {fl : Func} (hF : FenceOk P F) (hin : F f) (hfl : P.funcs[f]? = some fl) (hres : fl.results = #[.tmp r]) {a : Act} {k : List Item} (hd : a.defers = []) (h4 : a.tmps.getD r undef = .bool true) (w : World) :
    stepG P true (G { (lawFr f).at a (.code .ret :: k) with mode := .returning } []) w = .ended (.done (.bool true)) w #[] := by
  obtain ⟨fn, c, hk⟩ := hF f hin
  have hfn : fn = fl := Option.some.inj (hk.at_.symm.trans hfl)
  have h1 : (results fn a.tmps).run P w = .ok (.bool true) w := by
    rw [results_tmp (t := r) (by rw [hfn]; exact hres) a.tmps P w, h4]
  have h2 : (results fn a.tmps).events P w #[] = #[] := events_results_tmp (t := r) (by rw [hfn]; exact hres) _ _
  have e1 : ∀ (fr : Frame) (z : World), fr.kind = .normal → fr.fn = f → doReturn P true fr [] none (.bool true) z = .ended (.done (.bool true)) z := fun fr z h3 h4 => by simp [doReturn, h3, h4, hk.ini]
  simp only [G, stepG, unwind, Frame.at, hd, hk.at_, Sem.runT_eq, h1, h2]
  rw [e1 _ _ rfl rfl]
  simp [GStep.after, seen_none]
theorem after_retG {F : FuncId → Prop} {fl : Func} (hF : FenceOk P F) (hin : F f) (hfl : P.funcs[f]? = some fl) (hres : fl.results = #[.tmp r]) {a : Act} {k : List Item} {ops : Array Oper} {w w' : World} (he : Env (OldL w) w w') (hd : a.defers = []) (h4 : a.tmps.getD r undef = .bool true) :
    Goes P true (fun w0 w1 => Env (OldL w) w0 w1) DC0 (AtRet P (fun v w1 => v = .bool true ∧ Env (OldL w) w w1)) 2 (G ((lawFr f).at a (.inRegion ops [] :: .code .ret :: k)) []) w' := by
  refine goes_oneG rfl (fun w1 => stepG_region_end) fun w1 h1 => goes_oneG rfl (fun w1 => stepG_ret') fun w2 h2 => Goes.stop fun w3 h3 => ?_
  exact ⟨rfl, _, step_doneG hF hin hfl hres hd h4 w3, rfl, ((he.trans h1).trans h2).trans h3⟩
theorem after_callG {F : FuncId → Prop} {fl : Func} (hF : FenceOk P F) (hin : F f) (hfl : P.funcs[f]? = some fl) (hres : fl.results = #[.tmp r]) (hrz : r < z) {a : Act} {k : List Item} (h : AtCallG S r z a k) {w w' : World} (he : Env (OldL w) w w') :
    Goes P true (fun w0 w1 => Env (OldL w) w0 w1) DC0 (AtRet P (fun v w1 => v = .bool true ∧ Env (OldL w) w w1)) 4 (G (((lawFr f).at a k).finish (.bool true)) []) w' := by
  cases h with
  | early k ops i j d h hdz hd hs =>
    obtain ⟨o, ho, hop, hg, hdst⟩ := h.o
    obtain ⟨o2, ho2, hop2, hg2, hdst2⟩ := h.p
    rw [Frame.finish_at, ho]
    simp only [Option.bind_some, hdst]
    refine goes_oneG (g' := G ((lawFr f).at ((a.put (some d) (.bool true)).put (some r) (.bool true)) (.inRegion ops [] :: .code .ret :: k)) []) rfl (fun w1 => ?_) fun w1 h1 => Goes.more (after_retG hF hin hfl hres (a := (a.put (some d) (.bool true)).put (some r) (.bool true)) (ops := ops) (k := k) (he.trans h1) (by rw [put_defers, put_defers, hd]) (put_same (by rw [put_size]; omega)))
    have h := step_assignG (P := P) (f := f) (a := a.put (some d) (.bool true)) (k := .code .ret :: k) (ops := ops) (i := j) (rest := []) (x := .tmp d) ho2 hg2 hop2 w1
    rw [h, hdst2, show (a.put (some d) (.bool true)).eval (.tmp d) = .bool true from put_same (by omega)]
  | late k ops i j1 j2 g c d e h hdz hez hd hs ht hcz =>
    obtain ⟨o, ho, hop, hg, hdst⟩ := h.o
    obtain ⟨o2, ho2, hop2, hg2, hdst2⟩ := h.p
    obtain ⟨o3, ho3, hop3, hg3, hdst3⟩ := h.q
    rw [Frame.finish_at, ho]
    simp only [Option.bind_some, hdst]
    refine goes_oneG (g' := G ((lawFr f).at ((a.put (some d) (.bool true)).put (some e) (.bool true)) (.inRegion ops [j2] :: .code .ret :: k)) []) rfl (fun w1 => ?_) fun w1 h1 => ?_
    · have h := step_pickG (P := P) (f := f) (a := a.put (some d) (.bool true)) (k := .code .ret :: k) (ops := ops) (i := j1) (rest := [j2]) (c := .tmp c) (x := .tmp d) (y := .const (.bool false)) ho2 hg2 hop2 ((put_far h.ne).trans ht) w1
      rw [h, hdst2, show (a.put (some d) (.bool true)).eval (.tmp d) = .bool true from put_same (by omega)]
    · refine goes_oneG (g' := G ((lawFr f).at (((a.put (some d) (.bool true)).put (some e) (.bool true)).put (some r) (.bool true)) (.inRegion ops [] :: .code .ret :: k)) []) rfl (fun w2 => ?_) fun w2 h2 => after_retG hF hin hfl hres ((he.trans h1).trans h2) (by rw [put_defers, put_defers, put_defers, hd]) (put_same (by rw [put_size, put_size]; omega))
      have h := step_assignG (P := P) (f := f) (a := (a.put (some d) (.bool true)).put (some e) (.bool true)) (k := .code .ret :: k) (ops := ops) (i := j2) (rest := []) (x := .tmp e) ho3 hg3 hop3 w2
      rw [h, hdst3, show ((a.put (some d) (.bool true)).put (some e) (.bool true)).eval (.tmp e) = .bool true from put_same (by rw [put_size]; omega)]
end
def CallsFn (P : Program) (o : Op) : Prop := ∃ (f : FuncId) (args : Array Operand) (ats : Array TypeId) (fn : Func), o = .call { callee := .value (.func f), args, argTypes := ats } ∧ P.funcs[f]? = some fn ∧ (fn.name == "runtime.NumGoroutine") = false ∧ fn.body.isNone = false
section
variable {F : Fence} {n : Nat} {P : Program} {Post : Act → World → Prop} {a : Act} {w : World} {b : Frame} {k : List Item} {cs : List Frame}
theorem comes_call {ops : Array Oper} {i : Nat} {l : List Nat} {o : Oper} {S : FuncId} {args : Array Value} {w1 : World} {next : Act → World → Prop} (ho : ops[i]? = some o) (hw : Region.wanted o (yielded ops a.tmps) = true) (hro : b.roundOf = F.round) (hb : F.fn b.fn) (hr : F.room (cs.length + 1 + n))
    (hrun : (o.semAt F.round a.eval).run P w = .ok (.enter S args) w1) (h : o.wpIn F n P a w next (Through Post)) :
    ∃ v w2, next (a.put o.dst v) w2 ∧ Comes F P b cs a (.inRegion ops (i :: l) :: k) w (a.put o.dst v) (.inRegion ops l :: k) w2 := by
  obtain ⟨hab, h⟩ := h
  rw [hrun] at h
  simp only [Oper.uponIn] at h
  obtain ⟨hn, hF, h⟩ := h
  have h0 : (lone (b.atR a (.inRegion ops (i :: l) :: k)) cs w).fenced P F := fenced_oper hb hr ho hab
  have hg := stepGR_op (P := P) (b := b) (k := k) (cs := cs) (w := w) (rest := l) ho hw
  rw [hro] at hg
  have hroom : F.room ((b.atR a (.inRegion ops (i :: l) :: k) :: cs).length + 1 + (n - 1)) := Fence.room_enter hr hn
  obtain ⟨e, w2, fr, hR, hsteps, hfn, hleave⟩ := h (b.atR a (.inRegion ops (i :: l) :: k) :: cs) hroom
  have henter : step P (lone (b.atR a (.inRegion ops (i :: l) :: k)) cs w) = .next (lone (Frame.enter P S args .normal) (b.atR a (.inRegion ops (i :: l) :: k) :: cs) w1) :=
    step_lone_go (by rw [hg]; simp [stepG.apply, hrun, Frame.atR])
  cases e with
  | returned v =>
    refine ⟨v, w2, hR, .head h0 henter (StepsIn.trans hsteps (.one (fenced_leaving (hfn ▸ hF) hroom hleave) ?_))⟩
    have hfin : (b.atR a (.inRegion ops (i :: l) :: k)).finish v = b.atR (a.put o.dst v) (.inRegion ops l :: k) := by rw [Frame.finish_atR, ho]; rfl
    rw [← hfin]
    exact step_leave_returned hleave
  | panicked chain => exact hR.elim
  | outgrown => obtain ⟨_, _, hq⟩ := hR; exact hq.elim
theorem comes_list {ops : Array Oper} (l : List Oper) : ∀ (i : Nat) (rest : List Nat) (a : Act) (w : World), (∀ j, j < l.length → ops[i + j]? = l[j]?) → (∀ o ∈ l, reckons o.op = true ∨ CallsFn P o.op) →
    wpListIn F n P ops (Through Post) l a w → b.roundOf = F.round → F.fn b.fn → F.room (cs.length + 1 + n) →
    ∃ a' w', Post a' w' ∧ Comes F P b cs a (.inRegion ops (List.range' i l.length ++ rest) :: k) w a' (.inRegion ops rest :: k) w' := by
  induction l with
  | nil => exact fun i rest a w _ _ h _ _ _ => ⟨a, w, h, .refl _⟩
  | cons o l ih =>
    intro i rest a w hops hall h hro hb hr
    have ho : ops[i]? = some o := by simpa using hops 0 (by simp)
    have hops' : ∀ j, j < l.length → ops[i + 1 + j]? = l[j]? := fun j hj => by
      have := hops (j + 1) (by simp; omega)
      simpa [Nat.add_assoc, Nat.add_comm 1 j] using this
    have hall' : ∀ o ∈ l, reckons o.op = true ∨ CallsFn P o.op := fun o ho => hall o (List.mem_cons_of_mem _ ho)
    rw [List.length_cons, List.range'_succ, List.cons_append]
    simp only [wpListIn] at h
    by_cases hw : Region.wanted o (yielded ops a.tmps) = true
    · rw [if_pos hw] at h
      rcases hall o (List.mem_cons_self ..) with hrk | ⟨f, args, ats, fn, hop, hf, hname, hbody⟩
      · have h1 : wpListIn F n P ops (Through fun a w => wpListIn F n P ops (Through Post) l a w) [o] a w := by
          simp only [wpListIn]
          rw [if_pos hw]
          refine ⟨h.1, ?_⟩
          have h2 := h.2
          revert h2
          have hsem : o.semAt F.round a.eval = execOp a.eval o := Oper.semAt_eq _ _ _ fun c hc => by rw [hc] at hrk; exact absurd hrk (by simp [reckons])
          rw [hsem]
          rcases reckons_run hrk P w a.eval with ⟨v, w1, hrun⟩ | ⟨x, w1, hrun⟩
          · rw [hrun]; exact fun h => h
          · rw [hrun]; cases x <;> exact fun h => h
        obtain ⟨a1, w1, h2, h3⟩ := comes_pre (b := b) (cs := cs) (k := k) (ops := ops) [o] i (List.range' (i + 1) l.length ++ rest) a w (fun j hj => by simp at hj; subst hj; simpa using ho) (by simpa using hrk) h1 hro hb hr
        obtain ⟨a', w', hp, hs⟩ := ih (i + 1) rest a1 w1 hops' hall' h2 hro hb hr
        exact ⟨a', w', hp, StepsIn.trans (by simpa using h3) hs⟩
      · have hsem : o.semAt F.round a.eval = execOp a.eval o := Oper.semAt_eq _ _ _ fun c hc => by rw [hop] at hc; cases hc
        obtain ⟨v, w2, h2, h3⟩ := comes_call (l := List.range' (i + 1) l.length ++ rest) ho hw hro hb hr (by rw [hsem]; exact run_call_body hop hf hname hbody) h
        obtain ⟨a', w', hp, hs⟩ := ih (i + 1) rest _ w2 hops' hall' h2 hro hb hr
        exact ⟨a', w', hp, StepsIn.trans h3 hs⟩
    · rw [if_neg hw] at h
      obtain ⟨a', w', hp, hs⟩ := ih (i + 1) rest _ _ hops' hall' h.2 hro hb hr
      have hk := stepR_op_skip (P := P) (b := b) (a := a) (k := k) (cs := cs) (w := w) (ops := ops) (i := i) (rest := List.range' (i + 1) l.length ++ rest) (by simp [ho]; simpa using hw)
      simp only [ho, Option.bind_some] at hk
      exact ⟨a', w', hp, .head (fenced_oper hb hr ho h.1) hk hs⟩
theorem reach_list {S : Act → List Item → World → Prop} {ops : Array Oper} (t : Nat) (rest : List Nat) (hr2 : List.range ops.size = List.range' 0 (ops.toList.take t).length ++ rest) (hall : ∀ o ∈ ops.toList.take t, reckons o.op = true ∨ CallsFn P o.op) (hro : b.roundOf = F.round) (hb : F.fn b.fn) (hr : F.room (cs.length + 1 + n))
    (h : ∀ R : Act → World → Prop, (∀ a' w', Reach F P b cs S a' (.inRegion ops rest :: k) w' → R a' w') → wpListIn F n P ops (Through R) (ops.toList.take t) a w) : Reach F P b cs S a (.inRegion ops (List.range ops.size) :: k) w := by
  rw [hr2]
  obtain ⟨a1, w1, ⟨a', k', w', h1, h2⟩, h3⟩ := comes_list (b := b) (cs := cs) (k := k) (ops.toList.take t) 0 rest a w (fun j hj => by
    rw [Nat.zero_add, List.getElem?_take, if_pos (Nat.lt_of_lt_of_le hj (List.length_take_le ..))]
    simp) hall (h (fun a' w' => Reach F P b cs S a' (.inRegion ops rest :: k) w') fun a' w' h => h) hro hb hr
  exact ⟨a', k', w', h1, h3.trans h2⟩
end
end Go.Proofs.YtlabfeofejemjaaGreat
end
section
namespace Go.Proofs.YtlabfeofejemjaaGreat
open Go.RowKit
theorem mul_next (a k : Int) : (a + 1) * k = a * k + k := by rw [Int.add_mul]; omega
theorem b_range {r : Rl} {sh : Nat → Sh} {n : Nat} (hok : CardOk r sh n) (hn : n ≠ 0) {d : Int} (h0 : 0 ≤ d) (h1 : d ≤ 90) : -107892 ≤ bU r sh d n ∧ bV r sh d n ≤ 207891 := by
  have hb := reach_bounds hok.rule (hok.each 0 (by omega)) h0 h1
  have a := ((bU_le (r := r) (sh := sh) (d := d) n).1 (Int.le_refl _)).2 0 (by omega)
  have b := ((le_bV (r := r) (sh := sh) (d := d) n).1 (Int.le_refl _)).2 0 (by omega)
  omega
def atK (s k : Nat) : Nat := if s + k ≤ 90 then s + k else 90 - k
def Marked (r : Rl) (sh : Nat → Sh) (n s k : Nat) (M : Nat → Int) : Prop := ∀ j, j < k → bU r sh (atK s j : Nat) n ≤ M (atK s j) ∧ M (atK s j) ≤ bV r sh (atK s j : Nat) n
theorem atK_hit {s d : Nat} (hs : s ≤ 90) (hd : d ≤ 90) : ∃ j, j < 91 ∧ atK s j = d := by
  by_cases h : s ≤ d
  · exact ⟨d - s, by omega, by unfold atK; rw [if_pos (by omega)]; omega⟩
  · exact ⟨90 - d, by omega, by unfold atK; rw [if_neg (by omega)]; omega⟩
theorem atK_inj {s j k : Nat} (hs : s ≤ 90) (hj : j ≤ 90) (hk : k ≤ 90) (h : atK s j = atK s k) : j = k := by
  unfold atK at h; split at h <;> split at h <;> omega
theorem Marked.zero {r : Rl} {sh : Nat → Sh} {n s : Nat} {M : Nat → Int} : Marked r sh n s 0 M := fun j hj => by omega
theorem Marked.next {r : Rl} {sh : Nat → Sh} {n s k : Nat} {M : Nat → Int} (h : Marked r sh n s k M) (hs : s ≤ 90) (hk : k ≤ 90) {v : Int} (hv : bU r sh (atK s k : Nat) n ≤ v ∧ v ≤ bV r sh (atK s k : Nat) n) : Marked r sh n s (k + 1) (fun i => if i = atK s k then v else M i) := fun j hj => by
  by_cases e : j = k
  · subst e; simpa using hv
  · have hne : atK s j ≠ atK s k := fun h' => e (atK_inj hs (by omega) hk h')
    simp only [hne, if_false]
    exact h j (by omega)
theorem Marked.wide {r : Rl} {sh : Nat → Sh} {n s : Nat} {M : Nat → Int} (h : Marked r sh n s 91 M) (hok : CardOk r sh n) (hs : s ≤ 90) {i : Nat} (hi : i < n) : wideU r (sh i) ≤ M (sh i).d.toNat ∧ M (sh i).d.toNat ≤ wideV r (sh i) := by
  have hx := hok.each i hi
  have h0 := And.intro hx.d0 hx.d1
  obtain ⟨j, hj, ej⟩ := atK_hit (s := s) (d := (sh i).d.toNat) hs (by omega)
  have a := h j hj
  rw [ej, show (((sh i).d.toNat : Nat) : Int) = (sh i).d by omega] at a
  have u := ((bU_le (r := r) (sh := sh) (d := (sh i).d) n).1 (Int.le_refl _)).2 i hi
  have v := ((le_bV (r := r) (sh := sh) (d := (sh i).d) n).1 (Int.le_refl _)).2 i hi
  rw [reachU_own] at u
  rw [reachV_own] at v
  omega
end Go.Proofs.YtlabfeofejemjaaGreat
end
section
namespace Go.Proofs.YtlabfeofejemjaaGreat
open Go.RowKit Go.Cx Go.Conc
def UpRow (n : Nat) (v : Value) (w : World) : Prop := ∃ LA lc, v = .slice LA n lc ∧ n ≤ lc ∧ IntsAt w LA n (fun k => (k : Int))
theorem UpRow.below {n : Nat} {v : Value} {w w' : World} (h : UpRow n v w) (hb : Below w.heap.size w w') : UpRow n v w' := by
  obtain ⟨LA, lc, h1, h2, h3⟩ := h
  exact ⟨LA, lc, h1, h2, h3.below hb⟩
end Go.Proofs.YtlabfeofejemjaaGreat
end
section
namespace Go.Proofs.YtlabfeofejemjaaGreat
open Go.RowKit Go.Cx Go.Conc
def rgt' : Code → Code
  | .seq _ y => y
  | c => c
def MarksAt (w : World) (p : Nat) (M : Nat → Int) : Prop := ∃ xs : Array Value, w.heap[p]? = some (.cells xs 3 (0, 0)) ∧ ∀ i, i < 91 → xs[i]? = some (.int .i64 (M i))
theorem MarksAt.cell {w : World} {p : Nat} {M : Nat → Int} (h : MarksAt w p M) {i : Nat} (hi : i < 91) : w.cell? ⟨p, i, none⟩ = some (.int .i64 (M i)) := by
  obtain ⟨xs, h1, h2⟩ := h
  simp [World.cell?, h1, h2 i hi]
theorem MarksAt.frozen {w : World} {p : Nat} {M : Nat → Int} (h : MarksAt w p M) (j : Nat) : w.frozen? ⟨p, j, none⟩ = false := by
  obtain ⟨xs, h1, h2⟩ := h
  simp [World.frozen?, h1]
theorem MarksAt.lt {w : World} {p : Nat} {M : Nat → Int} (h : MarksAt w p M) : p < w.heap.size := by
  obtain ⟨xs, h1, h2⟩ := h
  exact (Array.getElem?_eq_some_iff.1 h1).1
theorem MarksAt.below {w w' : World} {p : Nat} {M : Nat → Int} (h : MarksAt w p M) (hb : Below w.heap.size w w') : MarksAt w' p M := by
  have hl := h.lt
  obtain ⟨xs, h1, h2⟩ := h
  exact ⟨xs, (hb.block _ hl).trans h1, h2⟩
theorem MarksAt.set {w : World} {p : Nat} {M : Nat → Int} (h : MarksAt w p M) {d : Nat} (hd : d < 91) (v : Int) : MarksAt (w.setCell ⟨p, d, none⟩ (.int .i64 v)) p (fun i => if i = d then v else M i) := by
  obtain ⟨xs, h1, h2⟩ := h
  refine ⟨xs.setIfInBounds d (.int .i64 v), by simp [World.setCell, Array.getElem?_modify, h1], fun i hi => ?_⟩
  by_cases e : i = d
  · subst e
    have hl : i < xs.size := (Array.getElem?_eq_some_iff.1 (h2 i hi)).1
    simp [hl]
  · rw [Array.getElem?_setIfInBounds_ne (fun e' => e e'.symm)]
    simp [e, h2 i hi]
theorem MarksAt.new (w : World) : MarksAt (w.alloc (.cells (Array.replicate 91 (.int .i64 0)) 3)) w.heap.size (fun _ => 0) := ⟨_, heap_new _ _, fun i hi => by simp [hi]⟩
theorem Marked.range {r : Rl} {sh : Nat → Sh} {n s k : Nat} {M : Nat → Int} (h : Marked r sh n s k M) (hok : CardOk r sh n) (hn : n ≠ 0) {j : Nat} (hj : ∃ i, i < k ∧ atK s i = j) (h9 : j ≤ 90) : -107892 ≤ M j ∧ M j ≤ 207891 := by
  obtain ⟨i, hi, rfl⟩ := hj
  have a := h i hi
  have b := b_range hok hn (d := ((atK s i : Nat) : Int)) (by omega) (by omega)
  omega
theorem MarksAt.far {w : World} {p q : Nat} {M : Nat → Int} (h : MarksAt w p M) (hne : q ≠ p) (j : Nat) (x : Value) : MarksAt (w.setCell ⟨q, j, none⟩ x) p M := by
  obtain ⟨xs, h1, h2⟩ := h
  exact ⟨xs, by simp [World.setCell, Array.getElem?_modify, h1, hne], h2⟩
end Go.Proofs.YtlabfeofejemjaaGreat
end
section
namespace Go.Proofs.YtlabfeofejemjaaGreat
open Go.RowKit Go.Cx Go.Conc
def dstsIn (ops : Array Oper) (D : List Nat) : Bool := (List.range ops.size).all fun j => match dstAt ops j with | some s => D.contains s | none => true
theorem dstsIn_use {ops : Array Oper} {D : List Nat} (h : dstsIn ops D = true) {j s : Nat} (hj : j < ops.size) (e : dstAt ops j = some s) : s ∈ D := by
  have h1 := List.all_eq_true.1 h j (List.mem_range.2 hj)
  rw [e] at h1
  simpa using h1
theorem RF.act {ops : Array Oper} {sup : Nat → List Nat} {Ψ : Nat → List Value → World → Prop} {I : World → Prop} {z : Nat} {a0 : Act} {listed : Array Bool} {a : Act} {w : World} (h : RF ops sup Ψ I z a0 listed a w) (hz : a0.tmps.size = z) (D : List Nat) (hD : dstsIn ops D = true) :
    a = { tmps := (D.map fun d => (d, a.eval (.tmp d))).foldl (fun t x => t.setIfInBounds x.1 x.2) a0.tmps, defers := [] } := by
  have e := fold_set a (D.map fun d => (d, a.eval (.tmp d))) a0.tmps (by rw [hz, h.size]) (fun x hx => by
      obtain ⟨d, _, rfl⟩ := List.mem_map.1 hx
      rfl) fun s hs => (h.old s fun j hj e => hs _ (List.mem_map.2 ⟨s, dstsIn_use hD hj e, rfl⟩) rfl).symm
  rw [e]
  obtain ⟨t, d⟩ := a
  have := h.defers
  simp only at this
  subst this
  rfl
def lft' : Code → Code
  | .seq x _ => x
  | c => c
end Go.Proofs.YtlabfeofejemjaaGreat
end
section
namespace Go.Proofs.YtlabfeofejemjaaGreat
open Go.RowKit Go.Cx Go.Conc
def BoxIs (w : World) (p : Nat) (r : Rl) (v : Value) : Prop := w.heap[p]? = some (.cells #[.int .i64 r.ls, .int .i64 r.ms, .int .i64 r.wd, .int .i64 r.lt, v] 26 (0, 0))
theorem BoxIs.cells {w : World} {p : Nat} {r : Rl} {v : Value} (h : BoxIs w p r v) : w.cell? ⟨p, 0, none⟩ = some (.int .i64 r.ls) ∧ w.cell? ⟨p, 1, none⟩ = some (.int .i64 r.ms) ∧ w.cell? ⟨p, 2, none⟩ = some (.int .i64 r.wd) ∧ w.cell? ⟨p, 3, none⟩ = some (.int .i64 r.lt) ∧ w.cell? ⟨p, 4, none⟩ = some v := by
  unfold BoxIs at h
  refine ⟨?_, ?_, ?_, ?_, ?_⟩ <;> simp [World.cell?, h]
theorem BoxIs.lt {w : World} {p : Nat} {r : Rl} {v : Value} (h : BoxIs w p r v) : p < w.heap.size := (Array.getElem?_eq_some_iff.1 h).1
theorem BoxIs.below {w w' : World} {p : Nat} {r : Rl} {v : Value} (h : BoxIs w p r v) (hb : Below w.heap.size w w') : BoxIs w' p r v := (hb.block p h.lt).trans h
def Box5 (w : World) (p : Nat) (r : Rl) (v : Value) (b : Bool) : Prop := ∃ cs : Array Value, w.heap[p]? = some (.cells cs 26 (0, 0)) ∧ cs.size = 5 ∧ (b = true → cs = #[.int .i64 r.ls, .int .i64 r.ms, .int .i64 r.wd, .int .i64 r.lt, v])
theorem Box5.lt {w : World} {p : Nat} {r : Rl} {v : Value} {b : Bool} (h : Box5 w p r v b) : p < w.heap.size := by
  obtain ⟨cs, h, _⟩ := h
  exact (Array.getElem?_eq_some_iff.1 h).1
theorem Box5.alloc {w : World} {p : Nat} {r : Rl} {v : Value} {b : Bool} (h : Box5 w p r v b) (o : Obj) : Box5 (w.alloc o) p r v b := by
  obtain ⟨cs, h1, h2⟩ := h
  exact ⟨cs, heap_old h1, h2⟩
theorem Box5.new {w : World} {r : Rl} {v : Value} {b : Bool} (hb : b = false) {a0 a1 a2 a3 a4 : Value} : Box5 (w.alloc (.cells #[a0, a1, a2, a3, a4] 26)) w.heap.size r v b := ⟨_, heap_new _ _, rfl, fun h => by rw [hb] at h; cases h⟩
theorem five_cells {w : World} {p : Nat} {t : TypeId} {a0 a1 a2 a3 a4 : Value} (h : w.heap[p]? = some (.cells #[a0, a1, a2, a3, a4] t (0, 0))) : w.cell? ⟨p, 0, none⟩ = some a0 ∧ w.cell? ⟨p, 1, none⟩ = some a1 ∧ w.cell? ⟨p, 2, none⟩ = some a2 ∧ w.cell? ⟨p, 3, none⟩ = some a3 ∧ w.cell? ⟨p, 4, none⟩ = some a4 := by
  refine ⟨?_, ?_, ?_, ?_, ?_⟩ <;> simp [World.cell?, h]
theorem cells_frozen {w : World} {p : Nat} {t : TypeId} {cs : Array Value} (h : w.heap[p]? = some (.cells cs t (0, 0))) (j : Nat) : w.frozen? ⟨p, j, none⟩ = false := by simp [World.frozen?, h]
theorem five_frozen {w : World} {p : Nat} {t : TypeId} {a0 a1 a2 a3 a4 : Value} (h : w.heap[p]? = some (.cells #[a0, a1, a2, a3, a4] t (0, 0))) (j : Nat) : w.frozen? ⟨p, j, none⟩ = false := cells_frozen h j
theorem five_set {w : World} {p : Nat} {a0 a1 a2 a3 a4 : Value} (h : w.heap[p]? = some (.cells #[a0, a1, a2, a3, a4] 26 (0, 0))) (r : Rl) (v : Value) {b : Bool} : Box5 (((((w.setCell ⟨p, 0, none⟩ (.int .i64 r.ls)).setCell ⟨p, 1, none⟩ (.int .i64 r.ms)).setCell ⟨p, 2, none⟩ (.int .i64 r.wd)).setCell ⟨p, 3, none⟩ (.int .i64 r.lt)).setCell ⟨p, 4, none⟩ v) p r v b :=
  ⟨#[.int .i64 r.ls, .int .i64 r.ms, .int .i64 r.wd, .int .i64 r.lt, v], by simp [World.setCell, Array.getElem?_modify, h], rfl, fun _ => rfl⟩
theorem Box5.far {w : World} {p q : Nat} {r : Rl} {v : Value} {b : Bool} (h : Box5 w p r v b) (hne : q ≠ p) (j : Nat) (x : Value) : Box5 (w.setCell ⟨q, j, none⟩ x) p r v b := by
  obtain ⟨cs, h1, h2⟩ := h
  exact ⟨cs, by simp [World.setCell, Array.getElem?_modify, hne, h1], h2⟩
theorem Box5.is {w : World} {p : Nat} {r : Rl} {v : Value} {b : Bool} (h : Box5 w p r v b) (hb : b = true) : BoxIs w p r v := by
  obtain ⟨cs, h1, _, h3⟩ := h
  rw [h3 hb] at h1
  exact h1
def shVals (x : Sh) : List Value := [.int .i64 x.d, .int .i64 x.u, .int .i64 x.v, .int .i64 x.wd, .int .i64 x.lt]
def rowS (sh : Nat → Sh) : Nat → List Value
  | 0 => []
  | n + 1 => rowS sh n ++ shVals (sh n)
theorem rowS_length (sh : Nat → Sh) : ∀ n, (rowS sh n).length = n * 5
  | 0 => rfl
  | n + 1 => by simp [rowS, rowS_length sh n, shVals]; omega
theorem rowS_get (sh : Nat → Sh) : ∀ {n k i : Nat}, k < n → i < 5 → (rowS sh n)[k * 5 + i]? = (shVals (sh k))[i]?
  | n + 1, k, i, hk, hi => by
    have hl := rowS_length sh n
    by_cases e : k = n
    · subst e
      rw [rowS, List.getElem?_append_right (by omega), hl]
      congr 1
      omega
    · rw [rowS, List.getElem?_append_left (by omega)]
      exact rowS_get sh (by omega) hi
theorem addr_add (b o j : Nat) : Addr.add ⟨b, o, none⟩ j = ⟨b, o + j, none⟩ := by
  unfold Addr.add
  by_cases h : j = 0 <;> simp [h]
def RowAt (w : World) (g n : Nat) (sh : Nat → Sh) : Prop := ∃ cur : Array Value, w.heap[g]? = some (.cells cur 46 (0, 0)) ∧ ∀ k i, k < n → i < 5 → cur[k * 5 + i]? = (shVals (sh k))[i]?
theorem own_shots {w : World} {base n : Nat} {v : Value} {sh : Nat → Sh} (h : w.ownsRow base 46 5 v n (rowS sh n)) (hn : n ≠ 0) : ∃ g cap, v = .slice (some ⟨g, 0, none⟩) n cap ∧ base ≤ g ∧ n ≤ cap ∧ RowAt w g n sh := by
  obtain ⟨_, ⟨_, h⟩ | ⟨g, cap, cur, rfl, h1, h2, h3, _, h4, h5⟩⟩ := h
  · exact absurd h hn
  · refine ⟨g, cap, rfl, h1, h3, cur, h2, fun k i hk hi => ?_⟩
    rw [← rowS_get sh hk hi, ← h5, List.getElem?_take, if_pos (by omega)]
    simp
theorem RowAt.lt {w : World} {g n : Nat} {sh : Nat → Sh} (h : RowAt w g n sh) : g < w.heap.size := by
  obtain ⟨cur, h, _⟩ := h
  exact (Array.getElem?_eq_some_iff.1 h).1
theorem RowAt.below {w w' : World} {g n : Nat} {sh : Nat → Sh} (h : RowAt w g n sh) (hb : Below w.heap.size w w') : RowAt w' g n sh := by
  have := h.lt
  obtain ⟨cur, h1, h2⟩ := h
  exact ⟨cur, (hb.block g this).trans h1, h2⟩
theorem RowAt.shots {w : World} {g n : Nat} {sh : Nat → Sh} (h : RowAt w g n sh) : ShotsAt w (some ⟨g, 0, none⟩) n sh := fun k hk => by
  obtain ⟨cur, h1, h2⟩ := h
  refine ⟨g, 0, rfl, ?_, ?_, ?_, ?_, ?_⟩
  · have := h2 k 0 hk (by omega); simp [World.cell?, h1, shVals] at this ⊢; exact this
  · have := h2 k 1 hk (by omega); simp [World.cell?, h1, shVals] at this ⊢; exact this
  · have := h2 k 2 hk (by omega); simp [World.cell?, h1, shVals] at this ⊢; exact this
  · have := h2 k 3 hk (by omega); simp [World.cell?, h1, shVals] at this ⊢; exact this
  · have := h2 k 4 hk (by omega); simp [World.cell?, h1, shVals] at this ⊢; exact this
theorem RowAt.frozen {w : World} {g n : Nat} {sh : Nat → Sh} (h : RowAt w g n sh) (j : Nat) : w.frozen? ⟨g, j, none⟩ = false := by
  obtain ⟨cur, h1, _⟩ := h
  exact cells_frozen h1 j
theorem RowAt.far {w : World} {g p n : Nat} {sh : Nat → Sh} (h : RowAt w g n sh) (hne : p ≠ g) (j : Nat) (x : Value) : RowAt (w.setCell ⟨p, j, none⟩ x) g n sh := by
  obtain ⟨cur, h1, h2⟩ := h
  exact ⟨cur, by simp [World.setCell, Array.getElem?_modify, hne, h1], h2⟩
theorem BoxIs.far {w : World} {p q : Nat} {r : Rl} {v : Value} (h : BoxIs w p r v) (hne : q ≠ p) (j : Nat) (x : Value) : BoxIs (w.setCell ⟨q, j, none⟩ x) p r v := by
  unfold BoxIs at h ⊢
  simp [World.setCell, Array.getElem?_modify, hne, h]
theorem BoxIs.grown {w w' : World} {p : Nat} {r : Rl} {v : Value} {row : Option Nat} (h : BoxIs w p r v) (hg : w.grownBy w' row) (hne : some p ≠ row) : BoxIs w' p r v := (hg.block p h.lt hne).trans h
theorem BoxIs.alloc {w : World} {p : Nat} {r : Rl} {v : Value} (h : BoxIs w p r v) (o : Obj) : BoxIs (w.alloc o) p r v := heap_old h
theorem BoxIs.set4 {w : World} {p : Nat} {r : Rl} {v : Value} (h : BoxIs w p r v) (u : Value) : BoxIs (w.setCell ⟨p, 4, none⟩ u) p r u := by
  unfold BoxIs at h ⊢
  simp [World.setCell, Array.getElem?_modify, h]
theorem BoxIs.frozen {w : World} {p : Nat} {r : Rl} {v : Value} (h : BoxIs w p r v) (j : Nat) : w.frozen? ⟨p, j, none⟩ = false := cells_frozen h j
theorem i46 : (Tryz.prog.info? 46).map (fun i => (i.zero, i.size, i.bytes)) = some (some (.agg #[.int .i64 0, .int .i64 0, .int .i64 0, .int .i64 0, .int .i64 0]), 5, 40) := by kernel_rfl
theorem u24 : Tryz.prog.underlying 24 = some (.slice 46) := by kernel_rfl
theorem own_shape {w : World} {base e size n : Nat} {v : Value} {xs : List Value} (h : w.ownsRow base e size v n xs) (hn : n ≠ 0) : ∃ g cap, v = .slice (some ⟨g, 0, none⟩) n cap := by
  obtain ⟨_, ⟨_, h⟩ | ⟨g, cap, cur, rfl, _⟩⟩ := h
  · exact absurd h hn
  · exact ⟨g, cap, rfl⟩
theorem RowAt.alloc {w : World} {g n : Nat} {sh : Nat → Sh} (h : RowAt w g n sh) (o : Obj) : RowAt (w.alloc o) g n sh := h.below ((Below.refl _ _).alloc (Nat.le_refl _) o)
theorem RowAt.grown {w w' : World} {g n : Nat} {sh : Nat → Sh} {row : Option Nat} (h : RowAt w g n sh) (hg : w.grownBy w' row) (hne : some g ≠ row) : RowAt w' g n sh := by
  have := h.lt
  obtain ⟨cur, h1, h2⟩ := h
  exact ⟨cur, (hg.block g this hne).trans h1, h2⟩
theorem RowAt.put {w : World} {g n k i : Nat} {sh sh' : Nat → Sh} {v : Value} (h : RowAt w g n sh) (hk : k < n) (hi : i < 5) (hsame : ∀ k' i', k' < n → i' < 5 → k' * 5 + i' ≠ k * 5 + i → (shVals (sh' k'))[i']? = (shVals (sh k'))[i']?) (hnew : (shVals (sh' k))[i]? = some v) : RowAt (w.setCell ⟨g, k * 5 + i, none⟩ v) g n sh' := by
  obtain ⟨cur, h1, h2⟩ := h
  have hlt : k * 5 + i < cur.size := by
    have h3 := h2 k i hk hi
    have h4 : i < (shVals (sh k)).length := hi
    rw [List.getElem?_eq_getElem h4] at h3
    exact (Array.getElem?_eq_some_iff.1 h3).1
  refine ⟨cur.setIfInBounds (k * 5 + i) v, by simp [World.setCell, Array.getElem?_modify, h1], fun k' i' hk' hi' => ?_⟩
  rw [Array.getElem?_setIfInBounds]
  by_cases e : k * 5 + i = k' * 5 + i'
  · have e1 : k' = k := by omega
    have e2 : i' = i := by omega
    subst e1 e2
    simp [hlt, hnew]
  · rw [if_neg e, hsame k' i' hk' hi' (fun e' => e e'.symm)]
    exact h2 k' i' hk' hi'
theorem shVals_one (x : Sh) : ∀ u ∈ shVals x, u.oneCell' = true := fun u h => by
  simp only [shVals, List.mem_cons, List.not_mem_nil, or_false] at h
  rcases h with rfl | rfl | rfl | rfl | rfl <;> rfl
theorem row_news {w : World} {g : Nat} {t : TypeId} {xs : List Value} (h : w.heap[g]? = some (.cells xs.toArray t (0, 0))) : ∀ j u, xs[j]? = some u → w.cell? (Addr.add ⟨g, 0, none⟩ j) = some u := fun j u hj => by
  rw [addr_add]
  simp [World.cell?, h, hj]
theorem size_set (w : World) (a : Addr) (v : Value) : (w.setCell a v).heap.size = w.heap.size := by simp [World.setCell]
theorem ownsRow_alloc {w : World} {base size n : Nat} {e : TypeId} {v : Value} {xs : List Value} (h : w.ownsRow base e size v n xs) (o : Obj) : (w.alloc o).ownsRow base e size v n xs := own_below h ((Below.refl _ _).alloc (Nat.le_refl _) o)
theorem ownsRow_setFar {w : World} {base size n p : Nat} {e : TypeId} {v : Value} {xs : List Value} (h : w.ownsRow base e size v n xs) (hp : p < base) (j : Nat) (x : Value) : (w.setCell ⟨p, j, none⟩ x).ownsRow base e size v n xs := by
  obtain ⟨h1, h2 | ⟨g, cap, cur, rfl, q1, q2, q3⟩⟩ := h
  · exact ⟨h1, .inl h2⟩
  · exact ⟨h1, .inr ⟨g, cap, cur, rfl, q1, by have : p ≠ g := by omega
                                              simp [World.setCell, Array.getElem?_modify, this, q2], q3⟩⟩
section
variable {F : Fence} {nF : Nat} {P : Program} {ops : Array Oper} {Q : Exit → Act → World → Prop}
theorem wpOpIn_append {j : Nat} {o : Oper} {K : Act → World → Prop} {a : Act} {w : World} (ho : ops[j]? = some o) (hg : o.guard = none) (s x : Operand) (t : TypeId) (hop : o.op = Op.call { callee := Callee.builtin Builtin.append, args := #[s, x], argTypes := #[t, t] })
    (base : Nat) (e : TypeId) (i : TypeInfo) (z : Value) (size bytes : Nat) (h1 : P.underlying t = some (.slice e)) (h2 : P.info? e = some i) (h3 : i.zero = some z) (h4 : i.size = size) (h5 : i.bytes = bytes) (h6 : z.cells.size = size) (h7 : 0 < size)
    (v : Value) (k : Nat) (xs : List Value) (hs : a.eval s = v) (hown : w.ownsRow base e size v k xs) (ad : Addr) (m c : Nat) (news : List Value) (hx : a.eval x = .slice (some ad) m c) (hn : news.length = m * size)
    (hc : ∀ j u, news[j]? = some u → w.cell? (ad.add j) = some u) (h1c : ∀ u ∈ news, u.oneCell' = true) (b1 : k + m ≤ maxLen) (b2 : (k + m) * bytes ≤ 140737488355328) (b3 : base ≤ w.heap.size)
    (hK : ∀ v' w', w'.ownsRow base e size v' (k + m) (xs ++ news) → w.grownBy w' v.ownBlock → K (a.put o.dst v') w') : wpOpIn F nF P ops Q j K a w := by
  refine wpOpIn_step ho fun K' hK' => ?_
  rw [if_pos (by simp [Region.wanted, hg])]
  obtain ⟨v', w', hrun, r1, r2, r3⟩ := run_append_own (P := P) w base t o.type e i z size bytes h1 h2 h3 h4 h5 h6 h7 v k xs hown ad m c news hn hc h1c b1 b2 b3
  unfold Oper.wpIn
  refine ⟨?_, ?_⟩
  · simp [Oper.about, hop, resolve, Target.leads, Sem.run_pure]
  · rw [Oper.semAt_plain F _ _ (by rw [hop]; intro c hc'; cases hc')]
    simp [execOp, hop, resolve, invoke, builtin, hs, hx, hrun, Result.andThen]
    exact hK' _ _ (hK v' w' r1 r2)
end
end Go.Proofs.YtlabfeofejemjaaGreat
end
section
namespace Go.Proofs.YtlabfeofejemjaaGreat
open Go.RowKit
theorem SameNums_any (LA LB : Option Addr) (m lc k kc : Nat) (a b : Nat → Nat) (W : World) (hm : m ≤ 20) (hk : k ≤ 20) (hc : m ≤ lc) (hkc : k ≤ kc) (ha : Hid (IntsAt W LA m fun k => (a k : Int))) (hb : Hid (IntsAt W LB k fun k => (b k : Int))) :
    CallsIn Fc 0 Tryz.prog 17 #[.slice LA m lc, .slice LB k kc] W (SaysProp (m = k ∧ ∀ i, i < m → a i = b i) W) := by
  by_cases h : m = k
  · subst h
    gi_enter Tryz.func17, Tryz.ntmps17
    gi_wp2
    gi_loopw [5] (fun x wr => ∃ j : Nat, j ≤ m ∧ x = .int .i64 j ∧ Below W.heap.size W wr ∧ ∀ i, i < j → a i = b i) (fun x _ => m - (intOf x).toNat)
    case atStart => exact ⟨0, by omega, rfl, Below.refl _ _, fun i hi => by omega⟩
    case round =>
      obtain ⟨j, hj, rfl, hbw, heq⟩ := hrel
      have HEQ := Lib.hid heq
      have HBW := Lib.hid hbw
      clear heq hbw
      by_cases hlt : j < m
      · obtain ⟨b1, o1, rfl, q1⟩ := ha.out j hlt
        obtain ⟨b2, o2, rfl, q2⟩ := hb.out j hlt
        have Q1 := Lib.hid (Below.old HBW.out q1)
        have Q2 := Lib.hid (Below.old HBW.out q2)
        clear q1 q2
        by_cases he : (a j : Int) = (b j : Int)
        · have hbb : ((a j : Int) != (b j : Int)) = false := by simp [he]
          gi_wp2
          refine wpIn_region_D (D := [(17, .slice (some ⟨b1, o1, none⟩) m lc), (18, .int .i64 j), (19, .pointer (some ⟨b1, o1 + j, none⟩)), (20, .int .i64 (a j)), (21, .slice (some ⟨b2, o2, none⟩) m kc), (22, .int .i64 j), (23, .pointer (some ⟨b2, o2 + j, none⟩)), (24, .int .i64 (b j)), (25, .bool ((a j : Int) != (b j : Int)))])
            (I := fun w => Below wr.heap.size wr w) (z := 26) (by kernel_rfl) (by kernel_rfl) (by kernel_rfl) (by kernel_rfl) (by kernel_rfl) rfl rfl (Below.refl _ _).drew ?_ ?_
          · intro j a w hj hd hz hold hf hI
            have HI := Lib.hid hI
            have q1 := Below.old hI Q1.out
            have q2 := Below.old hI Q2.out
            clear hI hbb he
            have s0 := at_slot hz (hold 0 (by kernel_rfl)) (by omega)
            have s1 := at_slot hz (hold 1 (by kernel_rfl)) (by omega)
            have s5 := at_slot hz (hold 5 (by kernel_rfl)) (by omega)
            clear hold
            have hjs : j = 0 ∨ j = 1 ∨ j = 2 ∨ j = 3 ∨ j = 4 ∨ j = 5 ∨ j = 6 ∨ j = 7 ∨ j = 8 := by have : j < 9 := hj; omega
            rcases hjs with rfl | rfl | rfl | rfl | rfl | rfl | rfl | rfl | rfl
            · refine wpOpIn_step rfl fun K hK => ?_
              go_simp
              exact hK _ _ ⟨_, _, rfl, rfl, rfl, HI.out⟩
            · refine wpOpIn_step rfl fun K hK => ?_
              go_simp
              exact hK _ _ ⟨_, _, rfl, rfl, rfl, HI.out⟩
            · have f17 := at_slot hz (hf 0 17 _ (by kernel_rfl) rfl) (by omega)
              have f18 := at_slot hz (hf 1 18 _ (by kernel_rfl) rfl) (by omega)
              refine wpOpIn_step rfl fun K hK => ?_
              go_simp
              exact hK _ _ ⟨_, _, rfl, rfl, rfl, HI.out⟩
            · have f19 := at_slot hz (hf 2 19 _ (by kernel_rfl) rfl) (by omega)
              refine wpOpIn_step rfl fun K hK => ?_
              go_simp
              exact hK _ _ ⟨_, _, rfl, rfl, rfl, HI.out⟩
            · refine wpOpIn_step rfl fun K hK => ?_
              go_simp
              exact hK _ _ ⟨_, _, rfl, rfl, rfl, HI.out⟩
            · refine wpOpIn_step rfl fun K hK => ?_
              go_simp
              exact hK _ _ ⟨_, _, rfl, rfl, rfl, HI.out⟩
            · have f21 := at_slot hz (hf 4 21 _ (by kernel_rfl) rfl) (by omega)
              have f22 := at_slot hz (hf 5 22 _ (by kernel_rfl) rfl) (by omega)
              refine wpOpIn_step rfl fun K hK => ?_
              go_simp
              exact hK _ _ ⟨_, _, rfl, rfl, rfl, HI.out⟩
            · have f23 := at_slot hz (hf 6 23 _ (by kernel_rfl) rfl) (by omega)
              refine wpOpIn_step rfl fun K hK => ?_
              go_simp
              exact hK _ _ ⟨_, _, rfl, rfl, rfl, HI.out⟩
            · have f20 := at_slot hz (hf 3 20 _ (by kernel_rfl) rfl) (by omega)
              have f24 := at_slot hz (hf 7 24 _ (by kernel_rfl) rfl) (by omega)
              refine wpOpIn_step rfl fun K hK => ?_
              go_simp
              exact hK _ _ ⟨_, _, rfl, rfl, rfl, HI.out⟩
          intro w5 hI
          simp only [List.foldl_cons, List.foldl_nil, List.setIfInBounds_toArray, List.set_cons_succ, List.set_cons_zero]
          have HI := Lib.hid hI
          clear hI
          have HE := Lib.hid he
          clear he
          gi_wp2
          go_roundw
          case rel => exact ⟨j + 1, by omega, by go_num, HBW.out.trans (HI.out.mono HBW.out.size), fun i hi => by
            by_cases e : i = j
            · subst e; have := HE.out; omega
            · exact HEQ.out i (by omega)⟩
          case measure => simp [intOf]; omega
        · have hbb : ((a j : Int) != (b j : Int)) = true := by simpa using he
          have HE : Hid (¬ (a j : Int) = (b j : Int)) := Lib.hid he
          clear he
          gi_wp2
          refine wpIn_region_D (D := [(17, .slice (some ⟨b1, o1, none⟩) m lc), (18, .int .i64 j), (19, .pointer (some ⟨b1, o1 + j, none⟩)), (20, .int .i64 (a j)), (21, .slice (some ⟨b2, o2, none⟩) m kc), (22, .int .i64 j), (23, .pointer (some ⟨b2, o2 + j, none⟩)), (24, .int .i64 (b j)), (25, .bool ((a j : Int) != (b j : Int)))])
            (I := fun w => Below wr.heap.size wr w) (z := 26) (by kernel_rfl) (by kernel_rfl) (by kernel_rfl) (by kernel_rfl) (by kernel_rfl) rfl rfl (Below.refl _ _).drew ?_ ?_
          · intro j a w hj hd hz hold hf hI
            have HI := Lib.hid hI
            have q1 := Below.old hI Q1.out
            have q2 := Below.old hI Q2.out
            clear hI hbb
            have s0 := at_slot hz (hold 0 (by kernel_rfl)) (by omega)
            have s1 := at_slot hz (hold 1 (by kernel_rfl)) (by omega)
            have s5 := at_slot hz (hold 5 (by kernel_rfl)) (by omega)
            clear hold
            have hjs : j = 0 ∨ j = 1 ∨ j = 2 ∨ j = 3 ∨ j = 4 ∨ j = 5 ∨ j = 6 ∨ j = 7 ∨ j = 8 := by have : j < 9 := hj; omega
            rcases hjs with rfl | rfl | rfl | rfl | rfl | rfl | rfl | rfl | rfl
            · refine wpOpIn_step rfl fun K hK => ?_
              go_simp
              exact hK _ _ ⟨_, _, rfl, rfl, rfl, HI.out⟩
            · refine wpOpIn_step rfl fun K hK => ?_
              go_simp
              exact hK _ _ ⟨_, _, rfl, rfl, rfl, HI.out⟩
            · have f17 := at_slot hz (hf 0 17 _ (by kernel_rfl) rfl) (by omega)
              have f18 := at_slot hz (hf 1 18 _ (by kernel_rfl) rfl) (by omega)
              refine wpOpIn_step rfl fun K hK => ?_
              go_simp
              exact hK _ _ ⟨_, _, rfl, rfl, rfl, HI.out⟩
            · have f19 := at_slot hz (hf 2 19 _ (by kernel_rfl) rfl) (by omega)
              refine wpOpIn_step rfl fun K hK => ?_
              go_simp
              exact hK _ _ ⟨_, _, rfl, rfl, rfl, HI.out⟩
            · refine wpOpIn_step rfl fun K hK => ?_
              go_simp
              exact hK _ _ ⟨_, _, rfl, rfl, rfl, HI.out⟩
            · refine wpOpIn_step rfl fun K hK => ?_
              go_simp
              exact hK _ _ ⟨_, _, rfl, rfl, rfl, HI.out⟩
            · have f21 := at_slot hz (hf 4 21 _ (by kernel_rfl) rfl) (by omega)
              have f22 := at_slot hz (hf 5 22 _ (by kernel_rfl) rfl) (by omega)
              refine wpOpIn_step rfl fun K hK => ?_
              go_simp
              exact hK _ _ ⟨_, _, rfl, rfl, rfl, HI.out⟩
            · have f23 := at_slot hz (hf 6 23 _ (by kernel_rfl) rfl) (by omega)
              refine wpOpIn_step rfl fun K hK => ?_
              go_simp
              exact hK _ _ ⟨_, _, rfl, rfl, rfl, HI.out⟩
            · have f20 := at_slot hz (hf 3 20 _ (by kernel_rfl) rfl) (by omega)
              have f24 := at_slot hz (hf 7 24 _ (by kernel_rfl) rfl) (by omega)
              refine wpOpIn_step rfl fun K hK => ?_
              go_simp
              exact hK _ _ ⟨_, _, rfl, rfl, rfl, HI.out⟩
          intro w5 hI
          simp only [List.foldl_cons, List.foldl_nil, List.setIfInBounds_toArray, List.set_cons_succ, List.set_cons_zero]
          have HI := Lib.hid hI
          clear hI
          gi_wp2
          go_ret
          exact ⟨false, rfl, ⟨fun h => (by cases h), fun h => absurd (congrArg (fun x : Nat => (x : Int)) (h.2 j hlt)) HE.out⟩, HBW.out.trans (HI.out.mono HBW.out.size)⟩
      · obtain rfl : j = m := by omega
        gi_wp2
        go_ret
        exact ⟨true, rfl, ⟨fun _ => ⟨by first | trivial | rfl, HEQ.out⟩, fun _ => rfl⟩, HBW.out⟩
  · gi_enter Tryz.func17, Tryz.ntmps17
    gi_wp2
    go_ret
    exact ⟨false, by simp [h], ⟨fun h => (by cases h), fun h' => absurd h'.1 h⟩, Below.refl _ _⟩
def GrownM (r : Rl) (M : Nat → Int) (k : Nat) : Prop := (0 ≤ M 0 ∧ M 0 ≤ 4999) ∧ ∀ d, d + 1 < k → M d + r.ls ≤ M (d + 1) ∧ M (d + 1) ≤ M d + r.ms
theorem GrownM.le {r : Rl} {M : Nat → Int} {k : Nat} (h : GrownM r M k) (hr : RlOk r) : ∀ d, d < k → 0 ≤ M d ∧ M d ≤ 4999 + 999 * d
  | 0, _ => by have := h.1; omega
  | d + 1, hd => by
    have h1 := h.le hr d (by omega)
    have h2 := h.2 d hd
    have := hr.l0
    have := hr.m1
    omega
theorem GrownM.next {r : Rl} {M : Nat → Int} {k : Nat} (h : GrownM r M k) (hk : 0 < k) {v : Int} (h1 : M (k - 1) + r.ls ≤ v) (h2 : v ≤ M (k - 1) + r.ms) : GrownM r (fun i => if i = k then v else M i) (k + 1) := by
  refine ⟨by simp only [show ¬ (0 = k) by omega, if_false]; exact h.1, fun d hd => ?_⟩
  by_cases e : d + 1 = k
  · have e2 : d = k - 1 := by omega
    subst e2
    simp only [e, show ¬ (k - 1 = k) by omega, if_true, if_false]
    exact ⟨h1, h2⟩
  · simp only [e, show ¬ (d = k) by omega, if_false]
    exact h.2 d (by omega)
theorem ut30 : Tryz.prog.underlying 36 = some (.slice 3) := u30
end Go.Proofs.YtlabfeofejemjaaGreat
end
