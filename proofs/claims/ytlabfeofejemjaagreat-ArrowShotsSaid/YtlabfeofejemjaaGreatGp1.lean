/- A part of the proof that ArrowShots returns true for every input: no further condition. -/
import Derived.Test.YtlabfeofejemjaaGreatGp0
set_option linter.unusedVariables false
set_option maxHeartbeats 4000000
set_option maxRecDepth 100000
section
namespace Go.Proofs.YtlabfeofejemjaaGreat
open Go.RowKit
def CheckIs (v : Value) (f : Int) (w : World) : Prop :=
  (∃ (i : Nat) (sv : Value), (i = 74 ∨ i = 75 ∨ i = 76 ∨ i = 46 ∨ i = 57 ∨ i = 58) ∧ v = .func (.func i) #[sv] #[] ∧ ∀ w', Below w.heap.size w w' → CallsIn Fc 0 Tryz.prog i #[sv] w' (SaysInt f w')) ∨
  (∃ p q : Nat, v = .func (.func 77) #[] #[ptr p, ptr q] ∧ ∀ w', Below w.heap.size w w' → CallsIn Fc 0 Tryz.prog 77 #[ptr p, ptr q] w' (SaysInt f w')) ∨
  (∃ p q r : Nat, v = .func (.func 84) #[] #[ptr p, ptr q, ptr r] ∧ ∀ w', Below w.heap.size w w' → CallsIn Fc 0 Tryz.prog 84 #[ptr p, ptr q, ptr r] w' (SaysInt f w')) ∨
  (∃ p q r : Nat, v = .func (.func 131) #[] #[ptr p, ptr q, ptr r] ∧ ∀ w', Below w.heap.size w w' → CallsIn Fc 0 Tryz.prog 131 #[ptr p, ptr q, ptr r] w' (SaysInt f w'))
theorem CheckIs.below {v : Value} {f : Int} {w w' : World} (hb : Below w.heap.size w w') (h : CheckIs v f w) : CheckIs v f w' := by
  rcases h with ⟨i, sv, hi, rfl, h⟩ | ⟨p, q, rfl, h⟩ | ⟨p, q, r, rfl, h⟩ | ⟨p, q, r, rfl, h⟩
  · exact .inl ⟨i, sv, hi, rfl, fun w1 h1 => h w1 (hb.trans (h1.mono hb.size))⟩
  · exact .inr (.inl ⟨p, q, rfl, fun w1 h1 => h w1 (hb.trans (h1.mono hb.size))⟩)
  · exact .inr (.inr (.inl ⟨p, q, r, rfl, fun w1 h1 => h w1 (hb.trans (h1.mono hb.size))⟩))
  · exact .inr (.inr (.inr ⟨p, q, r, rfl, fun w1 h1 => h w1 (hb.trans (h1.mono hb.size))⟩))
def SaysFoul (F : Nat → Int) (n : Nat) (w : World) (e : Ending) (w' : World) : Prop := ∃ f : Int, e = .returned (.int .i64 f) ∧ f = firstZ F n ∧ Below w.heap.size w w'
theorem firstFoul_any (b n cap : Nat) (F : Nat → Int) (W : World) (hn : n ≤ 100) (hall : Hid (∀ k, k < n → ∃ v, W.cell? ⟨b, k, none⟩ = some v ∧ CheckIs v (F k) W)) :
    CallsIn Fc 0 Tryz.prog 45 #[.slice (some ⟨b, 0, none⟩) n cap] W (SaysFoul F n W) := by
  gi_enter Tryz.func45, Tryz.ntmps45
  gi_wp2
  gi_loopw [8] (fun i wr => ∃ k : Nat, k ≤ n ∧ i = .int .i64 k ∧ Below W.heap.size W wr ∧ ∀ j, j < k → F j = 0) (fun i _ => n - (intOf i).toNat)
  case atStart => exact ⟨0, Nat.zero_le _, rfl, Below.refl _ _, fun j h => by omega⟩
  case round =>
    obtain ⟨k, hk, rfl, hb, hz⟩ := hrel
    by_cases hlt : k < n
    · obtain ⟨v, hv, hf⟩ := hall.out k hlt
      have hc := Below.old hb hv
      clear hv
      by_cases h0 : F k = 0
      · have hz' : ∀ j, j < k + 1 → F j = 0 := fun j hj => by
          rcases Nat.lt_succ_iff_lt_or_eq.1 hj with h | rfl
          · exact hz j h
          · exact h0
        have HZ := Lib.hid hz'
        clear hz hz'
        rw [h0] at hf
        clear h0
        rcases hf with ⟨i, sv, hi, rfl, hcall⟩ | ⟨p, q, rfl, hcall⟩ | ⟨p, q, r, rfl, hcall⟩ | ⟨p, q, r, rfl, hcall⟩
        · have hcall' := hcall _ hb
          clear hcall
          rcases hi with rfl | rfl | rfl | rfl | rfl | rfl
          all_goals
            gi_wp2_with (first
              | (gi_at_call 74; refine hcall'.mono ?_; rintro e w' ⟨rfl, hb1⟩)
              | (gi_at_call 75; refine hcall'.mono ?_; rintro e w' ⟨rfl, hb1⟩)
              | (gi_at_call 76; refine hcall'.mono ?_; rintro e w' ⟨rfl, hb1⟩)
              | (gi_at_call 46; refine hcall'.mono ?_; rintro e w' ⟨rfl, hb1⟩)
              | (gi_at_call 57; refine hcall'.mono ?_; rintro e w' ⟨rfl, hb1⟩)
              | (gi_at_call 58; refine hcall'.mono ?_; rintro e w' ⟨rfl, hb1⟩))
            go_roundw
            case rel => exact ⟨k + 1, by omega, by go_num, hb.trans (hb1.mono hb.size), HZ.out⟩
            case measure => simp [intOf]; omega
        · have hcall' := hcall _ hb
          clear hcall
          gi_wp2_with (gi_at_call 77; refine hcall'.mono ?_; rintro e w' ⟨rfl, hb1⟩)
          go_roundw
          case rel => exact ⟨k + 1, by omega, by go_num, hb.trans (hb1.mono hb.size), HZ.out⟩
          case measure => simp [intOf]; omega
        · have hcall' := hcall _ hb
          clear hcall
          gi_wp2_with (gi_at_call 84; refine hcall'.mono ?_; rintro e w' ⟨rfl, hb1⟩)
          go_roundw
          case rel => exact ⟨k + 1, by omega, by go_num, hb.trans (hb1.mono hb.size), HZ.out⟩
          case measure => simp [intOf]; omega
        · have hcall' := hcall _ hb
          clear hcall
          gi_wp2_with (gi_at_call 131; refine hcall'.mono ?_; rintro e w' ⟨rfl, hb1⟩)
          go_roundw
          case rel => exact ⟨k + 1, by omega, by go_num, hb.trans (hb1.mono hb.size), HZ.out⟩
          case measure => simp [intOf]; omega
      · have hno : firstZ F n = F k := firstZ_at hz h0 hlt
        have HN := Lib.hid hno
        clear hno hz
        generalize F k = fk at *
        rcases hf with ⟨i, sv, hi, rfl, hcall⟩ | ⟨p, q, rfl, hcall⟩ | ⟨p, q, r, rfl, hcall⟩ | ⟨p, q, r, rfl, hcall⟩
        · have hcall' := hcall _ hb
          clear hcall
          rcases hi with rfl | rfl | rfl | rfl | rfl | rfl
          all_goals
            gi_wp2_with (first
              | (gi_at_call 74; refine hcall'.mono ?_; rintro e w' ⟨rfl, hb1⟩)
              | (gi_at_call 75; refine hcall'.mono ?_; rintro e w' ⟨rfl, hb1⟩)
              | (gi_at_call 76; refine hcall'.mono ?_; rintro e w' ⟨rfl, hb1⟩)
              | (gi_at_call 46; refine hcall'.mono ?_; rintro e w' ⟨rfl, hb1⟩)
              | (gi_at_call 57; refine hcall'.mono ?_; rintro e w' ⟨rfl, hb1⟩)
              | (gi_at_call 58; refine hcall'.mono ?_; rintro e w' ⟨rfl, hb1⟩))
            go_ret
            exact ⟨_, rfl, HN.out.symm, hb.trans (hb1.mono hb.size)⟩
        · have hcall' := hcall _ hb
          clear hcall
          gi_wp2_with (gi_at_call 77; refine hcall'.mono ?_; rintro e w' ⟨rfl, hb1⟩)
          go_ret
          exact ⟨_, rfl, HN.out.symm, hb.trans (hb1.mono hb.size)⟩
        · have hcall' := hcall _ hb
          clear hcall
          gi_wp2_with (gi_at_call 84; refine hcall'.mono ?_; rintro e w' ⟨rfl, hb1⟩)
          go_ret
          exact ⟨_, rfl, HN.out.symm, hb.trans (hb1.mono hb.size)⟩
        · have hcall' := hcall _ hb
          clear hcall
          gi_wp2_with (gi_at_call 131; refine hcall'.mono ?_; rintro e w' ⟨rfl, hb1⟩)
          go_ret
          exact ⟨_, rfl, HN.out.symm, hb.trans (hb1.mono hb.size)⟩
    · gi_wp2
      go_ret
      exact ⟨0, rfl, (firstZ_zero.2 fun j hj => hz j (by omega)).symm, hb⟩
theorem Lim.exact {w : World} {v : Value} {n l m : Int} (h : Lim v n l m w) : CheckIs v (limZ n l m) w := by
  obtain ⟨p, q, r, rfl, hp, hq, hr⟩ := h
  exact .inr (.inr (.inl ⟨p, q, r, rfl, fun w' hb => limits1_any n l m p q r w' (Below.old hb hp.cell) (Below.old hb hq.cell) (Below.old hb hr.cell)⟩))
theorem Spn.is {w : World} {v : Value} {a b l m : Int} (h : Spn v a b l m w) : CheckIs v (outZ a b l m) w := by
  obtain ⟨p, q, r, rfl, hp, hq, hr⟩ := h
  exact .inr (.inr (.inr ⟨p, q, r, rfl, fun w' hb => spanLimits1_any a b l m p q r w' (Below.old hb hp.cell.1) (Below.old hb hp.cell.2) (Below.old hb hq.cell) (Below.old hb hr.cell)⟩))
inductive Role where
  | val (s : Nat) (v : Value)
  | chk (s : Nat) (f : Int)
  | row (s : Nat) (fs : List Int)
def Role.slot : Role → Nat
  | .val s _ => s
  | .chk s _ => s
  | .row s _ => s
def RowIs (g : Nat) (fs : List Int) (w : World) : Prop := ∀ i (h : i < fs.length), ∃ v, w.cell? ⟨g, i, none⟩ = some v ∧ CheckIs v fs[i] w
theorem RowIs.below {g : Nat} {fs : List Int} {w w' : World} (hb : Below w.heap.size w w') (h : RowIs g fs w) : RowIs g fs w' := fun i hi => by
  obtain ⟨v, h1, h2⟩ := h i hi
  exact ⟨v, Below.old hb h1, h2.below hb⟩
def Role.left (ρ : Option Role) (t t' : Array Value) (w : World) : Prop := match ρ with
  | some (.val s v) => t' = t.setIfInBounds s v
  | some (.chk s f) => ∃ v, t' = t.setIfInBounds s v ∧ CheckIs v f w
  | some (.row s fs) => ∃ g, t' = t.setIfInBounds s (.slice (some ⟨g, 0, none⟩) fs.length fs.length) ∧ RowIs g fs w
  | none => False
def Role.out (X : Nat → Value) : Role → Nat × Value
  | .val s v => (s, v)
  | .chk s _ => (s, X s)
  | .row s _ => (s, X s)
section
variable {F : Fence} {n : Nat} {P : Program} {ops : Array Oper} {Q : Exit → Act → World → Prop}
structure RK (ops : Array Oper) (R : List Role) (I : World → Prop) (z : Nat) (a0 : Act) (listed : Array Bool) (a : Act) (w : World) : Prop where
  defers : a.defers = []
  size : a.tmps.size = z
  old : ∀ s, (∀ x ∈ R, x.slot ≠ s) → a.eval (.tmp s) = a0.eval (.tmp s)
  inv : I w
  val : ∀ (j s : Nat) (v : Value), R[j]? = some (.val s v) → listed.getD j false = true → a.eval (.tmp s) = v
  chk : ∀ (j s : Nat) (f : Int), R[j]? = some (.chk s f) → listed.getD j false = true → CheckIs (a.eval (.tmp s)) f w
  row : ∀ (j s : Nat) (fs : List Int), R[j]? = some (.row s fs) → listed.getD j false = true → ∃ g, a.eval (.tmp s) = .slice (some ⟨g, 0, none⟩) fs.length fs.length ∧ RowIs g fs w
theorem wpIn_region_K (R : List Role) {I : World → Prop} {z : Nat} {a0 : Act} {id : Nat} {w : World} (hm : P.follows .mixedOrders = true) (hb : backB .any ops = true) (hlen : R.length = ops.size) (hnd : rowDst (R.map fun ρ => some ρ.slot) z z z = true) (hd : a0.defers = []) (hz : a0.tmps.size = z) (h0 : I { w with drawn := w.drawn + 1 })
    (hJ : ∀ j a w, j < ops.size → a.defers = [] → a.tmps.size = z → (∀ s, R.all (fun x => x.slot != s) = true → a.eval (.tmp s) = a0.eval (.tmp s)) →
      (∀ k s v, depB ops j k = true → R[k]? = some (.val s v) → a.eval (.tmp s) = v) → (∀ k s f, depB ops j k = true → R[k]? = some (.chk s f) → CheckIs (a.eval (.tmp s)) f w) → (∀ k s fs, depB ops j k = true → R[k]? = some (.row s fs) → ∃ g, a.eval (.tmp s) = .slice (some ⟨g, 0, none⟩) fs.length fs.length ∧ RowIs g fs w) → I w →
      wpOpIn F n P ops Q j (fun a' w' => a'.defers = [] ∧ I w' ∧ Below w.heap.size w w' ∧ Role.left R[j]? a.tmps a'.tmps w') a w)
    (hE : ∀ w X, I w → Q .normal { tmps := (R.map (Role.out X)).foldl (fun t x => t.setIfInBounds x.1 x.2) a0.tmps, defers := [] } w) : (Code.region id ops true).wpIn F n P Q a0 w := by
  have hK : ∀ {j : Nat} {ρ : Role}, R[j]? = some ρ → (R.map fun ρ => some ρ.slot)[j]? = some (some ρ.slot) := fun h => by rw [List.getElem?_map, h]; rfl
  have hkey : ∀ {j : Nat} {ρ : Role}, R[j]? = some ρ → ρ.slot < z ∧ ∀ i ρ', i ≠ j → R[i]? = some ρ' → ρ'.slot ≠ ρ.slot := fun h => by
    obtain ⟨_, _, q3, q4⟩ := rowDst_use hnd (hK h)
    exact ⟨q3, fun i ρ' hi h' e => q4 i hi (by rw [hK h', e])⟩
  have evs : ∀ (a a' : Act) (d : Nat) (v : Value), a'.tmps = a.tmps.setIfInBounds d v → (∀ s, s ≠ d → a'.eval (.tmp s) = a.eval (.tmp s)) ∧ (d < a.tmps.size → a'.eval (.tmp d) = v) := fun a a' d v h => by
    constructor
    · intro s hs
      simp only [Act.eval, h]
      simp [Ne.symm hs]
    · intro hd
      simp only [Act.eval, h]
      simp [hd]
  refine wpIn_region_J (J := RK ops R I z a0) hm hb ?_ (fun listed a w i hj hi => ?_) fun listed a w hj hall => ?_
  · have hno : ∀ i, (Array.replicate ops.size false).getD i false = true → False := fun i hl => by
      rw [Array.getD_eq_getD_getElem?] at hl
      rcases Nat.lt_or_ge i ops.size with h | h <;> simp [h] at hl
    exact ⟨hd, hz, fun _ _ => rfl, h0, fun j d v _ hl => (hno j hl).elim, fun j d v _ hl => (hno j hl).elim, fun j d v _ hl => (hno j hl).elim⟩
  · have his : i < ops.size := by
      obtain ⟨_, o, h3, _⟩ := mem_ready.1 hi
      exact (Array.getElem?_eq_some_iff.1 h3).1
    refine wpOpIn_mono (fun a' w' h => ?_) (hJ i a w his hj.defers hj.size (fun s hs => hj.old s fun x hx => by simpa using List.all_eq_true.1 hs x hx) (fun m s v hdep e => hj.val m s v e (dep hi hdep)) (fun m s v hdep e => hj.chk m s v e (dep hi hdep)) (fun m s v hdep e => hj.row m s v e (dep hi hdep)) hj.inv)
    obtain ⟨h1, h2, h3, h4⟩ := h
    have hil : i < R.length := by omega
    obtain ⟨ρ, hρ⟩ : ∃ ρ, R[i]? = some ρ := ⟨R[i], by simp [hil]⟩
    obtain ⟨hsz, hoth⟩ := hkey hρ
    rw [hρ] at h4
    obtain ⟨v, hv, hown⟩ : ∃ v, a'.tmps = a.tmps.setIfInBounds ρ.slot v ∧ (match ρ with | .val _ u => v = u | .chk _ f => CheckIs v f w' | .row _ fs => ∃ g, v = .slice (some ⟨g, 0, none⟩) fs.length fs.length ∧ RowIs g fs w') := by
      cases ρ with
      | val s u => exact ⟨u, h4, rfl⟩
      | chk s f => obtain ⟨v, q1, q2⟩ := h4; exact ⟨v, q1, q2⟩
      | row s fs => obtain ⟨g, q1, q2⟩ := h4; exact ⟨_, q1, g, rfl, q2⟩
    obtain ⟨e1, e2⟩ := evs a a' _ v hv
    have e2 := e2 (by rw [hj.size]; exact hsz)
    have key : ∀ j ρ', R[j]? = some ρ' → (listed.setIfInBounds i true).getD j false = true → (j = i ∧ ρ' = ρ ∧ a'.eval (.tmp ρ'.slot) = v) ∨ (j ≠ i ∧ listed.getD j false = true ∧ a'.eval (.tmp ρ'.slot) = a.eval (.tmp ρ'.slot)) := fun j ρ' hj' hl => by
      by_cases e : j = i
      · subst e
        rw [hρ] at hj'
        cases hj'
        exact .inl ⟨rfl, rfl, e2⟩
      · rw [gset (fun e' => e e'.symm)] at hl
        exact .inr ⟨e, hl, e1 _ (hoth j ρ' e hj')⟩
    refine ⟨h1, by rw [hv]; simpa using hj.size, fun s hs => ?_, h2, fun j s u hjd hl => ?_, fun j s f hjd hl => ?_, fun j s fs hjd hl => ?_⟩
    · rw [e1 s fun e => hs ρ (List.mem_iff_getElem?.2 ⟨i, hρ⟩) e.symm]; exact hj.old s hs
    · rcases key j _ hjd hl with ⟨_, rfl, q⟩ | ⟨_, hl', q⟩
      · exact q.trans hown
      · exact q.trans (hj.val j s u hjd hl')
    · rcases key j _ hjd hl with ⟨_, rfl, q⟩ | ⟨_, hl', q⟩
      · show CheckIs (a'.eval (.tmp s)) f w'
        rw [show a'.eval (.tmp s) = v from q]; exact hown
      · show CheckIs (a'.eval (.tmp s)) f w'
        rw [show a'.eval (.tmp s) = a.eval (.tmp s) from q]; exact (hj.chk j s f hjd hl').below h3
    · rcases key j _ hjd hl with ⟨_, rfl, q⟩ | ⟨_, hl', q⟩
      · obtain ⟨g, r1, r2⟩ := hown
        exact ⟨g, q.trans r1, r2⟩
      · obtain ⟨g, r1, r2⟩ := hj.row j s fs hjd hl'
        exact ⟨g, q.trans r1, r2.below h3⟩
  · have h1 := hE w (fun s => a.eval (.tmp s)) hj.inv
    have e0 : (R.map (Role.out fun s => a.eval (.tmp s))).foldl (fun (t : Array Value) (x : Nat × Value) => t.setIfInBounds x.1 x.2) a0.tmps = a.tmps := by
      refine fold_set a _ a0.tmps (by rw [hz, hj.size]) (fun x hx => ?_) fun s hs => (hj.old s fun ρ hρ => ?_).symm
      · obtain ⟨ρ, hρ, rfl⟩ := List.mem_map.1 hx
        obtain ⟨j, hj'⟩ := List.mem_iff_getElem?.1 hρ
        have hl := hall j (by rw [← hlen]; exact (List.getElem?_eq_some_iff.1 hj').1)
        cases ρ with
        | val s v => exact hj.val j s v hj' hl
        | chk s f => rfl
        | row s fs => rfl
      · have := hs (ρ.out fun s => a.eval (.tmp s)) (List.mem_map.2 ⟨ρ, hρ, rfl⟩)
        cases ρ <;> exact this
    rw [e0] at h1
    obtain ⟨tm, df⟩ := a
    have hdf := hj.defers
    simp only at hdf
    subst hdf
    exact h1
end
end Go.Proofs.YtlabfeofejemjaaGreat
end
section
namespace Go.Proofs.YtlabfeofejemjaaGreat
open Go.RowKit
theorem CheckIs.shape {v : Value} {f : Int} {w : World} (h : CheckIs v f w) : ∃ (i : Nat) (x y : Array Value), v = .func (.func i) x y := by
  rcases h with ⟨i, sv, _, rfl, _⟩ | ⟨p, q, rfl, _⟩ | ⟨p, q, r, rfl, _⟩ | ⟨p, q, r, rfl, _⟩ <;> exact ⟨_, _, _, rfl⟩
def firstL (fs : List Int) : Int := firstZ (fun i => fs.getD i 0) fs.length
theorem firstL_zero {fs : List Int} : firstL fs = 0 ↔ ∀ f ∈ fs, f = 0 := by
  unfold firstL
  rw [firstZ_zero]
  constructor
  · intro h f hf
    obtain ⟨i, hi, rfl⟩ := List.mem_iff_getElem.1 hf
    have := h i hi
    simpa [hi] using this
  · intro h k hk
    have := h fs[k] (List.getElem_mem hk)
    simpa [hk] using this
theorem foul_row (g : Nat) (fs : List Int) (w : World) (hn : fs.length ≤ 100) (h : RowIs g fs w) (m : Nat) (hm : m = fs.length) : CallsIn Fc 0 Tryz.prog 45 #[.slice (some ⟨g, 0, none⟩) m m] w (SaysInt (firstL fs) w) := by
  subst hm
  refine (firstFoul_any g fs.length fs.length (fun i => fs.getD i 0) w hn (Lib.hid fun k hk => ?_)).mono ?_
  · obtain ⟨v, h1, h2⟩ := h k hk
    refine ⟨v, h1, ?_⟩
    have : fs.getD k 0 = fs[k] := by simp [hk]
    rw [this]
    exact h2
  · rintro e w' ⟨f, rfl, rfl, hb⟩
    exact ⟨rfl, hb⟩
theorem limits_chk (n l m : Int) (w : World) : CallsIn Fc 0 Tryz.prog 60 #[.int .i64 n, .int .i64 l, .int .i64 m] w fun e w' => ∃ v, e = .returned v ∧ CheckIs v (limZ n l m) w' ∧ Below w.heap.size w w' :=
  (limits_any n l m w).mono fun e w' ⟨v, h1, h2, h3⟩ => ⟨v, h1, h2.exact, h3⟩
theorem spanLimits_chk (a b l m : Int) (w : World) : CallsIn Fc 0 Tryz.prog 111 #[.agg #[.int .i64 a, .int .i64 b], .int .i64 l, .int .i64 m] w fun e w' => ∃ v, e = .returned v ∧ CheckIs v (outZ a b l m) w' ∧ Below w.heap.size w w' :=
  (spanLimits_any a b l m w).mono fun e w' ⟨v, h1, h2, h3⟩ => ⟨v, h1, h2.is, h3⟩
theorem distance_chk (n : Int) (W : World) : CallsIn Fc 0 Tryz.prog 56 #[.int .i64 n] W fun e w' => ∃ v, e = .returned v ∧ CheckIs v (limZ n 0 90) w' ∧ Below W.heap.size W w' := by
  gi_enter Tryz.func56, Tryz.ntmps56
  gi_wp2_with (gi_at_call 60; refine (limits_chk n 0 90 _).mono ?_; rintro e w' ⟨v, rfl, hl, hb⟩; have HL := Lib.hid hl; have HB := Lib.hid hb; clear hl hb)
  go_ret
  exact ⟨_, rfl, HL.out, HB.out⟩
def ruleL (r : Rl) : List Int := [limZ r.ms 0 999, limZ r.ls 0 r.ms, limZ r.wd 0 999, limZ r.lt 0 999]
theorem ruleL_ok {r : Rl} : firstL (ruleL r) = 0 ↔ RlOk r := by
  rw [firstL_zero]
  simp only [ruleL, List.mem_cons, List.not_mem_nil, or_false, forall_eq_or_imp, forall_eq, limZ_zero]
  constructor
  · rintro ⟨h1, h2, h3, h4⟩
    exact ⟨h2.1, h2.2, h1.2, h3.1, h3.2, h4.1, h4.2⟩
  · intro h
    have := h.l0; have := h.l1
    exact ⟨⟨by omega, h.m1⟩, ⟨h.l0, h.l1⟩, ⟨h.w0, h.w1⟩, ⟨h.t0, h.t1⟩⟩
theorem checkRule_any (r : Rl) (A : Option Addr) (n c : Nat) (W : World) : CallsIn Fc 0 Tryz.prog 74 #[cardV r A n c] W (SaysInt (firstL (ruleL r)) W) := by
  obtain ⟨B, hB⟩ : ∃ B : Obj, B = .cells #[.int .i64 r.ls, .int .i64 r.ms, .int .i64 r.wd, .int .i64 r.lt, .slice A n c] 90 := ⟨_, rfl⟩
  gi_enter Tryz.func74, Tryz.ntmps74
  gi_wp2
  rw [← hB]
  refine wpIn_region_K (R := [.val 3 (.pointer (some ⟨W.heap.size, 0, none⟩)), .val 4 (.pointer (some ⟨W.heap.size, 0, none⟩)), .val 5 (.pointer (some ⟨W.heap.size, 1, none⟩)), .val 6 (.int .i64 r.ms), .chk 7 (limZ r.ms 0 999), .val 8 (.pointer (some ⟨W.heap.size, 0, none⟩)), .val 9 (.pointer (some ⟨W.heap.size, 0, none⟩)), .val 10 (.pointer (some ⟨W.heap.size, 0, none⟩)), .val 11 (.int .i64 r.ls), .val 12 (.pointer (some ⟨W.heap.size, 0, none⟩)), .val 13 (.pointer (some ⟨W.heap.size, 0, none⟩)), .val 14 (.pointer (some ⟨W.heap.size, 1, none⟩)), .val 15 (.int .i64 r.ms), .chk 16 (limZ r.ls 0 r.ms), .val 17 (.pointer (some ⟨W.heap.size, 0, none⟩)), .val 18 (.pointer (some ⟨W.heap.size, 0, none⟩)), .val 19 (.pointer (some ⟨W.heap.size, 2, none⟩)), .val 20 (.int .i64 r.wd), .chk 21 (limZ r.wd 0 999), .val 22 (.pointer (some ⟨W.heap.size, 0, none⟩)), .val 23 (.pointer (some ⟨W.heap.size, 0, none⟩)), .val 24 (.pointer (some ⟨W.heap.size, 3, none⟩)), .val 25 (.int .i64 r.lt), .chk 26 (limZ r.lt 0 999), .row 27 [limZ r.ms 0 999, limZ r.ls 0 r.ms, limZ r.wd 0 999, limZ r.lt 0 999], .val 28 (.int .i64 (firstL (ruleL r))), .val 2 (.int .i64 (firstL (ruleL r)))])
    (I := fun w => Below (W.heap.size + 1) (W.alloc B) w) (z := 29) (by kernel_rfl) (by kernel_rfl) rfl (by kernel_rfl) rfl rfl (Below.refl _ _).drew ?_ ?_
  · intro j a w hj hd hz hold hv hc hr hI
    rw [hB] at hI
    obtain ⟨c0, c1, c2, c3, c4⟩ := box_cells hI
    have HI : Hid (Below (W.heap.size + 1) (W.alloc B) w) := Lib.hid (by rw [hB]; exact hI)
    have HSZ : W.heap.size + 1 ≤ w.heap.size := by have := hI.size; simpa using this
    clear hI
    have s1 := at_slot hz (hold 1 (by kernel_rfl)) (by omega)
    clear hold
    have hjs : j = 0 ∨ j = 1 ∨ j = 2 ∨ j = 3 ∨ j = 4 ∨ j = 5 ∨ j = 6 ∨ j = 7 ∨ j = 8 ∨ j = 9 ∨ j = 10 ∨ j = 11 ∨ j = 12 ∨ j = 13 ∨ j = 14 ∨ j = 15 ∨ j = 16 ∨ j = 17 ∨ j = 18 ∨ j = 19 ∨ j = 20 ∨ j = 21 ∨ j = 22 ∨ j = 23 ∨ j = 24 ∨ j = 25 ∨ j = 26 := by have : j < 27 := hj; omega
    rcases hjs with rfl | rfl | rfl | rfl | rfl | rfl | rfl | rfl | rfl | rfl | rfl | rfl | rfl | rfl | rfl | rfl | rfl | rfl | rfl | rfl | rfl | rfl | rfl | rfl | rfl | rfl | rfl
    · refine wpOpIn_step rfl fun K hK => ?_
      go_simp
      exact hK _ _ ⟨rfl, HI.out, Below.refl _ _, rfl⟩
    · have f3 := at_slot hz (hv 0 3 _ (by kernel_rfl) rfl) (by omega)
      refine wpOpIn_step rfl fun K hK => ?_
      go_simp
      exact hK _ _ ⟨rfl, HI.out, Below.refl _ _, rfl⟩
    · have f4 := at_slot hz (hv 1 4 _ (by kernel_rfl) rfl) (by omega)
      refine wpOpIn_step rfl fun K hK => ?_
      go_simp
      exact hK _ _ ⟨rfl, HI.out, Below.refl _ _, rfl⟩
    · have f5 := at_slot hz (hv 2 5 _ (by kernel_rfl) rfl) (by omega)
      refine wpOpIn_step rfl fun K hK => ?_
      go_simp
      exact hK _ _ ⟨rfl, HI.out, Below.refl _ _, rfl⟩
    · have f6 := at_slot hz (hv 3 6 _ (by kernel_rfl) rfl) (by omega)
      refine wpOpIn_step rfl fun K hK => ?_
      go_simp
      refine (limits_chk _ _ _ _).mono ?_
      rintro e w' ⟨v, rfl, hl, hb'⟩
      exact hK _ _ ⟨rfl, HI.out.trans (hb'.mono HSZ), hb', _, rfl, hl⟩
    · refine wpOpIn_step rfl fun K hK => ?_
      go_simp
      exact hK _ _ ⟨rfl, HI.out, Below.refl _ _, rfl⟩
    · have f8 := at_slot hz (hv 5 8 _ (by kernel_rfl) rfl) (by omega)
      refine wpOpIn_step rfl fun K hK => ?_
      go_simp
      exact hK _ _ ⟨rfl, HI.out, Below.refl _ _, rfl⟩
    · have f9 := at_slot hz (hv 6 9 _ (by kernel_rfl) rfl) (by omega)
      refine wpOpIn_step rfl fun K hK => ?_
      go_simp
      exact hK _ _ ⟨rfl, HI.out, Below.refl _ _, rfl⟩
    · have f10 := at_slot hz (hv 7 10 _ (by kernel_rfl) rfl) (by omega)
      refine wpOpIn_step rfl fun K hK => ?_
      go_simp
      exact hK _ _ ⟨rfl, HI.out, Below.refl _ _, rfl⟩
    · refine wpOpIn_step rfl fun K hK => ?_
      go_simp
      exact hK _ _ ⟨rfl, HI.out, Below.refl _ _, rfl⟩
    · have f12 := at_slot hz (hv 9 12 _ (by kernel_rfl) rfl) (by omega)
      refine wpOpIn_step rfl fun K hK => ?_
      go_simp
      exact hK _ _ ⟨rfl, HI.out, Below.refl _ _, rfl⟩
    · have f13 := at_slot hz (hv 10 13 _ (by kernel_rfl) rfl) (by omega)
      refine wpOpIn_step rfl fun K hK => ?_
      go_simp
      exact hK _ _ ⟨rfl, HI.out, Below.refl _ _, rfl⟩
    · have f14 := at_slot hz (hv 11 14 _ (by kernel_rfl) rfl) (by omega)
      refine wpOpIn_step rfl fun K hK => ?_
      go_simp
      exact hK _ _ ⟨rfl, HI.out, Below.refl _ _, rfl⟩
    · have f11 := at_slot hz (hv 8 11 _ (by kernel_rfl) rfl) (by omega)
      have f15 := at_slot hz (hv 12 15 _ (by kernel_rfl) rfl) (by omega)
      refine wpOpIn_step rfl fun K hK => ?_
      go_simp
      refine (limits_chk _ _ _ _).mono ?_
      rintro e w' ⟨v, rfl, hl, hb'⟩
      exact hK _ _ ⟨rfl, HI.out.trans (hb'.mono HSZ), hb', _, rfl, hl⟩
    · refine wpOpIn_step rfl fun K hK => ?_
      go_simp
      exact hK _ _ ⟨rfl, HI.out, Below.refl _ _, rfl⟩
    · have f17 := at_slot hz (hv 14 17 _ (by kernel_rfl) rfl) (by omega)
      refine wpOpIn_step rfl fun K hK => ?_
      go_simp
      exact hK _ _ ⟨rfl, HI.out, Below.refl _ _, rfl⟩
    · have f18 := at_slot hz (hv 15 18 _ (by kernel_rfl) rfl) (by omega)
      refine wpOpIn_step rfl fun K hK => ?_
      go_simp
      exact hK _ _ ⟨rfl, HI.out, Below.refl _ _, rfl⟩
    · have f19 := at_slot hz (hv 16 19 _ (by kernel_rfl) rfl) (by omega)
      refine wpOpIn_step rfl fun K hK => ?_
      go_simp
      exact hK _ _ ⟨rfl, HI.out, Below.refl _ _, rfl⟩
    · have f20 := at_slot hz (hv 17 20 _ (by kernel_rfl) rfl) (by omega)
      refine wpOpIn_step rfl fun K hK => ?_
      go_simp
      refine (limits_chk _ _ _ _).mono ?_
      rintro e w' ⟨v, rfl, hl, hb'⟩
      exact hK _ _ ⟨rfl, HI.out.trans (hb'.mono HSZ), hb', _, rfl, hl⟩
    · refine wpOpIn_step rfl fun K hK => ?_
      go_simp
      exact hK _ _ ⟨rfl, HI.out, Below.refl _ _, rfl⟩
    · have f22 := at_slot hz (hv 19 22 _ (by kernel_rfl) rfl) (by omega)
      refine wpOpIn_step rfl fun K hK => ?_
      go_simp
      exact hK _ _ ⟨rfl, HI.out, Below.refl _ _, rfl⟩
    · have f23 := at_slot hz (hv 20 23 _ (by kernel_rfl) rfl) (by omega)
      refine wpOpIn_step rfl fun K hK => ?_
      go_simp
      exact hK _ _ ⟨rfl, HI.out, Below.refl _ _, rfl⟩
    · have f24 := at_slot hz (hv 21 24 _ (by kernel_rfl) rfl) (by omega)
      refine wpOpIn_step rfl fun K hK => ?_
      go_simp
      exact hK _ _ ⟨rfl, HI.out, Below.refl _ _, rfl⟩
    · have f25 := at_slot hz (hv 22 25 _ (by kernel_rfl) rfl) (by omega)
      refine wpOpIn_step rfl fun K hK => ?_
      go_simp
      refine (limits_chk _ _ _ _).mono ?_
      rintro e w' ⟨v, rfl, hl, hb'⟩
      exact hK _ _ ⟨rfl, HI.out.trans (hb'.mono HSZ), hb', _, rfl, hl⟩
    · have p7 := hc 4 7 _ (by kernel_rfl) rfl
      obtain ⟨i7, y7, u7, q7⟩ := p7.shape
      rw [q7] at p7
      have f7 := at_slot hz q7 (by omega)
      have p16 := hc 13 16 _ (by kernel_rfl) rfl
      obtain ⟨i16, y16, u16, q16⟩ := p16.shape
      rw [q16] at p16
      have f16 := at_slot hz q16 (by omega)
      have p21 := hc 18 21 _ (by kernel_rfl) rfl
      obtain ⟨i21, y21, u21, q21⟩ := p21.shape
      rw [q21] at p21
      have f21 := at_slot hz q21 (by omega)
      have p26 := hc 23 26 _ (by kernel_rfl) rfl
      obtain ⟨i26, y26, u26, q26⟩ := p26.shape
      rw [q26] at p26
      have f26 := at_slot hz q26 (by omega)
      refine wpOpIn_step rfl fun K hK => ?_
      go_simp
      have hb' : ∀ x, Below w.heap.size w (w.alloc x) := fun x => (Below.refl _ _).alloc (Nat.le_refl _) _
      refine hK _ _ ⟨rfl, HI.out.trans ((hb' _).mono HSZ), hb' _, w.heap.size, rfl, fun i hi => ?_⟩
      have hi4 : i = 0 ∨ i = 1 ∨ i = 2 ∨ i = 3 := by have : i < 4 := hi; omega
      rcases hi4 with rfl | rfl | rfl | rfl
      · exact ⟨_, by simp, p7.below (hb' _)⟩
      · exact ⟨_, by simp, p16.below (hb' _)⟩
      · exact ⟨_, by simp, p21.below (hb' _)⟩
      · exact ⟨_, by simp, p26.below (hb' _)⟩
    · obtain ⟨g27, q27, hrow⟩ := hr 24 27 _ (by kernel_rfl) rfl
      have f27 := at_slot hz q27 (by omega)
      simp only [List.length_cons, List.length_nil, Nat.reduceAdd] at f27
      refine wpOpIn_step rfl fun K hK => ?_
      go_simp
      refine (foul_row _ (ruleL r) _ (show 4 ≤ 100 by decide) hrow 4 rfl).mono ?_
      rintro e w' ⟨rfl, hb'⟩
      exact hK _ _ ⟨rfl, HI.out.trans (hb'.mono HSZ), hb', rfl⟩
    · have f28 := at_slot hz (hv 25 28 _ (by kernel_rfl) rfl) (by omega)
      refine wpOpIn_step rfl fun K hK => ?_
      go_simp
      exact hK _ _ ⟨rfl, HI.out, Below.refl _ _, rfl⟩
  · intro w X hI
    have HBW : Hid (Below W.heap.size W w) := Lib.hid (((Below.refl W.heap.size W).alloc (Nat.le_refl _) _).trans (hI.mono (by omega)))
    clear hI
    simp only [List.map_cons, List.map_nil, Role.out, List.foldl_cons, List.foldl_nil, List.setIfInBounds_toArray, List.set_cons_succ, List.set_cons_zero]
    gi_wp2
    go_ret
    exact ⟨rfl, HBW.out⟩
theorem checkCount_any (r : Rl) (A : Option Addr) (n c : Nat) (W : World) (hn : n ≤ 20) : CallsIn Fc 0 Tryz.prog 75 #[cardV r A n c] W (SaysInt (if n ≤ 8 then 0 else 2) W) := by
  gi_enter Tryz.func75, Tryz.ntmps75
  by_cases h : n ≤ 8
  · rw [if_pos h]
    have h' : ¬ (n : Int) > 8 := by omega
    gi_wp2
    go_ret
    exact ⟨rfl, (Below.refl _ _).alloc (Nat.le_refl _) _⟩
  · rw [if_neg h]
    have h' : (n : Int) > 8 := by omega
    gi_wp2
    go_ret
    exact ⟨rfl, (Below.refl _ _).alloc (Nat.le_refl _) _⟩
def shotL (x : Sh) : List Int := [limZ x.d 0 90, outZ x.u x.v 0 99999, limZ x.wd 0 9, limZ x.lt 0 9]
theorem outZ_zero {a b l m : Int} : outZ a b l m = 0 ↔ l ≤ a ∧ a ≤ b ∧ b ≤ m := by
  unfold outZ
  split
  · next h => exact ⟨fun _ => h, fun _ => rfl⟩
  · next h => exact ⟨fun h' => absurd h' (by decide), fun h' => absurd h' h⟩
theorem shotL_ok {x : Sh} : firstL (shotL x) = 0 ↔ ShOk x := by
  rw [firstL_zero]
  simp only [shotL, List.mem_cons, List.not_mem_nil, or_false, forall_eq_or_imp, forall_eq, limZ_zero, outZ_zero]
  constructor
  · rintro ⟨h1, h2, h3, h4⟩
    exact ⟨h1.1, h1.2, h2.1, h2.2.1, h2.2.2, h3.1, h3.2, h4.1, h4.2⟩
  · intro h
    exact ⟨⟨h.d0, h.d1⟩, ⟨h.u0, h.u1, h.v1⟩, ⟨h.w0, h.w1⟩, ⟨h.t0, h.t1⟩⟩
def shotsZ (sh : Nat → Sh) (n : Nat) : Int := firstZ (fun k => firstL (shotL (sh k))) n
theorem checkShots_any (r : Rl) (A : Option Addr) (n c : Nat) (sh : Nat → Sh) (W : World) (hn : n ≤ 20) (hc : n ≤ c) (hsh : Hid (ShotsAt W A n sh)) : CallsIn Fc 0 Tryz.prog 76 #[cardV r A n c] W (SaysInt (shotsZ sh n) W) := by
  obtain ⟨B, hB⟩ : ∃ B : Obj, B = .cells #[.int .i64 r.ls, .int .i64 r.ms, .int .i64 r.wd, .int .i64 r.lt, .slice A n c] 90 := ⟨_, rfl⟩
  unfold shotsZ
  gi_enter Tryz.func76, Tryz.ntmps76
  gi_wp2
  rw [← hB]
  gi_loopw [10] (fun iv wr => ∃ k : Nat, k ≤ n ∧ iv = .int .i64 k ∧ Below (W.heap.size + 1) (W.alloc B) wr ∧ ∀ j, j < k → firstL (shotL (sh j)) = 0) (fun iv _ => n - (intOf iv).toNat)
  case atStart => exact ⟨0, Nat.zero_le _, rfl, Below.refl _ _, fun j h => by omega⟩
  case round =>
    obtain ⟨k, hk, rfl, hb, hz⟩ := hrel
    have HZ := Lib.hid hz
    have HBW : Hid (Below W.heap.size W wr) := Lib.hid (((Below.refl W.heap.size W).alloc (Nat.le_refl _) _).trans (hb.mono (by omega)))
    have HB := Lib.hid hb
    have hsz : W.heap.size + 1 ≤ wr.heap.size := by have := hb.size; simpa using this
    clear hb hz
    by_cases hlt : k < n
    · obtain ⟨b, o, rfl, hy⟩ := hsh.out k hlt
      obtain ⟨y0, y1, y2, y3, y4⟩ := hy.below HBW.out
      clear hy
      have hstop : firstL (shotL (sh k)) ≠ 0 → firstZ (fun k => firstL (shotL (sh k))) n = firstL (shotL (sh k)) := fun h0 => firstZ_at (F := fun k => firstL (shotL (sh k))) HZ.out h0 hlt
      have HST := Lib.hid hstop
      have hnext : firstL (shotL (sh k)) = 0 → ∀ j, j < k + 1 → firstL (shotL (sh j)) = 0 := fun h0 j hj => by
        rcases Nat.lt_succ_iff_lt_or_eq.1 hj with h | rfl
        · exact HZ.out j h
        · exact h0
      have HNX := Lib.hid hnext
      clear hstop hnext
      gi_wp2
      generalize hx : sh k = x at *
      clear hx
      have s0 : (wr.alloc (.cells #[.int .i64 x.d, .int .i64 x.u, .int .i64 x.v, .int .i64 x.wd, .int .i64 x.lt] 46)).cell? ⟨wr.heap.size, 0, none⟩ = some (.int .i64 x.d) := by simp
      have s1 : (wr.alloc (.cells #[.int .i64 x.d, .int .i64 x.u, .int .i64 x.v, .int .i64 x.wd, .int .i64 x.lt] 46)).cell? ⟨wr.heap.size, 1, none⟩ = some (.int .i64 x.u) := by simp
      have s2 : (wr.alloc (.cells #[.int .i64 x.d, .int .i64 x.u, .int .i64 x.v, .int .i64 x.wd, .int .i64 x.lt] 46)).cell? ⟨wr.heap.size, 2, none⟩ = some (.int .i64 x.v) := by simp
      have s3 : (wr.alloc (.cells #[.int .i64 x.d, .int .i64 x.u, .int .i64 x.v, .int .i64 x.wd, .int .i64 x.lt] 46)).cell? ⟨wr.heap.size, 3, none⟩ = some (.int .i64 x.wd) := by simp
      have s4 : (wr.alloc (.cells #[.int .i64 x.d, .int .i64 x.u, .int .i64 x.v, .int .i64 x.wd, .int .i64 x.lt] 46)).cell? ⟨wr.heap.size, 4, none⟩ = some (.int .i64 x.lt) := by simp
      have hbx := HB.out.alloc hsz (.cells #[.int .i64 x.d, .int .i64 x.u, .int .i64 x.v, .int .i64 x.wd, .int .i64 x.lt] 46)
      have hsx : wr.heap.size + 1 = (wr.alloc (.cells #[.int .i64 x.d, .int .i64 x.u, .int .i64 x.v, .int .i64 x.wd, .int .i64 x.lt] 46)).heap.size := by simp
      generalize (wr.alloc (.cells #[.int .i64 x.d, .int .i64 x.u, .int .i64 x.v, .int .i64 x.wd, .int .i64 x.lt] 46)) = wx at *
      have HX := Lib.hid (And.intro s0 (And.intro s1 (And.intro s2 (And.intro s3 s4))))
      have HBX := Lib.hid hbx
      clear s0 s1 s2 s3 s4 hbx y0 y1 y2 y3 y4
      refine wpIn_region_K (R := [.val 14 (.pointer (some ⟨wr.heap.size, 0, none⟩)), .val 15 (.int .i64 x.d), .chk 16 (limZ x.d 0 90), .val 17 (.pointer (some ⟨wr.heap.size, 1, none⟩)), .val 18 (spanV x.u x.v), .chk 19 (outZ x.u x.v 0 99999), .val 20 (.pointer (some ⟨wr.heap.size, 3, none⟩)), .val 21 (.int .i64 x.wd), .chk 22 (limZ x.wd 0 9), .val 23 (.pointer (some ⟨wr.heap.size, 4, none⟩)), .val 24 (.int .i64 x.lt), .chk 25 (limZ x.lt 0 9), .row 26 [limZ x.d 0 90, outZ x.u x.v 0 99999, limZ x.wd 0 9, limZ x.lt 0 9], .val 27 (.int .i64 (firstL (shotL x))), .val 5 (.int .i64 (firstL (shotL x)))])
        (I := fun w => Below wx.heap.size wx w) (z := 32) (by kernel_rfl) (by kernel_rfl) rfl (by kernel_rfl) rfl rfl (Below.refl _ _).drew ?_ ?_
      · intro j a w hj hd hz hold hv hc hr hI
        have HI := Lib.hid hI
        obtain ⟨x0, x1, x2, x3, x4⟩ := HX.out
        have x0 := Below.old hI x0
        have x1 := Below.old hI x1
        have x2 := Below.old hI x2
        have x3 := Below.old hI x3
        have x4 := Below.old hI x4
        clear hI
        have s4 := at_slot hz (hold 4 (by kernel_rfl)) (by omega)
        clear hold
        have hjs : j = 0 ∨ j = 1 ∨ j = 2 ∨ j = 3 ∨ j = 4 ∨ j = 5 ∨ j = 6 ∨ j = 7 ∨ j = 8 ∨ j = 9 ∨ j = 10 ∨ j = 11 ∨ j = 12 ∨ j = 13 ∨ j = 14 := by have : j < 15 := hj; omega
        rcases hjs with rfl | rfl | rfl | rfl | rfl | rfl | rfl | rfl | rfl | rfl | rfl | rfl | rfl | rfl | rfl
        · refine wpOpIn_step rfl fun K hK => ?_
          go_simp
          exact hK _ _ ⟨rfl, HI.out, Below.refl _ _, rfl⟩
        · have f14 := at_slot hz (hv 0 14 _ (by kernel_rfl) rfl) (by omega)
          refine wpOpIn_step rfl fun K hK => ?_
          go_simp
          exact hK _ _ ⟨rfl, HI.out, Below.refl _ _, rfl⟩
        · have f15 := at_slot hz (hv 1 15 _ (by kernel_rfl) rfl) (by omega)
          refine wpOpIn_step rfl fun K hK => ?_
          go_simp
          refine (distance_chk _ _).mono ?_
          rintro e w' ⟨v, rfl, hl, hb'⟩
          exact hK _ _ ⟨rfl, HI.out.trans (hb'.mono HI.out.size), hb', _, rfl, hl⟩
        · refine wpOpIn_step rfl fun K hK => ?_
          go_simp
          exact hK _ _ ⟨rfl, HI.out, Below.refl _ _, rfl⟩
        · have f17 := at_slot hz (hv 3 17 _ (by kernel_rfl) rfl) (by omega)
          refine wpOpIn_step rfl fun K hK => ?_
          go_simp
          exact hK _ _ ⟨rfl, HI.out, Below.refl _ _, rfl⟩
        · have f18 := at_slot hz (hv 4 18 _ (by kernel_rfl) rfl) (by omega)
          refine wpOpIn_step rfl fun K hK => ?_
          go_simp
          refine (spanLimits_chk _ _ _ _ _).mono ?_
          rintro e w' ⟨v, rfl, hl, hb'⟩
          exact hK _ _ ⟨rfl, HI.out.trans (hb'.mono HI.out.size), hb', _, rfl, hl⟩
        · refine wpOpIn_step rfl fun K hK => ?_
          go_simp
          exact hK _ _ ⟨rfl, HI.out, Below.refl _ _, rfl⟩
        · have f20 := at_slot hz (hv 6 20 _ (by kernel_rfl) rfl) (by omega)
          refine wpOpIn_step rfl fun K hK => ?_
          go_simp
          exact hK _ _ ⟨rfl, HI.out, Below.refl _ _, rfl⟩
        · have f21 := at_slot hz (hv 7 21 _ (by kernel_rfl) rfl) (by omega)
          refine wpOpIn_step rfl fun K hK => ?_
          go_simp
          refine (limits_chk _ _ _ _).mono ?_
          rintro e w' ⟨v, rfl, hl, hb'⟩
          exact hK _ _ ⟨rfl, HI.out.trans (hb'.mono HI.out.size), hb', _, rfl, hl⟩
        · refine wpOpIn_step rfl fun K hK => ?_
          go_simp
          exact hK _ _ ⟨rfl, HI.out, Below.refl _ _, rfl⟩
        · have f23 := at_slot hz (hv 9 23 _ (by kernel_rfl) rfl) (by omega)
          refine wpOpIn_step rfl fun K hK => ?_
          go_simp
          exact hK _ _ ⟨rfl, HI.out, Below.refl _ _, rfl⟩
        · have f24 := at_slot hz (hv 10 24 _ (by kernel_rfl) rfl) (by omega)
          refine wpOpIn_step rfl fun K hK => ?_
          go_simp
          refine (limits_chk _ _ _ _).mono ?_
          rintro e w' ⟨v, rfl, hl, hb'⟩
          exact hK _ _ ⟨rfl, HI.out.trans (hb'.mono HI.out.size), hb', _, rfl, hl⟩
        · have p16 := hc 2 16 _ (by kernel_rfl) rfl
          obtain ⟨i16, y16, u16, q16⟩ := p16.shape
          rw [q16] at p16
          have f16 := at_slot hz q16 (by omega)
          have p19 := hc 5 19 _ (by kernel_rfl) rfl
          obtain ⟨i19, y19, u19, q19⟩ := p19.shape
          rw [q19] at p19
          have f19 := at_slot hz q19 (by omega)
          have p22 := hc 8 22 _ (by kernel_rfl) rfl
          obtain ⟨i22, y22, u22, q22⟩ := p22.shape
          rw [q22] at p22
          have f22 := at_slot hz q22 (by omega)
          have p25 := hc 11 25 _ (by kernel_rfl) rfl
          obtain ⟨i25, y25, u25, q25⟩ := p25.shape
          rw [q25] at p25
          have f25 := at_slot hz q25 (by omega)
          refine wpOpIn_step rfl fun K hK => ?_
          go_simp
          have hb' : ∀ x, Below w.heap.size w (w.alloc x) := fun x => (Below.refl _ _).alloc (Nat.le_refl _) _
          refine hK _ _ ⟨rfl, HI.out.trans ((hb' _).mono HI.out.size), hb' _, w.heap.size, rfl, fun i hi => ?_⟩
          have hi4 : i = 0 ∨ i = 1 ∨ i = 2 ∨ i = 3 := by have : i < 4 := hi; omega
          rcases hi4 with rfl | rfl | rfl | rfl
          · exact ⟨_, by simp, p16.below (hb' _)⟩
          · exact ⟨_, by simp, p19.below (hb' _)⟩
          · exact ⟨_, by simp, p22.below (hb' _)⟩
          · exact ⟨_, by simp, p25.below (hb' _)⟩
        · obtain ⟨g26, q26, hrow⟩ := hr 12 26 _ (by kernel_rfl) rfl
          have f26 := at_slot hz q26 (by omega)
          simp only [List.length_cons, List.length_nil, Nat.reduceAdd] at f26
          refine wpOpIn_step rfl fun K hK => ?_
          go_simp
          refine (foul_row _ (shotL x) _ (show 4 ≤ 100 by decide) hrow 4 rfl).mono ?_
          rintro e w' ⟨rfl, hb'⟩
          exact hK _ _ ⟨rfl, HI.out.trans (hb'.mono HI.out.size), hb', rfl⟩
        · have f27 := at_slot hz (hv 13 27 _ (by kernel_rfl) rfl) (by omega)
          refine wpOpIn_step rfl fun K hK => ?_
          go_simp
          exact hK _ _ ⟨rfl, HI.out, Below.refl _ _, rfl⟩
      · intro w X hI
        have HB5 := Lib.hid (HBX.out.trans (hI.mono (by omega)))
        clear hI
        simp only [List.map_cons, List.map_nil, Role.out, List.foldl_cons, List.foldl_nil, List.setIfInBounds_toArray, List.set_cons_succ, List.set_cons_zero]
        generalize firstL (shotL x) = z at *
        by_cases hz : z = 0
        · subst hz
          have hn0 := HNX.out rfl
          have HN0 := Lib.hid hn0
          clear hn0
          gi_wp2
          go_roundw
          case rel => exact ⟨k + 1, by omega, by go_num, HB5.out, HN0.out⟩
          case measure => simp [intOf]; omega
        · have hv := HST.out hz
          have HV := Lib.hid hv
          clear hv
          gi_wp2
          go_ret
          exact ⟨congrArg (fun z => Ending.returned (Value.int .i64 z)) HV.out.symm, ((Below.refl W.heap.size W).alloc (Nat.le_refl _) _).trans (HB5.out.mono (by omega))⟩
    · have HF : Hid (firstZ (fun k => firstL (shotL (sh k))) n = 0) := Lib.hid (firstZ_zero.2 fun j hj => HZ.out j (by omega))
      gi_wp2
      go_ret
      exact ⟨congrArg (fun z => Ending.returned (Value.int .i64 z)) HF.out.symm, HBW.out⟩
end Go.Proofs.YtlabfeofejemjaaGreat
end
section
namespace Go.Proofs.YtlabfeofejemjaaGreat
open Go.RowKit
def countZ (n : Nat) : Int := if n ≤ 8 then 0 else 2
def cardL (r : Rl) (sh : Nat → Sh) (n : Nat) : List Int := [firstL (ruleL r), countZ n, shotsZ sh n]
def cardZ (r : Rl) (sh : Nat → Sh) (n : Nat) : Int := firstL (cardL r sh n)
structure CardOk (r : Rl) (sh : Nat → Sh) (n : Nat) : Prop where
  rule : RlOk r
  count : n ≤ 8
  each : ∀ k, k < n → ShOk (sh k)
theorem cardZ_ok {r : Rl} {sh : Nat → Sh} {n : Nat} : cardZ r sh n = 0 ↔ CardOk r sh n := by
  unfold cardZ
  rw [firstL_zero]
  simp only [cardL, List.mem_cons, List.not_mem_nil, or_false, forall_eq_or_imp, forall_eq, ruleL_ok, shotsZ, firstZ_zero, shotL_ok, countZ]
  constructor
  · rintro ⟨h1, h2, h3⟩
    refine ⟨h1, ?_, h3⟩
    split at h2
    · assumption
    · cases h2
  · intro h
    exact ⟨h.rule, if_pos h.count, h.each⟩
theorem check_any (r : Rl) (A : Option Addr) (n c : Nat) (sh : Nat → Sh) (W : World) (hn : n ≤ 20) (hc : n ≤ c) (hsh : Hid (ShotsAt W A n sh)) : CallsIn Fc 0 Tryz.prog 46 #[cardV r A n c] W (SaysInt (cardZ r sh n) W) := by
  have hB1 : ∀ x y, Below W.heap.size W ((W.alloc x).alloc y) := fun x y => ((Below.refl _ _).alloc (Nat.le_refl _) _).alloc (by simp) _
  have HB1 := Lib.hid hB1
  clear hB1
  have hrow : ∀ x g, g = (W.alloc x).heap.size → RowIs g (cardL r sh n) ((W.alloc x).alloc (.cells #[.func (.func 74) #[cardV r A n c] #[], .func (.func 75) #[cardV r A n c] #[], .func (.func 76) #[cardV r A n c] #[]] 92)) := fun x g hg => by
    subst hg
    have hbl : ∀ w', Below ((W.alloc x).alloc (.cells #[.func (.func 74) #[cardV r A n c] #[], .func (.func 75) #[cardV r A n c] #[], .func (.func 76) #[cardV r A n c] #[]] 92)).heap.size ((W.alloc x).alloc (.cells #[.func (.func 74) #[cardV r A n c] #[], .func (.func 75) #[cardV r A n c] #[], .func (.func 76) #[cardV r A n c] #[]] 92)) w' → Below W.heap.size W w' := fun w' h => (HB1.out _ _).trans (h.mono (HB1.out _ _).size)
    intro i hi
    have h3 : i = 0 ∨ i = 1 ∨ i = 2 := by have : i < 3 := hi; omega
    rcases h3 with rfl | rfl | rfl
    · exact ⟨_, by simp, .inl ⟨74, _, by simp, rfl, fun w' hb => checkRule_any r A n c w'⟩⟩
    · exact ⟨_, by simp, .inl ⟨75, _, by simp, rfl, fun w' hb => checkCount_any r A n c w' hn⟩⟩
    · exact ⟨_, by simp, .inl ⟨76, _, by simp, rfl, fun w' hb => checkShots_any r A n c sh w' hn hc (Lib.hid (hsh.out.below (hbl w' hb)))⟩⟩
  have hcall := fun x g hg => foul_row g (cardL r sh n) _ (show 3 ≤ 100 by decide) (hrow x g hg) 3 rfl
  have HC := Lib.hid hcall
  clear hrow hcall
  unfold cardZ
  generalize firstL (cardL r sh n) = z at *
  gi_enter Tryz.func46, Tryz.ntmps46
  gi_wp2_with (gi_at_call 45; refine (HC.out _ _ (by simp)).mono ?_; rintro e w' ⟨rfl, hb⟩; have HB := Lib.hid ((HB1.out _ _).trans (hb.mono (HB1.out _ _).size)); clear hb)
  go_ret
  exact ⟨rfl, HB.out⟩
theorem agree_iff {r : Rl} {x y : Sh} : agreeB r x y = true ↔ reachU r x y.d ≤ wideV r y ∧ wideU r y ≤ reachV r x y.d ∧ reachU r x y.d ≤ reachV r x y.d ∧ wideU r y ≤ wideV r y := by
  unfold agreeB
  rw [decide_eq_true_eq]
  omega
theorem mul_shift (a b c k : Int) : (a - b) * k = (a - c) * k + (c - b) * k := by rw [← Int.add_mul]; congr 1; omega
theorem reach_pair {r : Rl} (hr : RlOk r) {x y : Sh} (h : reachU r x y.d ≤ wideV r y) (d : Int) : reachU r x d ≤ reachV r y d := by
  have pos : ∀ f : Int, 0 ≤ f → f * r.ls ≤ f * r.ms := fun f h => Int.mul_le_mul_of_nonneg_left hr.l1 h
  have neg : ∀ f : Int, f ≤ 0 → f * r.ms ≤ f * r.ls := fun f h => Int.mul_le_mul_of_nonpos_left h hr.l1
  have e1 := mul_shift d x.d y.d r.ls
  have e2 := mul_shift d x.d y.d r.ms
  have p1 := pos (d - y.d)
  have n1 := neg (d - y.d)
  have p2 := pos (y.d - x.d)
  have n2 := neg (y.d - x.d)
  have p3 := pos (d - x.d)
  have n3 := neg (d - x.d)
  unfold reachU at h ⊢
  unfold reachV
  split at h <;> split <;> split
  all_goals
    (try have p1 := p1 (by omega)); (try have n1 := n1 (by omega)); (try have p2 := p2 (by omega)); (try have n2 := n2 (by omega)); (try have p3 := p3 (by omega)); (try have n3 := n3 (by omega))
    omega
theorem reach_pair' {r : Rl} (hr : RlOk r) {x y : Sh} (h : wideU r y ≤ reachV r x y.d) (d : Int) : reachU r y d ≤ reachV r x d := by
  have pos : ∀ f : Int, 0 ≤ f → f * r.ls ≤ f * r.ms := fun f h => Int.mul_le_mul_of_nonneg_left hr.l1 h
  have neg : ∀ f : Int, f ≤ 0 → f * r.ms ≤ f * r.ls := fun f h => Int.mul_le_mul_of_nonpos_left h hr.l1
  have e1 := mul_shift d x.d y.d r.ls
  have e2 := mul_shift d x.d y.d r.ms
  have p1 := pos (d - y.d)
  have n1 := neg (d - y.d)
  have p2 := pos (y.d - x.d)
  have n2 := neg (y.d - x.d)
  have p3 := pos (d - x.d)
  have n3 := neg (d - x.d)
  unfold reachV at h ⊢
  unfold reachU
  split at h <;> split <;> split
  all_goals
    (try have p1 := p1 (by omega)); (try have n1 := n1 (by omega)); (try have p2 := p2 (by omega)); (try have n2 := n2 (by omega)); (try have p3 := p3 (by omega)); (try have n3 := n3 (by omega))
    omega
theorem fit_each {r : Rl} {sh : Nat → Sh} {n : Nat} (hok : CardOk r sh n) (hall : AllAgree r sh n) {i j : Nat} (hi : i < n) (hj : j < n) {d : Int} (h0 : 0 ≤ d) (h1 : d ≤ 90) : reachU r (sh i) d ≤ reachV r (sh j) d := by
  rcases Nat.lt_trichotomy i j with h | rfl | h
  · exact reach_pair hok.rule (agree_iff.1 (hall i j h hj)).1 d
  · exact (reach_bounds hok.rule (hok.each i hi) h0 h1).2.1
  · exact reach_pair' hok.rule (agree_iff.1 (hall j i h hi)).2.1 d
theorem bU_le {r : Rl} {sh : Nat → Sh} {d X : Int} : ∀ k, bU r sh d k ≤ X ↔ -1073741824 ≤ X ∧ ∀ i, i < k → reachU r (sh i) d ≤ X
  | 0 => by simp [bU]
  | k + 1 => by
    simp only [bU]
    rw [Int.max_le, bU_le k]
    constructor
    · rintro ⟨⟨h1, h2⟩, h3⟩
      exact ⟨h1, fun i hi => by
        rcases Nat.lt_succ_iff_lt_or_eq.1 hi with h | rfl
        · exact h2 i h
        · exact h3⟩
    · rintro ⟨h1, h2⟩
      exact ⟨⟨h1, fun i hi => h2 i (by omega)⟩, h2 k (by omega)⟩
theorem le_bV {r : Rl} {sh : Nat → Sh} {d X : Int} : ∀ k, X ≤ bV r sh d k ↔ X ≤ 1073741824 ∧ ∀ i, i < k → X ≤ reachV r (sh i) d
  | 0 => by simp [bV]
  | k + 1 => by
    simp only [bV]
    rw [Int.le_min, le_bV k]
    constructor
    · rintro ⟨⟨h1, h2⟩, h3⟩
      exact ⟨h1, fun i hi => by
        rcases Nat.lt_succ_iff_lt_or_eq.1 hi with h | rfl
        · exact h2 i h
        · exact h3⟩
    · rintro ⟨h1, h2⟩
      exact ⟨⟨h1, fun i hi => h2 i (by omega)⟩, h2 k (by omega)⟩
theorem fit_bound {r : Rl} {sh : Nat → Sh} {n : Nat} (hok : CardOk r sh n) (hall : AllAgree r sh n) {d : Int} (h0 : 0 ≤ d) (h1 : d ≤ 90) : ∀ k, k ≤ n → bU r sh d k ≤ bV r sh d k := fun k hk => by
  rw [bU_le]
  refine ⟨?_, fun i hi => ?_⟩
  · rw [le_bV]
    exact ⟨by decide, fun i hi => by have := reach_bounds hok.rule (hok.each i (by omega)) h0 h1; omega⟩
  · rw [le_bV]
    exact ⟨by have := reach_bounds hok.rule (hok.each i (by omega)) h0 h1; omega, fun j hj => fit_each hok hall (by omega) (by omega) h0 h1⟩
end Go.Proofs.YtlabfeofejemjaaGreat
end
section
namespace Go.Proofs.YtlabfeofejemjaaGreat
open Go.RowKit
def SaysMark (u v f : Int) (W : World) (e : Ending) (w' : World) : Prop := e = .returned (.tuple #[spanV u v, .int .i64 f]) ∧ Below W.heap.size W w'
end Go.Proofs.YtlabfeofejemjaaGreat
end
section
namespace Go.Proofs.YtlabfeofejemjaaGreat
open Go.RowKit
theorem limZ_cases (n l m : Int) : limZ n l m = 0 ∨ limZ n l m = 1 := by unfold limZ; split <;> simp
theorem outZ_cases (a b l m : Int) : outZ a b l m = 0 ∨ outZ a b l m = 1 := by unfold outZ; split <;> simp
theorem firstZ_cases {F : Nat → Int} : ∀ n, (∀ k, k < n → F k = 0 ∨ F k = 1) → firstZ F n = 0 ∨ firstZ F n = 1
  | 0, _ => .inl rfl
  | n + 1, h => by
    simp only [firstZ]
    split
    · exact h n (by omega)
    · exact firstZ_cases n fun k hk => h k (by omega)
theorem firstL_cases {fs : List Int} (h : ∀ f ∈ fs, f = 0 ∨ f = 1) : firstL fs = 0 ∨ firstL fs = 1 :=
  firstZ_cases _ fun k hk => by
    have := h fs[k] (List.getElem_mem hk)
    simpa [hk] using this
theorem ruleL_no {r : Rl} (h : ¬ RlOk r) : firstL (ruleL r) = 1 := by
  rcases firstL_cases (fs := ruleL r) (by
    intro f hf
    simp only [ruleL, List.mem_cons, List.not_mem_nil, or_false] at hf
    rcases hf with rfl | rfl | rfl | rfl <;> exact limZ_cases _ _ _) with h1 | h1
  · exact absurd (ruleL_ok.1 h1) h
  · exact h1
theorem shotL_no {x : Sh} (h : ¬ ShOk x) : firstL (shotL x) = 1 := by
  rcases firstL_cases (fs := shotL x) (by
    intro f hf
    simp only [shotL, List.mem_cons, List.not_mem_nil, or_false] at hf
    rcases hf with rfl | rfl | rfl | rfl <;> first | exact limZ_cases _ _ _ | exact outZ_cases _ _ _ _) with h1 | h1
  · exact absurd (shotL_ok.1 h1) h
  · exact h1
theorem firstL3 (a b c : Int) : firstL [a, b, c] = if a = 0 then (if b = 0 then c else b) else a := by
  simp only [firstL, List.length_cons, List.length_nil, firstZ, List.getD_cons_zero, List.getD_cons_succ, Nat.zero_add, if_true]
  by_cases ha : a = 0 <;> by_cases hb : b = 0 <;> simp [ha, hb]
theorem cardZ_rule {r : Rl} {sh : Nat → Sh} {n : Nat} (h : ¬ RlOk r) : cardZ r sh n = 1 := by
  unfold cardZ cardL
  rw [firstL3, ruleL_no h]; rfl
theorem cardZ_count {r : Rl} {sh : Nat → Sh} {n : Nat} (h : RlOk r) (hn : ¬ n ≤ 8) : cardZ r sh n = 2 := by
  unfold cardZ cardL
  rw [firstL3, ruleL_ok.2 h, if_pos rfl, show countZ n = 2 from if_neg hn]; rfl
theorem cardZ_shots {r : Rl} {sh : Nat → Sh} {n : Nat} (h : RlOk r) (hn : n ≤ 8) : cardZ r sh n = shotsZ sh n := by
  unfold cardZ cardL
  rw [firstL3, ruleL_ok.2 h, if_pos rfl, show countZ n = 0 from if_pos hn, if_pos rfl]
theorem shotsZ_at {sh : Nat → Sh} {n k : Nat} (hk : k < n) (h0 : ∀ j, j < k → ShOk (sh j)) (h1 : ¬ ShOk (sh k)) : shotsZ sh n = 1 := by
  unfold shotsZ
  rw [firstZ_at (F := fun k => firstL (shotL (sh k))) (k := k) (fun j hj => shotL_ok.2 (h0 j hj)) (by show firstL _ ≠ 0; rw [shotL_no h1]; decide) hk]
  exact shotL_no h1
theorem inB_iff {n l h : Int} : inB n l h = true ↔ l ≤ n ∧ n ≤ h := by simp [inB]
theorem insideB_iff {a b l h : Int} : insideB a b l h = true ↔ l ≤ a ∧ a ≤ b ∧ b ≤ h := by simp [insideB, inB]; omega
theorem ruleB {r : Rl} (h1 : inB r.ls 0 999 = true) (h2 : inB r.ms 0 999 = true) (h3 : inB r.wd 0 999 = true) (h4 : inB r.lt 0 999 = true) (h5 : r.ls ≤ r.ms) : RlOk r := by
  rw [inB_iff] at h1 h2 h3 h4
  exact ⟨h1.1, h5, h2.2, h3.1, h3.2, h4.1, h4.2⟩
theorem shotB {x : Sh} (h1 : inB x.d 0 90 = true) (h2 : insideB x.u x.v 0 99999 = true) (h3 : inB x.wd 0 9 = true) (h4 : inB x.lt 0 9 = true) : ShOk x := by
  rw [inB_iff] at h1 h3 h4
  rw [insideB_iff] at h2
  exact ⟨h1.1, h1.2, h2.1, h2.2.1, h2.2.2, h3.1, h3.2, h4.1, h4.2⟩
theorem CheckCard_any (r : Rl) (A : Option Addr) (n c : Nat) (sh : Nat → Sh) (W : World) (hn : n ≤ 20) (hc : n ≤ c) (hsh : Hid (ShotsAt W A n sh)) : CallsIn Fc 0 Tryz.prog 12 #[cardV r A n c] W (SaysInt (cardZ r sh n) W) := by
  obtain ⟨z, hz⟩ : ∃ z, cardZ r sh n = z := ⟨_, rfl⟩
  rw [hz]
  have HZ := Lib.hid hz
  clear hz
  gi_enter Tryz.func12, Tryz.ntmps12
  by_cases hr : RlOk r
  · have h1 : inB r.ls 0 999 = true := inB_iff.2 ⟨hr.l0, Int.le_trans hr.l1 hr.m1⟩
    have h2 : inB r.ms 0 999 = true := inB_iff.2 ⟨Int.le_trans hr.l0 hr.l1, hr.m1⟩
    have h3 : inB r.wd 0 999 = true := inB_iff.2 ⟨hr.w0, hr.w1⟩
    have h4 : inB r.lt 0 999 = true := inB_iff.2 ⟨hr.t0, hr.t1⟩
    have h5 : ¬ r.ls > r.ms := Int.not_lt.2 hr.l1
    have HR := Lib.hid hr
    clear hr
    by_cases hn8 : n ≤ 8
    · have hn8' : ¬ (n : Int) > 8 := by omega
      have HN := Lib.hid hn8
      clear hn8
      gi_wp2_with (gi_at_call 51; refine (in_any _ _ _ _).mono ?_; rintro e w' ⟨rfl, rfl⟩)
      generalize hW3 : (W.alloc (.cells #[.int .i64 r.ls, .int .i64 r.ms, .int .i64 r.wd, .int .i64 r.lt, .slice A n c] 26)).alloc (.cells #[.int .i64 r.ls, .int .i64 r.ms, .int .i64 r.wd, .int .i64 r.lt] 23) = W3 at *
      have hb3 : Below W.heap.size W W3 := by rw [← hW3]; exact ((Below.refl _ _).alloc (Nat.le_refl _) _).alloc (by simp) _
      have hcb : Below (W.heap.size + 1) (W.alloc (.cells #[.int .i64 r.ls, .int .i64 r.ms, .int .i64 r.wd, .int .i64 r.lt, .slice A n c] 26)) W3 := by rw [← hW3]; exact (Below.refl _ _).alloc (by simp) _
      obtain ⟨_, _, _, _, e4⟩ := box_cells hcb
      have HE := Lib.hid e4
      have HB3 := Lib.hid hb3
      clear hW3 hb3 hcb e4 h1 h2 h3 h4 h5
      gi_loopw [4] (fun iv wr => ∃ k : Nat, k ≤ n ∧ iv = .int .i64 k ∧ Below W3.heap.size W3 wr ∧ ∀ j, j < k → ShOk (sh j)) (fun iv _ => n - (intOf iv).toNat)
      case atStart => exact ⟨0, Nat.zero_le _, rfl, Below.refl _ _, fun j h => by omega⟩
      case round =>
        obtain ⟨k, hk, rfl, hb, hall⟩ := hrel
        have HALL := Lib.hid hall
        have e4 := Below.old hb HE.out
        have HBW := Lib.hid (HB3.out.trans (hb.mono HB3.out.size))
        have HB := Lib.hid hb
        clear hb hall
        by_cases hlt : k < n
        · obtain ⟨b, o, rfl, hy⟩ := hsh.out k hlt
          obtain ⟨y0, y1, y2, y3, y4⟩ := hy.below HBW.out
          clear hy
          have hstop : ¬ ShOk (sh k) → z = 1 := fun h => by rw [← HZ.out, cardZ_shots HR.out HN.out, shotsZ_at hlt HALL.out h]
          have HST := Lib.hid hstop
          have hnext : ShOk (sh k) → ∀ j, j < k + 1 → ShOk (sh j) := fun h j hj => by
            rcases Nat.lt_succ_iff_lt_or_eq.1 hj with hj | rfl
            · exact HALL.out j hj
            · exact h
          have HNX := Lib.hid hnext
          clear hstop hnext
          generalize sh k = x at *
          have hok : inB x.d 0 90 = true → insideB x.u x.v 0 99999 = true → inB x.wd 0 9 = true → inB x.lt 0 9 = true → ShOk x := shotB
          have hno : (inB x.d 0 90 = false ∨ insideB x.u x.v 0 99999 = false ∨ inB x.wd 0 9 = false ∨ inB x.lt 0 9 = false) → ¬ ShOk x := fun h hx => by
            have a1 := inB_iff.2 ⟨hx.d0, hx.d1⟩
            have a2 := insideB_iff.2 ⟨hx.u0, hx.u1, hx.v1⟩
            have a3 := inB_iff.2 ⟨hx.w0, hx.w1⟩
            have a4 := inB_iff.2 ⟨hx.t0, hx.t1⟩
            rw [a1, a2, a3, a4] at h
            simp at h
          have HOK := Lib.hid hok
          have HNO := Lib.hid hno
          clear hok hno
          cases h1 : inB x.d 0 90 with
          | false =>
            obtain rfl := HST.out (HNO.out (.inl h1))
            have hbx := (Below.refl wr.heap.size wr).alloc (Nat.le_refl _) (.cells #[.int .i64 x.d, .int .i64 x.u, .int .i64 x.v, .int .i64 x.wd, .int .i64 x.lt] 46)
            have HBX := Lib.hid hbx
            have HB9 := Lib.hid (HB.out.trans (hbx.mono HB.out.size))
            clear hbx
            gi_wp2_with (first | (gi_at_call 51; refine (in_any _ _ _ _).mono ?_; rintro e w' ⟨rfl, rfl⟩) | (gi_at_call 52; refine (inside_any _ _ _ _ _).mono ?_; rintro e w8 ⟨rfl, hb1⟩; have q3 : w8.cell? ⟨wr.heap.size, 3, none⟩ = some (.int .i64 x.wd) := Below.old hb1 (by simp); have q4 : w8.cell? ⟨wr.heap.size, 4, none⟩ = some (.int .i64 x.lt) := Below.old hb1 (by simp)))
            go_ret
            first | exact ⟨rfl, HBW.out.alloc HBW.out.size _⟩ | exact ⟨rfl, (HBW.out.alloc HBW.out.size _).trans (hb1.mono (by have := HBW.out.size; simp; omega))⟩
          | true =>
            cases h2 : insideB x.u x.v 0 99999 with
            | false =>
              obtain rfl := HST.out (HNO.out (.inr (.inl h2)))
              have hbx := (Below.refl wr.heap.size wr).alloc (Nat.le_refl _) (.cells #[.int .i64 x.d, .int .i64 x.u, .int .i64 x.v, .int .i64 x.wd, .int .i64 x.lt] 46)
              have HBX := Lib.hid hbx
              have HB9 := Lib.hid (HB.out.trans (hbx.mono HB.out.size))
              clear hbx
              gi_wp2_with (first | (gi_at_call 51; refine (in_any _ _ _ _).mono ?_; rintro e w' ⟨rfl, rfl⟩) | (gi_at_call 52; refine (inside_any _ _ _ _ _).mono ?_; rintro e w8 ⟨rfl, hb1⟩; have q3 : w8.cell? ⟨wr.heap.size, 3, none⟩ = some (.int .i64 x.wd) := Below.old hb1 (by simp); have q4 : w8.cell? ⟨wr.heap.size, 4, none⟩ = some (.int .i64 x.lt) := Below.old hb1 (by simp)))
              go_ret
              first | exact ⟨rfl, HBW.out.alloc HBW.out.size _⟩ | exact ⟨rfl, (HBW.out.alloc HBW.out.size _).trans (hb1.mono (by have := HBW.out.size; simp; omega))⟩
            | true =>
              cases h3 : inB x.wd 0 9 with
              | false =>
                obtain rfl := HST.out (HNO.out (.inr (.inr (.inl h3))))
                have hbx := (Below.refl wr.heap.size wr).alloc (Nat.le_refl _) (.cells #[.int .i64 x.d, .int .i64 x.u, .int .i64 x.v, .int .i64 x.wd, .int .i64 x.lt] 46)
                have HBX := Lib.hid hbx
                have HB9 := Lib.hid (HB.out.trans (hbx.mono HB.out.size))
                clear hbx
                gi_wp2_with (first | (gi_at_call 51; refine (in_any _ _ _ _).mono ?_; rintro e w' ⟨rfl, rfl⟩) | (gi_at_call 52; refine (inside_any _ _ _ _ _).mono ?_; rintro e w8 ⟨rfl, hb1⟩; have q3 : w8.cell? ⟨wr.heap.size, 3, none⟩ = some (.int .i64 x.wd) := Below.old hb1 (by simp); have q4 : w8.cell? ⟨wr.heap.size, 4, none⟩ = some (.int .i64 x.lt) := Below.old hb1 (by simp)))
                go_ret
                first | exact ⟨rfl, HBW.out.alloc HBW.out.size _⟩ | exact ⟨rfl, (HBW.out.alloc HBW.out.size _).trans (hb1.mono (by have := HBW.out.size; simp; omega))⟩
              | true =>
                cases h4 : inB x.lt 0 9 with
                | false =>
                  obtain rfl := HST.out (HNO.out (.inr (.inr (.inr h4))))
                  have hbx := (Below.refl wr.heap.size wr).alloc (Nat.le_refl _) (.cells #[.int .i64 x.d, .int .i64 x.u, .int .i64 x.v, .int .i64 x.wd, .int .i64 x.lt] 46)
                  have HBX := Lib.hid hbx
                  have HB9 := Lib.hid (HB.out.trans (hbx.mono HB.out.size))
                  clear hbx
                  gi_wp2_with (first | (gi_at_call 51; refine (in_any _ _ _ _).mono ?_; rintro e w' ⟨rfl, rfl⟩) | (gi_at_call 52; refine (inside_any _ _ _ _ _).mono ?_; rintro e w8 ⟨rfl, hb1⟩; have q3 : w8.cell? ⟨wr.heap.size, 3, none⟩ = some (.int .i64 x.wd) := Below.old hb1 (by simp); have q4 : w8.cell? ⟨wr.heap.size, 4, none⟩ = some (.int .i64 x.lt) := Below.old hb1 (by simp)))
                  go_ret
                  first | exact ⟨rfl, HBW.out.alloc HBW.out.size _⟩ | exact ⟨rfl, (HBW.out.alloc HBW.out.size _).trans (hb1.mono (by have := HBW.out.size; simp; omega))⟩
                | true =>
                  have hnx := HNX.out (HOK.out h1 h2 h3 h4)
                  have HNX' := Lib.hid hnx
                  clear hnx
                  have hbx := (Below.refl wr.heap.size wr).alloc (Nat.le_refl _) (.cells #[.int .i64 x.d, .int .i64 x.u, .int .i64 x.v, .int .i64 x.wd, .int .i64 x.lt] 46)
                  have HBX := Lib.hid hbx
                  have HB9 := Lib.hid (HB.out.trans (hbx.mono HB.out.size))
                  clear hbx
                  gi_wp2_with (first | (gi_at_call 51; refine (in_any _ _ _ _).mono ?_; rintro e w' ⟨rfl, rfl⟩) | (gi_at_call 52; refine (inside_any _ _ _ _ _).mono ?_; rintro e w8 ⟨rfl, hb1⟩; have q3 : w8.cell? ⟨wr.heap.size, 3, none⟩ = some (.int .i64 x.wd) := Below.old hb1 (by simp); have q4 : w8.cell? ⟨wr.heap.size, 4, none⟩ = some (.int .i64 x.lt) := Below.old hb1 (by simp)))
                  go_roundw
                  case rel => exact ⟨k + 1, by omega, by go_num, HB9.out.trans (hb1.mono (by have := HB9.out.size; omega)), HNX'.out⟩
                  case measure => simp [intOf]; omega
        · obtain rfl : k = n := by omega
          have hv : z = 0 := by rw [← HZ.out]; exact cardZ_ok.2 ⟨HR.out, HN.out, HALL.out⟩
          obtain rfl := hv
          gi_wp2
          go_ret
          exact ⟨rfl, HBW.out⟩
    · have hn8' : (n : Int) > 8 := by omega
      have hv : z = 2 := by rw [← HZ.out]; exact cardZ_count HR.out hn8
      obtain rfl := hv
      gi_wp2_with (gi_at_call 51; refine (in_any _ _ _ _).mono ?_; rintro e w' ⟨rfl, rfl⟩)
      go_ret
      exact ⟨rfl, ((Below.refl _ _).alloc (Nat.le_refl _) _).alloc (by simp) _⟩
  · have hv : z = 1 := by rw [← HZ.out]; exact cardZ_rule hr
    obtain rfl := hv
    have RST : ∀ (_ : Unit), Below W.heap.size W ((W.alloc (.cells #[.int .i64 r.ls, .int .i64 r.ms, .int .i64 r.wd, .int .i64 r.lt, .slice A n c] 26)).alloc (.cells #[.int .i64 r.ls, .int .i64 r.ms, .int .i64 r.wd, .int .i64 r.lt] 23)) := fun _ => ((Below.refl _ _).alloc (Nat.le_refl _) _).alloc (by simp) _
    have HRB := Lib.hid RST
    have HNR := Lib.hid hr
    clear RST hr
    cases h1 : inB r.ls 0 999 with
    | false => gi_wp2_with (gi_at_call 51; refine (in_any _ _ _ _).mono ?_; rintro e w' ⟨rfl, rfl⟩)
               go_ret
               exact ⟨rfl, HRB.out ()⟩
    | true =>
      cases h2 : inB r.ms 0 999 with
      | false => gi_wp2_with (gi_at_call 51; refine (in_any _ _ _ _).mono ?_; rintro e w' ⟨rfl, rfl⟩)
                 go_ret
                 exact ⟨rfl, HRB.out ()⟩
      | true =>
        cases h3 : inB r.wd 0 999 with
        | false => gi_wp2_with (gi_at_call 51; refine (in_any _ _ _ _).mono ?_; rintro e w' ⟨rfl, rfl⟩)
                   go_ret
                   exact ⟨rfl, HRB.out ()⟩
        | true =>
          cases h4 : inB r.lt 0 999 with
          | false => gi_wp2_with (gi_at_call 51; refine (in_any _ _ _ _).mono ?_; rintro e w' ⟨rfl, rfl⟩)
                     go_ret
                     exact ⟨rfl, HRB.out ()⟩
          | true =>
            by_cases h5 : r.ls > r.ms
            · gi_wp2_with (gi_at_call 51; refine (in_any _ _ _ _).mono ?_; rintro e w' ⟨rfl, rfl⟩)
              go_ret
              exact ⟨rfl, HRB.out ()⟩
            · exact absurd (ruleB h1 h2 h3 h4 (Int.not_lt.1 h5)) HNR.out
end Go.Proofs.YtlabfeofejemjaaGreat
end
section
namespace Go.Proofs.YtlabfeofejemjaaGreat
open Go.RowKit
abbrev ruleV (r : Rl) : Value := .agg #[.int .i64 r.ls, .int .i64 r.ms, .int .i64 r.wd, .int .i64 r.lt]
theorem span_third (w : World) (A B : Obj) (u v : Int) : SpanAt (((w.alloc A).alloc B).alloc (.cells #[.int .i64 u, .int .i64 v] 29)) (w.heap.size + 1 + 1) u v := by
  have := span_new ((w.alloc A).alloc B) u v
  simpa using this
theorem WideOf_any (r : Rl) (x : Sh) (W : World) (hr : Hid (RlOk r)) (hx : Hid (ShOk x)) : CallsIn Fc 0 Tryz.prog 50 #[ruleV r, shV x] W (SaysSpan (wideU r x) (wideV r x) W) := by
  have hp := wide_parts hr.out hx.out
  have hu0 := hx.out.u0
  have hu1 := hx.out.u1
  have hv1 := hx.out.v1
  obtain ⟨U, hU⟩ : ∃ U, wideU r x = U := ⟨_, rfl⟩
  obtain ⟨V, hV⟩ : ∃ V, wideV r x = V := ⟨_, rfl⟩
  rw [hU, hV]
  unfold wideU wideN at hU
  unfold wideV wideN at hV
  clear hx hr
  obtain ⟨d, u, v, wd, lt⟩ := x
  simp only at *
  have w1 : IntKind.wrap .i64 (wd * r.wd) = wd * r.wd := wrap_of (by omega) (by omega)
  have w2 : IntKind.wrap .i64 (lt * r.lt) = lt * r.lt := wrap_of (by omega) (by omega)
  have w3 : IntKind.wrap .i64 (wd * r.wd + lt * r.lt) = wd * r.wd + lt * r.lt := wrap_of (by omega) (by omega)
  have w4 : IntKind.wrap .i64 (u - (wd * r.wd + lt * r.lt)) = U := by rw [← hU]; exact wrap_of (by omega) (by omega)
  have w5 : IntKind.wrap .i64 (v + (wd * r.wd + lt * r.lt)) = V := by rw [← hV]; exact wrap_of (by omega) (by omega)
  clear hU hV hp
  gi_enter Tryz.func50, Tryz.ntmps50
  gi_wp2
  refine bodyPost_ret (v := spanV U V) (results_spanI rfl rfl ?_) rfl ⟨rfl, ?_⟩
  · exact span_third _ _ _ _ _
  · exact (((Below.refl _ _).alloc (Nat.le_refl _) _).alloc (by simp) _).alloc (by simp; omega) _
theorem Both_any (a b x y : Int) (w : World) : CallsIn Fc 0 Tryz.prog 27 #[spanV a b, spanV x y] w (SaysSpan (max a x) (min b y) w) := by
  have e1 : max a x = if a < x then x else a := by rw [Int.max_def]; split <;> split <;> omega
  have e2 : min b y = if y < b then y else b := by rw [Int.min_def]; split <;> split <;> omega
  gi_enter Tryz.func27, Tryz.ntmps27
  gi_wp2
  all_goals
    refine bodyPost_ret (v := spanV _ _) (results_spanI rfl rfl (span_third _ _ _ _ _)) rfl ⟨?_, ?_⟩
    · first
      | rfl
      | (rw [e1, e2]; repeat' split
         all_goals first | rfl | omega)
    · exact (((Below.refl _ _).alloc (Nat.le_refl _) _).alloc (by simp) _).alloc (by simp; omega) _
theorem From_any (r : Rl) (x : Sh) (d : Int) (W : World) (h0 : 0 ≤ d) (h1 : d ≤ 90) (hr : Hid (RlOk r)) (hx : Hid (ShOk x)) : CallsIn Fc 0 Tryz.prog 85 #[ruleV r, shV x, .int .i64 d] W (SaysSpan (reachU r x d) (reachV r x d) W) := by
  have hB : ∀ x y z, Below W.heap.size W (((W.alloc x).alloc y).alloc z) := fun x y z => (((Below.refl _ _).alloc (Nat.le_refl _) _).alloc (by simp) _).alloc (by simp; omega) _
  have HBB := Lib.hid hB
  have hcall := fun w => WideOf_any r x w hr hx
  have HC := Lib.hid hcall
  clear hB hcall
  have hw := wide_bounds hr.out hx.out
  have d0 := hx.out.d0
  have d1 := hx.out.d1
  have hf := far_bound hr.out (f := d - x.d) (by omega) (by omega)
  have hrb := reach_bounds hr.out hx.out h0 h1
  obtain ⟨U, hU⟩ : ∃ U, reachU r x d = U := ⟨_, rfl⟩
  obtain ⟨V, hV⟩ : ∃ V, reachV r x d = V := ⟨_, rfl⟩
  rw [hU, hV] at hrb
  rw [hU, hV]
  unfold reachU at hU
  unfold reachV at hV
  generalize hWU : wideU r x = wu at *
  generalize hWV : wideV r x = wv at *
  clear hWU hWV hx hr
  obtain ⟨xd, xu, xv, xw, xl⟩ := x
  simp only at *
  by_cases hlt : d - xd < 0
  · rw [if_pos hlt] at hU hV
    have e1 : r.ms * (xd - d) = -((d - xd) * r.ms) := by rw [Int.mul_comm, ← Int.neg_mul]; congr 1; omega
    have e2 : r.ls * (xd - d) = -((d - xd) * r.ls) := by rw [Int.mul_comm, ← Int.neg_mul]; congr 1; omega
    have w1 : IntKind.wrap .i64 (xd - d) = xd - d := wrap_of (by omega) (by omega)
    have w2 : IntKind.wrap .i64 (r.ms * (xd - d)) = r.ms * (xd - d) := wrap_of (by omega) (by omega)
    have w3 : IntKind.wrap .i64 (r.ls * (xd - d)) = r.ls * (xd - d) := wrap_of (by omega) (by omega)
    have w4 : IntKind.wrap .i64 (wu - r.ms * (xd - d)) = U := by rw [← hU, e1]; rw [show wu - -((d - xd) * r.ms) = wu + (d - xd) * r.ms by omega]; exact wrap_of (by omega) (by omega)
    have w5 : IntKind.wrap .i64 (wv - r.ls * (xd - d)) = V := by rw [← hV, e2]; rw [show wv - -((d - xd) * r.ls) = wv + (d - xd) * r.ls by omega]; exact wrap_of (by omega) (by omega)
    have hge : ¬ d ≥ xd := by omega
    clear hU hV hf hw hrb d0 d1 h0 h1 e1 e2 hlt
    gi_enter Tryz.func85, Tryz.ntmps85
    gi_wp2_with (gi_at_call 50; refine (HC.out _).mono ?_; rintro e w2 ⟨rfl, hb2⟩
                 have hk0 : Below (W.heap.size + 1) (W.alloc (.cells #[.int .i64 r.ls, .int .i64 r.ms, .int .i64 r.wd, .int .i64 r.lt] 23)) w2 := (((Below.refl _ _).alloc (by simp) _).alloc (by simp) _).trans (hb2.mono (by simp))
                 have hk1 : Below (W.heap.size + 2) ((W.alloc (.cells #[.int .i64 r.ls, .int .i64 r.ms, .int .i64 r.wd, .int .i64 r.lt] 23)).alloc (.cells #[.int .i64 xd, .int .i64 xu, .int .i64 xv, .int .i64 xw, .int .i64 xl] 46)) w2 := ((Below.refl _ _).alloc (by simp) _).trans (hb2.mono (by simp))
                 have e0 : w2.cell? ⟨W.heap.size, 0, none⟩ = some (.int .i64 r.ls) := (hk0.cell (by simp)).trans (by go_simp)
                 have e1 : w2.cell? ⟨W.heap.size, 1, none⟩ = some (.int .i64 r.ms) := (hk0.cell (by simp)).trans (by go_simp)
                 have f0 : w2.cell? ⟨W.heap.size + 1, 0, none⟩ = some (.int .i64 xd) := (hk1.cell (by simp)).trans (by go_simp)
                 clear hk0 hk1
                 have hs : SpanAt w2 (W.heap.size + 1 + 1) 0 0 := SpanAt.below (span_third _ _ _ _ _) hb2
                 have z0 := hs.frozen 0
                 have z1 := hs.frozen 1
                 obtain ⟨s0, s1⟩ := hs.cell
                 have lb := hs.lt
                 have lb0 : W.heap.size < w2.heap.size := by omega
                 have lb1 : W.heap.size + 1 < w2.heap.size := by omega
                 have hbw := (HBB.out _ _ _).trans (hb2.mono (HBB.out _ _ _).size)
                 have HS := Lib.hid hs
                 have HB2 := Lib.hid hbw
                 clear hb2 hs hbw)
    refine bodyPost_ret (v := spanV U V) (results_spanI rfl rfl ?_) rfl ⟨rfl, ?_⟩
    · exact (HS.out.set _ _).below ((Below.refl _ _).alloc (Nat.le_refl _) _)
    · exact ((HB2.out.setCell (by simp; omega) _).setCell (by simp; omega) _).alloc (by simpa using HB2.out.size) _
  · rw [if_neg hlt] at hU hV
    have e1 : r.ms * (d - xd) = (d - xd) * r.ms := Int.mul_comm _ _
    have e2 : r.ls * (d - xd) = (d - xd) * r.ls := Int.mul_comm _ _
    have w1 : IntKind.wrap .i64 (d - xd) = d - xd := wrap_of (by omega) (by omega)
    have w2 : IntKind.wrap .i64 (r.ms * (d - xd)) = r.ms * (d - xd) := wrap_of (by omega) (by omega)
    have w3 : IntKind.wrap .i64 (r.ls * (d - xd)) = r.ls * (d - xd) := wrap_of (by omega) (by omega)
    have w4 : IntKind.wrap .i64 (wu + r.ls * (d - xd)) = U := by rw [← hU, e2]; exact wrap_of (by omega) (by omega)
    have w5 : IntKind.wrap .i64 (wv + r.ms * (d - xd)) = V := by rw [← hV, e1]; exact wrap_of (by omega) (by omega)
    have hge : d ≥ xd := by omega
    clear hU hV hf hw hrb d0 d1 h0 h1 e1 e2 hlt
    gi_enter Tryz.func85, Tryz.ntmps85
    gi_wp2_with (gi_at_call 50; refine (HC.out _).mono ?_; rintro e w2 ⟨rfl, hb2⟩
                 have hk0 : Below (W.heap.size + 1) (W.alloc (.cells #[.int .i64 r.ls, .int .i64 r.ms, .int .i64 r.wd, .int .i64 r.lt] 23)) w2 := (((Below.refl _ _).alloc (by simp) _).alloc (by simp) _).trans (hb2.mono (by simp))
                 have hk1 : Below (W.heap.size + 2) ((W.alloc (.cells #[.int .i64 r.ls, .int .i64 r.ms, .int .i64 r.wd, .int .i64 r.lt] 23)).alloc (.cells #[.int .i64 xd, .int .i64 xu, .int .i64 xv, .int .i64 xw, .int .i64 xl] 46)) w2 := ((Below.refl _ _).alloc (by simp) _).trans (hb2.mono (by simp))
                 have e0 : w2.cell? ⟨W.heap.size, 0, none⟩ = some (.int .i64 r.ls) := (hk0.cell (by simp)).trans (by go_simp)
                 have e1 : w2.cell? ⟨W.heap.size, 1, none⟩ = some (.int .i64 r.ms) := (hk0.cell (by simp)).trans (by go_simp)
                 have f0 : w2.cell? ⟨W.heap.size + 1, 0, none⟩ = some (.int .i64 xd) := (hk1.cell (by simp)).trans (by go_simp)
                 clear hk0 hk1
                 have hs : SpanAt w2 (W.heap.size + 1 + 1) 0 0 := SpanAt.below (span_third _ _ _ _ _) hb2
                 have z0 := hs.frozen 0
                 have z1 := hs.frozen 1
                 obtain ⟨s0, s1⟩ := hs.cell
                 have lb := hs.lt
                 have lb0 : W.heap.size < w2.heap.size := by omega
                 have lb1 : W.heap.size + 1 < w2.heap.size := by omega
                 have hbw := (HBB.out _ _ _).trans (hb2.mono (HBB.out _ _ _).size)
                 have HS := Lib.hid hs
                 have HB2 := Lib.hid hbw
                 clear hb2 hs hbw)
    refine bodyPost_ret (v := spanV U V) (results_spanI rfl rfl ?_) rfl ⟨rfl, ?_⟩
    · exact (HS.out.set _ _).below ((Below.refl _ _).alloc (Nat.le_refl _) _)
    · exact ((HB2.out.setCell (by simp; omega) _).setCell (by simp; omega) _).alloc (by simpa using HB2.out.size) _
end Go.Proofs.YtlabfeofejemjaaGreat
end
section
namespace Go.Proofs.YtlabfeofejemjaaGreat
open Go.RowKit
def SaysInts (m : Nat) (l : Nat → Int) (W : World) (e : Ending) (w' : World) : Prop := ∃ (LA : Option Addr) (lc : Nat), e = .returned (.slice LA m lc) ∧ m ≤ lc ∧ IntsAt w' LA m l ∧ Below W.heap.size W w'
theorem UpTo_any (n : Nat) (W : World) (hn : n ≤ 20) : CallsIn Fc 0 Tryz.prog 22 #[.int .i64 n] W (SaysInts n (fun k => (k : Int)) W) := by
  obtain ⟨i0, hi, hz0, hz1, hz2⟩ := info_parts i3
  have HI := Lib.hid hi
  have HZ0 := Lib.hid hz0
  have HZ1 := Lib.hid hz1
  have HZ2 := Lib.hid hz2
  clear hi hz0 hz1 hz2
  gi_enter Tryz.func22, Tryz.ntmps22
  gi_wp2
  gi_loopw [3, 4] (fun sl i wr => ∃ k : Nat, k ≤ n ∧ i = .int .i64 k ∧ wr.ownsRow W.heap.size 3 1 sl (List.range k).length ((List.range k).map intV) ∧ Below W.heap.size W wr) (fun _ i _ => n - (intOf i).toNat)
  case atStart => exact ⟨0, by omega, rfl, ⟨rfl, .inl ⟨rfl, rfl⟩⟩, Below.refl _ _⟩
  case round =>
    obtain ⟨k, hk, rfl, ho, hb⟩ := hrel
    have HO := Lib.hid ho
    have HB := Lib.hid hb
    have hs := hb.size
    clear ho hb
    by_cases hlt : k < n
    · gi_wp2_with (gi_at_builtin; refine wpListIn_append_own _ rfl _ _ 36 rfl W.heap.size 3 i0 (.int .i64 0) 1 8 u30 HI.out HZ0.out HZ1.out HZ2.out rfl (by decide) _ _ _ rfl (HO.out.alloc _) ⟨wr.heap.size, 0, none⟩ 1 1 [intV k] rfl rfl (cells_new _ _ _) (by simp [Value.oneCell']) (by simp [maxLen]; omega) (by simp; omega) (by simp; omega) ?_; intro v' w4 hown4 hg4 hnil4)
      have hx4 := HO.out.alloc (.cells #[intV k] 3)
      go_roundw
      case rel =>
        refine ⟨k + 1, by omega, by go_num, ?_, (HB.out.alloc (by omega) _).grown hg4 (by simp; omega) (fun g hg => (hx4.lt g hg).1)⟩
        rw [List.range_succ]
        simpa using hown4
      case measure => simp [intOf]; omega
    · obtain rfl : k = n := by omega
      obtain ⟨LA, lc, rfl, h1, h2⟩ := ints_own HO.out
      have H2 := Lib.hid h2
      simp only [List.length_range] at h1
      clear h2
      gi_wp2
      go_ret
      refine ⟨LA, lc, by simp, h1, ?_, HB.out⟩
      have := H2.out
      simp only [List.length_range] at this
      intro j hj
      obtain ⟨b, o, e, hc⟩ := this j hj
      refine ⟨b, o, e, ?_⟩
      rw [hc]
      simp [hj]
abbrev sel (sh : Nat → Sh) (l : Nat → Nat) : Nat → Sh := fun k => sh (l k)
theorem SpanAt_any (r : Rl) (A : Option Addr) (n c : Nat) (sh : Nat → Sh) (LA : Option Addr) (m lc : Nat) (l : Nat → Nat) (d : Int) (W : World) (hc : n ≤ c) (hm : m ≤ 20) (hm0 : 0 < m) (hmc : m ≤ lc) (h0 : 0 ≤ d) (h1 : d ≤ 90) (hok : Hid (CardOk r sh n)) (hsh : Hid (ShotsAt W A n sh)) (hl : Hid (∀ k, k < m → l k < n)) (hi : Hid (IntsAt W LA m fun k => (l k : Int))) :
    CallsIn Fc 0 Tryz.prog 61 #[cardV r A n c, .slice LA m lc, .int .i64 d] W (SaysSpan (bU r (sel sh l) d m) (bV r (sel sh l) d m) W) := by
  have hn := hok.out.count
  have hcall := fun k (hk : k < n) w => From_any r (sh k) d w h0 h1 (Lib.hid hok.out.rule) (Lib.hid (hok.out.each k hk))
  have HC := Lib.hid hcall
  clear hcall
  have hone : bU r (sel sh l) d 1 = reachU r (sh (l 0)) d ∧ bV r (sel sh l) d 1 = reachV r (sh (l 0)) d := by
    have := reach_bounds hok.out.rule (hok.out.each (l 0) (hl.out 0 hm0)) h0 h1
    simp only [bU, bV, sel]
    omega
  have HONE := Lib.hid hone
  clear hone
  obtain ⟨b, o, rfl, hy0⟩ := hsh.out (l 0) (hl.out 0 hm0)
  obtain ⟨bl, ol, rfl, hq0⟩ := hi.out 0 hm0
  have HY0 := Lib.hid hy0
  have HQ0 := Lib.hid hq0
  clear hy0 hq0
  gi_enter Tryz.func61, Tryz.ntmps61
  gi_wp2
  generalize hW2 : (W.alloc (.cells #[.int .i64 r.ls, .int .i64 r.ms, .int .i64 r.wd, .int .i64 r.lt, .slice (some ⟨b, o, none⟩) n c] 26)).alloc (.cells #[.int .i64 0, .int .i64 0] 29) = W2 at *
  have hb2 : Below W.heap.size W W2 := by rw [← hW2]; exact ((Below.refl _ _).alloc (Nat.le_refl _) _).alloc (by simp) _
  have hcb : Below (W.heap.size + 1) (W.alloc (.cells #[.int .i64 r.ls, .int .i64 r.ms, .int .i64 r.wd, .int .i64 r.lt, .slice (some ⟨b, o, none⟩) n c] 26)) W2 := by rw [← hW2]; exact (Below.refl _ _).alloc (by simp) _
  obtain ⟨e0, e1, e2, e3, e4⟩ := box_cells hcb
  have s1 : SpanAt W2 (W.heap.size + 1) 0 0 := by rw [← hW2]; have := span_new (W.alloc (.cells #[.int .i64 r.ls, .int .i64 r.ms, .int .i64 r.wd, .int .i64 r.lt, .slice (some ⟨b, o, none⟩) n c] 26)) 0 0; simpa using this
  clear hW2 hcb
  have HB2 := Lib.hid hb2
  have HE := Lib.hid (And.intro e0 (And.intro e1 (And.intro e2 (And.intro e3 e4))))
  have HS1 := Lib.hid s1
  clear hb2 e0 e1 e2 e3 e4 s1
  have hk0 := hl.out 0 hm0
  refine wpIn_region_O 11 12 7 [some (9, .pointer (some ⟨W.heap.size, 0, none⟩)), some (10, ruleV r), some (11, .pointer (some ⟨W.heap.size, 4, none⟩)), some (12, .slice (some ⟨b, o, none⟩) n c), some (13, .slice (some ⟨bl, ol, none⟩) m lc), some (14, .pointer (some ⟨bl, ol, none⟩)), some (15, .int .i64 (l 0)), some (16, .pointer (some ⟨b, o + l 0 * 5, none⟩)), some (17, shV (sh (l 0))), some (18, .int .i64 d), some (19, spanV (reachU r (sh (l 0)) d) (reachV r (sh (l 0)) d)), none, none]
    (I := fun w => Below W2.heap.size W2 w) (lo := W2.heap.size) (z := 41) (u1 := reachU r (sh (l 0)) d) (v1 := reachV r (sh (l 0)) d) (by kernel_rfl) (by kernel_rfl) (by decide) (by decide) (by decide) rfl rfl rfl (by kernel_rfl) (by kernel_rfl) (by omega) (by kernel_rfl) rfl rfl
    (fun w h => h.size) (fun w x h => h.alloc h.size _) (fun w p j x h hp => h.setCell hp _) (Below.refl _ _).drew ?_ ?_ ?_ ?_
  · intro j a w hj hj1 hj2 hd hz hold hf hI
    have HI := Lib.hid hI
    obtain ⟨c0, c1, c2, c3, c4⟩ := HE.out
    have c0 := Below.old hI c0
    have c1 := Below.old hI c1
    have c2 := Below.old hI c2
    have c3 := Below.old hI c3
    have c4 := Below.old hI c4
    have hbw := HB2.out.trans (hI.mono HB2.out.size)
    obtain ⟨x0, x1, x2, x3, x4⟩ := HY0.out.below hbw
    have q0 := Below.old hbw HQ0.out
    simp only [Nat.add_zero] at q0
    clear hI hbw
    have s1 := at_slot hz (hold 1 (by kernel_rfl) (by omega)) (by omega)
    have s2 := at_slot hz (hold 2 (by kernel_rfl) (by omega)) (by omega)
    have s3 := at_slot hz (hold 3 (by kernel_rfl) (by omega)) (by omega)
    clear hold
    have hjs : j = 0 ∨ j = 1 ∨ j = 2 ∨ j = 3 ∨ j = 4 ∨ j = 5 ∨ j = 6 ∨ j = 7 ∨ j = 8 ∨ j = 9 ∨ j = 10 := by have : j < 13 := hj; omega
    rcases hjs with rfl | rfl | rfl | rfl | rfl | rfl | rfl | rfl | rfl | rfl | rfl
    · refine wpOpIn_step rfl fun K hK => ?_
      go_simp
      exact hK _ _ ⟨_, _, rfl, rfl, rfl, HI.out, Below.refl _ _⟩
    · have f9 := at_slot hz (hf 0 9 _ (by kernel_rfl) rfl) (by omega)
      refine wpOpIn_step rfl fun K hK => ?_
      go_simp
      exact hK _ _ ⟨_, _, rfl, rfl, rfl, HI.out, Below.refl _ _⟩
    · refine wpOpIn_step rfl fun K hK => ?_
      go_simp
      exact hK _ _ ⟨_, _, rfl, rfl, rfl, HI.out, Below.refl _ _⟩
    · have f11 := at_slot hz (hf 2 11 _ (by kernel_rfl) rfl) (by omega)
      refine wpOpIn_step rfl fun K hK => ?_
      go_simp
      exact hK _ _ ⟨_, _, rfl, rfl, rfl, HI.out, Below.refl _ _⟩
    · refine wpOpIn_step rfl fun K hK => ?_
      go_simp
      exact hK _ _ ⟨_, _, rfl, rfl, rfl, HI.out, Below.refl _ _⟩
    · have f13 := at_slot hz (hf 4 13 _ (by kernel_rfl) rfl) (by omega)
      refine wpOpIn_step rfl fun K hK => ?_
      go_simp
      exact hK _ _ ⟨_, _, rfl, rfl, rfl, HI.out, Below.refl _ _⟩
    · have f14 := at_slot hz (hf 5 14 _ (by kernel_rfl) rfl) (by omega)
      refine wpOpIn_step rfl fun K hK => ?_
      go_simp
      exact hK _ _ ⟨_, _, rfl, rfl, rfl, HI.out, Below.refl _ _⟩
    · have f12 := at_slot hz (hf 3 12 _ (by kernel_rfl) rfl) (by omega)
      have f15 := at_slot hz (hf 6 15 _ (by kernel_rfl) rfl) (by omega)
      refine wpOpIn_step rfl fun K hK => ?_
      go_simp
      exact hK _ _ ⟨_, _, rfl, rfl, rfl, HI.out, Below.refl _ _⟩
    · have f16 := at_slot hz (hf 7 16 _ (by kernel_rfl) rfl) (by omega)
      refine wpOpIn_step rfl fun K hK => ?_
      go_simp
      exact hK _ _ ⟨_, _, rfl, rfl, rfl, HI.out, Below.refl _ _⟩
    · refine wpOpIn_step rfl fun K hK => ?_
      go_simp
      exact hK _ _ ⟨_, _, rfl, rfl, rfl, HI.out, Below.refl _ _⟩
    · have f10 := at_slot hz (hf 1 10 _ (by kernel_rfl) rfl) (by omega)
      have f17 := at_slot hz (hf 8 17 _ (by kernel_rfl) rfl) (by omega)
      have f18 := at_slot hz (hf 9 18 _ (by kernel_rfl) rfl) (by omega)
      refine wpOpIn_step rfl fun K hK => ?_
      go_simp
      refine (HC.out _ hk0 w).mono ?_
      rintro e w' ⟨rfl, hb'⟩
      exact hK _ _ ⟨_, _, rfl, rfl, rfl, HI.out.trans (hb'.mono HI.out.size), hb'⟩
  · intro a w hd hz
    refine wpOpIn_step rfl fun K hK => ?_
    go_simp
    exact hK _ _ ⟨rfl, rfl, rfl⟩
  · intro a w p u v hd hz hp hs hf
    have f7 := at_slot hz hp (by omega)
    have f19 := at_slot hz (hf 10 19 _ (by kernel_rfl) rfl) (by omega)
    have z0 := hs.frozen 0
    have z1 := hs.frozen 1
    obtain ⟨y0, y1⟩ := hs.cell
    refine wpOpIn_step rfl fun K hK => ?_
    go_simp
    exact hK _ _ ⟨hd, rfl, rfl⟩
  · intro w4 p hI hp hs
    have HB4 := Lib.hid (HB2.out.trans (hI.mono HB2.out.size))
    have HI4 := Lib.hid hI
    rw [← HONE.out.1, ← HONE.out.2] at hs
    have HS4 := Lib.hid hs
    clear hI hs
    have hW : W.heap.size + 1 < W2.heap.size := HS1.out.lt
    simp only [List.filterMap_cons, List.filterMap_nil, List.foldl_cons, List.foldl_nil, List.setIfInBounds_toArray, List.set_cons_succ, List.set_cons_zero]
    gi_wp2
    gi_loopw [8] (fun iv wr => ∃ k : Nat, 1 ≤ k ∧ k ≤ m ∧ iv = .int .i64 k ∧ Below W2.heap.size W2 wr ∧ SpanAt wr p (bU r (sel sh l) d k) (bV r (sel sh l) d k)) (fun iv _ => m - (intOf iv).toNat)
    case atStart => exact ⟨1, Nat.le_refl _, hm0, rfl, HI4.out, HS4.out⟩
    case round =>
      obtain ⟨k, hk1, hk, rfl, hb, hs⟩ := hrel
      have HBW := Lib.hid (HB2.out.trans (hb.mono HB2.out.size))
      have HB := Lib.hid hb
      have HS := Lib.hid hs
      clear hb hs
      by_cases hlt : k < m
      · have hkl := hl.out k hlt
        obtain ⟨b', o', e', hy⟩ := hsh.out (l k) hkl
        cases e'
        obtain ⟨bl', ol', e', hq⟩ := hi.out k hlt
        cases e'
        have HY := Lib.hid hy
        have HQ := Lib.hid hq
        clear hy hq
        gi_wp2
        refine wpIn_region_S 14 [0, 1, 2, 3, 4, 5, 6, 7, 8, 9, 10, 11, 12, 13] [some (26, spanV (bU r (sel sh l) d k) (bV r (sel sh l) d k)), some (27, .pointer (some ⟨W.heap.size, 0, none⟩)), some (28, ruleV r), some (29, .pointer (some ⟨W.heap.size, 4, none⟩)), some (30, .slice (some ⟨b, o, none⟩) n c), some (31, .slice (some ⟨bl, ol, none⟩) m lc), some (32, .int .i64 k), some (33, .pointer (some ⟨bl, ol + k, none⟩)), some (34, .int .i64 (l k)), some (35, .pointer (some ⟨b, o + l k * 5, none⟩)), some (36, shV (sh (l k))), some (37, .int .i64 d), some (38, spanV (reachU r (sh (l k)) d) (reachV r (sh (l k)) d)), some (39, spanV (bU r (sel sh l) d (k + 1)) (bV r (sel sh l) d (k + 1))), none]
          (I := fun b w => if b then SpanAt w p (bU r (sel sh l) d (k + 1)) (bV r (sel sh l) d (k + 1)) ∧ Below W2.heap.size W2 w else Below wr.heap.size wr w) (z := 41) (by kernel_rfl) (by kernel_rfl) (by decide) rfl rfl (by kernel_rfl) (by kernel_rfl) (by kernel_rfl) rfl rfl (Below.refl _ _).drew ?_ ?_ ?_
        · intro bb j a w hj hje hp' hd hz hold hf hI
          have h15 : j < 15 := hj
          obtain rfl := hp' (by have : j = 0 ∨ j = 1 ∨ j = 2 ∨ j = 3 ∨ j = 4 ∨ j = 5 ∨ j = 6 ∨ j = 7 ∨ j = 8 ∨ j = 9 ∨ j = 10 ∨ j = 11 ∨ j = 12 ∨ j = 13 := by omega
                                rcases this with rfl | rfl | rfl | rfl | rfl | rfl | rfl | rfl | rfl | rfl | rfl | rfl | rfl | rfl <;> rfl)
          replace hI : Below wr.heap.size wr w := hI
          have HI := Lib.hid hI
          obtain ⟨c0, c1, c2, c3, c4⟩ := HE.out
          have hb2 := HB.out.trans (hI.mono HB.out.size)
          have c0 := Below.old hb2 c0
          have c1 := Below.old hb2 c1
          have c2 := Below.old hb2 c2
          have c3 := Below.old hb2 c3
          have c4 := Below.old hb2 c4
          have hbw := HBW.out.trans (hI.mono HBW.out.size)
          obtain ⟨x0, x1, x2, x3, x4⟩ := HY.out.below hbw
          have q0 := Below.old hbw HQ.out
          obtain ⟨p0, p1⟩ := (HS.out.below hI).cell
          clear hI hbw hb2 h15 hp'
          have s1 := at_slot hz (hold 1 (by kernel_rfl)) (by omega)
          have s2 := at_slot hz (hold 2 (by kernel_rfl)) (by omega)
          have s3 := at_slot hz (hold 3 (by kernel_rfl)) (by omega)
          have s7 := at_slot hz (hold 7 (by kernel_rfl)) (by omega)
          have s8 := at_slot hz (hold 8 (by kernel_rfl)) (by omega)
          clear hold
          have hjs : j = 0 ∨ j = 1 ∨ j = 2 ∨ j = 3 ∨ j = 4 ∨ j = 5 ∨ j = 6 ∨ j = 7 ∨ j = 8 ∨ j = 9 ∨ j = 10 ∨ j = 11 ∨ j = 12 ∨ j = 13 := by have : j < 15 := hj; omega
          rcases hjs with rfl | rfl | rfl | rfl | rfl | rfl | rfl | rfl | rfl | rfl | rfl | rfl | rfl | rfl
          · refine wpOpIn_step rfl fun K hK => ?_
            go_simp
            exact hK _ _ ⟨_, _, rfl, rfl, rfl, HI.out⟩
          · refine wpOpIn_step rfl fun K hK => ?_
            go_simp
            exact hK _ _ ⟨_, _, rfl, rfl, rfl, HI.out⟩
          · have f27 := at_slot hz (hf 1 27 _ (by kernel_rfl) rfl) (by omega)
            refine wpOpIn_step rfl fun K hK => ?_
            go_simp
            exact hK _ _ ⟨_, _, rfl, rfl, rfl, HI.out⟩
          · refine wpOpIn_step rfl fun K hK => ?_
            go_simp
            exact hK _ _ ⟨_, _, rfl, rfl, rfl, HI.out⟩
          · have f29 := at_slot hz (hf 3 29 _ (by kernel_rfl) rfl) (by omega)
            refine wpOpIn_step rfl fun K hK => ?_
            go_simp
            exact hK _ _ ⟨_, _, rfl, rfl, rfl, HI.out⟩
          · refine wpOpIn_step rfl fun K hK => ?_
            go_simp
            exact hK _ _ ⟨_, _, rfl, rfl, rfl, HI.out⟩
          · refine wpOpIn_step rfl fun K hK => ?_
            go_simp
            exact hK _ _ ⟨_, _, rfl, rfl, rfl, HI.out⟩
          · have f31 := at_slot hz (hf 5 31 _ (by kernel_rfl) rfl) (by omega)
            have f32 := at_slot hz (hf 6 32 _ (by kernel_rfl) rfl) (by omega)
            refine wpOpIn_step rfl fun K hK => ?_
            go_simp
            exact hK _ _ ⟨_, _, rfl, rfl, rfl, HI.out⟩
          · have f33 := at_slot hz (hf 7 33 _ (by kernel_rfl) rfl) (by omega)
            refine wpOpIn_step rfl fun K hK => ?_
            go_simp
            exact hK _ _ ⟨_, _, rfl, rfl, rfl, HI.out⟩
          · have f30 := at_slot hz (hf 4 30 _ (by kernel_rfl) rfl) (by omega)
            have f34 := at_slot hz (hf 8 34 _ (by kernel_rfl) rfl) (by omega)
            refine wpOpIn_step rfl fun K hK => ?_
            go_simp
            exact hK _ _ ⟨_, _, rfl, rfl, rfl, HI.out⟩
          · have f35 := at_slot hz (hf 9 35 _ (by kernel_rfl) rfl) (by omega)
            refine wpOpIn_step rfl fun K hK => ?_
            go_simp
            exact hK _ _ ⟨_, _, rfl, rfl, rfl, HI.out⟩
          · refine wpOpIn_step rfl fun K hK => ?_
            go_simp
            exact hK _ _ ⟨_, _, rfl, rfl, rfl, HI.out⟩
          · have f28 := at_slot hz (hf 2 28 _ (by kernel_rfl) rfl) (by omega)
            have f36 := at_slot hz (hf 10 36 _ (by kernel_rfl) rfl) (by omega)
            have f37 := at_slot hz (hf 11 37 _ (by kernel_rfl) rfl) (by omega)
            refine wpOpIn_step rfl fun K hK => ?_
            go_simp
            refine (HC.out _ hkl w).mono ?_
            rintro e w' ⟨rfl, hb'⟩
            exact hK _ _ ⟨_, _, rfl, rfl, rfl, HI.out.trans (hb'.mono HI.out.size)⟩
          · have f26 := at_slot hz (hf 0 26 _ (by kernel_rfl) rfl) (by omega)
            have f38 := at_slot hz (hf 12 38 _ (by kernel_rfl) rfl) (by omega)
            refine wpOpIn_step rfl fun K hK => ?_
            go_simp
            refine (Both_any _ _ _ _ w).mono ?_
            rintro e w' ⟨rfl, hb'⟩
            exact hK _ _ ⟨_, _, rfl, rfl, rfl, HI.out.trans (hb'.mono HI.out.size)⟩
        · intro a w hd hz hold hf hI
          replace hI : Below wr.heap.size wr w := hI
          have s7 := at_slot hz (hold 7 (by kernel_rfl)) (by omega)
          have f39 := at_slot hz (hf 13 39 _ (by kernel_rfl) rfl) (by omega)
          have hs := HS.out.below hI
          have z0 := hs.frozen 0
          have z1 := hs.frozen 1
          obtain ⟨p0, p1⟩ := hs.cell
          have HS5 := Lib.hid hs
          have HB5 := Lib.hid (HB.out.trans (hI.mono HB.out.size))
          clear hI hs hold
          refine wpOpIn_step rfl fun K hK => ?_
          go_simp
          exact hK _ _ ⟨hd, rfl, HS5.out.set _ _, (HB5.out.setCell hp _).setCell hp _⟩
        · intro w hI
          replace hI : SpanAt w p (bU r (sel sh l) d (k + 1)) (bV r (sel sh l) d (k + 1)) ∧ Below W2.heap.size W2 w := hI
          have HI := Lib.hid hI
          clear hI
          simp only [List.filterMap_cons, List.filterMap_nil, List.foldl_cons, List.foldl_nil, List.setIfInBounds_toArray, List.set_cons_succ, List.set_cons_zero]
          gi_wp2
          go_roundw
          case rel => exact ⟨k + 1, by omega, by omega, by go_num, HI.out.2, HI.out.1⟩
          case measure => simp [intOf]; omega
      · obtain rfl : k = m := by omega
        have hq := HS1.out.below HB.out
        have z0 := hq.frozen 0
        have z1 := hq.frozen 1
        obtain ⟨q0, q1⟩ := hq.cell
        obtain ⟨p0, p1⟩ := HS.out.cell
        have HQ := Lib.hid hq
        clear hq
        gi_wp2
        refine bodyPost_ret (v := spanV _ _) (results_spanI rfl rfl (HQ.out.set _ _)) rfl ⟨rfl, ?_⟩
        exact (HBW.out.setCell (by simp) _).setCell (by simp) _
end Go.Proofs.YtlabfeofejemjaaGreat
end
