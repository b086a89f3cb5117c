/- A part of the proof that ArrowClashes returns true for every input: no further condition. -/
import Derived.Test.YtlabfeofejemjaaGreatGp0
set_option linter.unusedSimpArgs false
set_option linter.unusedVariables false
set_option maxHeartbeats 4000000
set_option maxRecDepth 100000
section
namespace Go.Proofs.YtlabfeofejemjaaGreat
open Go.RowKit
def CheckIs (v : Value) (f : Int) (w : World) : Prop :=
  (∃ (i : Nat) (sv : Value), (i = 74 ∨ i = 75 ∨ i = 76 ∨ i = 46 ∨ i = 57 ∨ i = 58) ∧ v = .func (.func i) #[sv] #[] ∧ ∀ w', Below w.heap.size w w' → CallsIn Fc 0 Tryz.prog i #[sv] w' (SaysInt f w')) ∨
  (∃ p q : Nat, v = .func (.func 77) #[] #[ptr p, ptr q] ∧ ∀ w', Below w.heap.size w w' → CallsIn Fc 0 Tryz.prog 77 #[ptr p, ptr q] w' (SaysInt f w')) ∨
  (∃ p q r : Nat, v = .func (.func 84) #[] #[ptr p, ptr q, ptr r] ∧ ∀ w', Below w.heap.size w w' → CallsIn Fc 0 Tryz.prog 84 #[ptr p, ptr q, ptr r] w' (SaysInt f w')) ∨
  (∃ p q r : Nat, v = .func (.func 131) #[] #[ptr p, ptr q, ptr r] ∧ ∀ w', Below w.heap.size w w' → CallsIn Fc 0 Tryz.prog 131 #[ptr p, ptr q, ptr r] w' (SaysInt f w'))
theorem CheckIs.below {v : Value} {f : Int} {w w' : World} (hb : Below w.heap.size w w') (h : CheckIs v f w) : CheckIs v f w' := by
  rcases h with ⟨i, sv, hi, rfl, h⟩ | ⟨p, q, rfl, h⟩ | ⟨p, q, r, rfl, h⟩ | ⟨p, q, r, rfl, h⟩
  · exact .inl ⟨i, sv, hi, rfl, fun w1 h1 => h w1 (hb.trans (h1.mono hb.size))⟩
  · exact .inr (.inl ⟨p, q, rfl, fun w1 h1 => h w1 (hb.trans (h1.mono hb.size))⟩)
  · exact .inr (.inr (.inl ⟨p, q, r, rfl, fun w1 h1 => h w1 (hb.trans (h1.mono hb.size))⟩))
  · exact .inr (.inr (.inr ⟨p, q, r, rfl, fun w1 h1 => h w1 (hb.trans (h1.mono hb.size))⟩))
def SaysFoul (F : Nat → Int) (n : Nat) (w : World) (e : Ending) (w' : World) : Prop := ∃ f : Int, e = .returned (.int .i64 f) ∧ f = firstZ F n ∧ Below w.heap.size w w'
theorem firstFoul_any (b n cap : Nat) (F : Nat → Int) (W : World) (hn : n ≤ 100) (hall : Hid (∀ k, k < n → ∃ v, W.cell? ⟨b, k, none⟩ = some v ∧ CheckIs v (F k) W)) :
    CallsIn Fc 0 Tryz.prog 45 #[.slice (some ⟨b, 0, none⟩) n cap] W (SaysFoul F n W) := by
  gi_enter Tryz.func45, Tryz.ntmps45
  gi_wp2
  gi_loopw [8] (fun i wr => ∃ k : Nat, k ≤ n ∧ i = .int .i64 k ∧ Below W.heap.size W wr ∧ ∀ j, j < k → F j = 0) (fun i _ => n - (intOf i).toNat)
  case atStart => exact ⟨0, Nat.zero_le _, rfl, Below.refl _ _, fun j h => by omega⟩
  case round =>
    obtain ⟨k, hk, rfl, hb, hz⟩ := hrel
    by_cases hlt : k < n
    · obtain ⟨v, hv, hf⟩ := hall.out k hlt
      have hc := Below.old hb hv
      clear hv
      by_cases h0 : F k = 0
      · have hz' : ∀ j, j < k + 1 → F j = 0 := fun j hj => by
          rcases Nat.lt_succ_iff_lt_or_eq.1 hj with h | rfl
          · exact hz j h
          · exact h0
        have HZ := Lib.hid hz'
        clear hz hz'
        rw [h0] at hf
        clear h0
        rcases hf with ⟨i, sv, hi, rfl, hcall⟩ | ⟨p, q, rfl, hcall⟩ | ⟨p, q, r, rfl, hcall⟩ | ⟨p, q, r, rfl, hcall⟩
        · have hcall' := hcall _ hb
          clear hcall
          rcases hi with rfl | rfl | rfl | rfl | rfl | rfl
          all_goals
            gi_wp2_with (first
              | (gi_at_call 74; refine hcall'.mono ?_; rintro e w' ⟨rfl, hb1⟩)
              | (gi_at_call 75; refine hcall'.mono ?_; rintro e w' ⟨rfl, hb1⟩)
              | (gi_at_call 76; refine hcall'.mono ?_; rintro e w' ⟨rfl, hb1⟩)
              | (gi_at_call 46; refine hcall'.mono ?_; rintro e w' ⟨rfl, hb1⟩)
              | (gi_at_call 57; refine hcall'.mono ?_; rintro e w' ⟨rfl, hb1⟩)
              | (gi_at_call 58; refine hcall'.mono ?_; rintro e w' ⟨rfl, hb1⟩))
            go_roundw
            case rel => exact ⟨k + 1, by omega, by go_num, hb.trans (hb1.mono hb.size), HZ.out⟩
            case measure => simp [intOf]; omega
        · have hcall' := hcall _ hb
          clear hcall
          gi_wp2_with (gi_at_call 77; refine hcall'.mono ?_; rintro e w' ⟨rfl, hb1⟩)
          go_roundw
          case rel => exact ⟨k + 1, by omega, by go_num, hb.trans (hb1.mono hb.size), HZ.out⟩
          case measure => simp [intOf]; omega
        · have hcall' := hcall _ hb
          clear hcall
          gi_wp2_with (gi_at_call 84; refine hcall'.mono ?_; rintro e w' ⟨rfl, hb1⟩)
          go_roundw
          case rel => exact ⟨k + 1, by omega, by go_num, hb.trans (hb1.mono hb.size), HZ.out⟩
          case measure => simp [intOf]; omega
        · have hcall' := hcall _ hb
          clear hcall
          gi_wp2_with (gi_at_call 131; refine hcall'.mono ?_; rintro e w' ⟨rfl, hb1⟩)
          go_roundw
          case rel => exact ⟨k + 1, by omega, by go_num, hb.trans (hb1.mono hb.size), HZ.out⟩
          case measure => simp [intOf]; omega
      · have hno : firstZ F n = F k := firstZ_at hz h0 hlt
        have HN := Lib.hid hno
        clear hno hz
        generalize F k = fk at *
        rcases hf with ⟨i, sv, hi, rfl, hcall⟩ | ⟨p, q, rfl, hcall⟩ | ⟨p, q, r, rfl, hcall⟩ | ⟨p, q, r, rfl, hcall⟩
        · have hcall' := hcall _ hb
          clear hcall
          rcases hi with rfl | rfl | rfl | rfl | rfl | rfl
          all_goals
            gi_wp2_with (first
              | (gi_at_call 74; refine hcall'.mono ?_; rintro e w' ⟨rfl, hb1⟩)
              | (gi_at_call 75; refine hcall'.mono ?_; rintro e w' ⟨rfl, hb1⟩)
              | (gi_at_call 76; refine hcall'.mono ?_; rintro e w' ⟨rfl, hb1⟩)
              | (gi_at_call 46; refine hcall'.mono ?_; rintro e w' ⟨rfl, hb1⟩)
              | (gi_at_call 57; refine hcall'.mono ?_; rintro e w' ⟨rfl, hb1⟩)
              | (gi_at_call 58; refine hcall'.mono ?_; rintro e w' ⟨rfl, hb1⟩))
            go_ret
            exact ⟨_, rfl, HN.out.symm, hb.trans (hb1.mono hb.size)⟩
        · have hcall' := hcall _ hb
          clear hcall
          gi_wp2_with (gi_at_call 77; refine hcall'.mono ?_; rintro e w' ⟨rfl, hb1⟩)
          go_ret
          exact ⟨_, rfl, HN.out.symm, hb.trans (hb1.mono hb.size)⟩
        · have hcall' := hcall _ hb
          clear hcall
          gi_wp2_with (gi_at_call 84; refine hcall'.mono ?_; rintro e w' ⟨rfl, hb1⟩)
          go_ret
          exact ⟨_, rfl, HN.out.symm, hb.trans (hb1.mono hb.size)⟩
        · have hcall' := hcall _ hb
          clear hcall
          gi_wp2_with (gi_at_call 131; refine hcall'.mono ?_; rintro e w' ⟨rfl, hb1⟩)
          go_ret
          exact ⟨_, rfl, HN.out.symm, hb.trans (hb1.mono hb.size)⟩
    · gi_wp2
      go_ret
      exact ⟨0, rfl, (firstZ_zero.2 fun j hj => hz j (by omega)).symm, hb⟩
theorem Lim.exact {w : World} {v : Value} {n l m : Int} (h : Lim v n l m w) : CheckIs v (limZ n l m) w := by
  obtain ⟨p, q, r, rfl, hp, hq, hr⟩ := h
  exact .inr (.inr (.inl ⟨p, q, r, rfl, fun w' hb => limits1_any n l m p q r w' (Below.old hb hp.cell) (Below.old hb hq.cell) (Below.old hb hr.cell)⟩))
theorem Spn.is {w : World} {v : Value} {a b l m : Int} (h : Spn v a b l m w) : CheckIs v (outZ a b l m) w := by
  obtain ⟨p, q, r, rfl, hp, hq, hr⟩ := h
  exact .inr (.inr (.inr ⟨p, q, r, rfl, fun w' hb => spanLimits1_any a b l m p q r w' (Below.old hb hp.cell.1) (Below.old hb hp.cell.2) (Below.old hb hq.cell) (Below.old hb hr.cell)⟩))
inductive Role where
  | val (s : Nat) (v : Value)
  | chk (s : Nat) (f : Int)
  | row (s : Nat) (fs : List Int)
def Role.slot : Role → Nat
  | .val s _ => s
  | .chk s _ => s
  | .row s _ => s
def RowIs (g : Nat) (fs : List Int) (w : World) : Prop := ∀ i (h : i < fs.length), ∃ v, w.cell? ⟨g, i, none⟩ = some v ∧ CheckIs v fs[i] w
theorem RowIs.below {g : Nat} {fs : List Int} {w w' : World} (hb : Below w.heap.size w w') (h : RowIs g fs w) : RowIs g fs w' := fun i hi => by
  obtain ⟨v, h1, h2⟩ := h i hi
  exact ⟨v, Below.old hb h1, h2.below hb⟩
def Role.left (ρ : Option Role) (t t' : Array Value) (w : World) : Prop := match ρ with
  | some (.val s v) => t' = t.setIfInBounds s v
  | some (.chk s f) => ∃ v, t' = t.setIfInBounds s v ∧ CheckIs v f w
  | some (.row s fs) => ∃ g, t' = t.setIfInBounds s (.slice (some ⟨g, 0, none⟩) fs.length fs.length) ∧ RowIs g fs w
  | none => False
def Role.out (X : Nat → Value) : Role → Nat × Value
  | .val s v => (s, v)
  | .chk s _ => (s, X s)
  | .row s _ => (s, X s)
section
variable {F : Fence} {n : Nat} {P : Program} {ops : Array Oper} {Q : Exit → Act → World → Prop}
structure RK (ops : Array Oper) (R : List Role) (I : World → Prop) (z : Nat) (a0 : Act) (listed : Array Bool) (a : Act) (w : World) : Prop where
  defers : a.defers = []
  size : a.tmps.size = z
  old : ∀ s, (∀ x ∈ R, x.slot ≠ s) → a.eval (.tmp s) = a0.eval (.tmp s)
  inv : I w
  val : ∀ (j s : Nat) (v : Value), R[j]? = some (.val s v) → listed.getD j false = true → a.eval (.tmp s) = v
  chk : ∀ (j s : Nat) (f : Int), R[j]? = some (.chk s f) → listed.getD j false = true → CheckIs (a.eval (.tmp s)) f w
  row : ∀ (j s : Nat) (fs : List Int), R[j]? = some (.row s fs) → listed.getD j false = true → ∃ g, a.eval (.tmp s) = .slice (some ⟨g, 0, none⟩) fs.length fs.length ∧ RowIs g fs w
theorem wpIn_region_K (R : List Role) {I : World → Prop} {z : Nat} {a0 : Act} {id : Nat} {w : World} (hm : P.follows .mixedOrders = true) (hb : backB .any ops = true) (hlen : R.length = ops.size) (hnd : rowDst (R.map fun ρ => some ρ.slot) z z z = true) (hd : a0.defers = []) (hz : a0.tmps.size = z) (h0 : I { w with drawn := w.drawn + 1 })
    (hJ : ∀ j a w, j < ops.size → a.defers = [] → a.tmps.size = z → (∀ s, R.all (fun x => x.slot != s) = true → a.eval (.tmp s) = a0.eval (.tmp s)) →
      (∀ k s v, depB ops j k = true → R[k]? = some (.val s v) → a.eval (.tmp s) = v) → (∀ k s f, depB ops j k = true → R[k]? = some (.chk s f) → CheckIs (a.eval (.tmp s)) f w) → (∀ k s fs, depB ops j k = true → R[k]? = some (.row s fs) → ∃ g, a.eval (.tmp s) = .slice (some ⟨g, 0, none⟩) fs.length fs.length ∧ RowIs g fs w) → I w →
      wpOpIn F n P ops Q j (fun a' w' => a'.defers = [] ∧ I w' ∧ Below w.heap.size w w' ∧ Role.left R[j]? a.tmps a'.tmps w') a w)
    (hE : ∀ w X, I w → Q .normal { tmps := (R.map (Role.out X)).foldl (fun t x => t.setIfInBounds x.1 x.2) a0.tmps, defers := [] } w) : (Code.region id ops true).wpIn F n P Q a0 w := by
  have hK : ∀ {j : Nat} {ρ : Role}, R[j]? = some ρ → (R.map fun ρ => some ρ.slot)[j]? = some (some ρ.slot) := fun h => by rw [List.getElem?_map, h]; rfl
  have hkey : ∀ {j : Nat} {ρ : Role}, R[j]? = some ρ → ρ.slot < z ∧ ∀ i ρ', i ≠ j → R[i]? = some ρ' → ρ'.slot ≠ ρ.slot := fun h => by
    obtain ⟨_, _, q3, q4⟩ := rowDst_use hnd (hK h)
    exact ⟨q3, fun i ρ' hi h' e => q4 i hi (by rw [hK h', e])⟩
  have evs : ∀ (a a' : Act) (d : Nat) (v : Value), a'.tmps = a.tmps.setIfInBounds d v → (∀ s, s ≠ d → a'.eval (.tmp s) = a.eval (.tmp s)) ∧ (d < a.tmps.size → a'.eval (.tmp d) = v) := fun a a' d v h => by
    constructor
    · intro s hs
      simp only [Act.eval, h]
      simp [Ne.symm hs]
    · intro hd
      simp only [Act.eval, h]
      simp [hd]
  refine wpIn_region_J (J := RK ops R I z a0) hm hb ?_ (fun listed a w i hj hi => ?_) fun listed a w hj hall => ?_
  · have hno : ∀ i, (Array.replicate ops.size false).getD i false = true → False := fun i hl => by
      rw [Array.getD_eq_getD_getElem?] at hl
      rcases Nat.lt_or_ge i ops.size with h | h <;> simp [h] at hl
    exact ⟨hd, hz, fun _ _ => rfl, h0, fun j d v _ hl => (hno j hl).elim, fun j d v _ hl => (hno j hl).elim, fun j d v _ hl => (hno j hl).elim⟩
  · have his : i < ops.size := by
      obtain ⟨_, o, h3, _⟩ := mem_ready.1 hi
      exact (Array.getElem?_eq_some_iff.1 h3).1
    refine wpOpIn_mono (fun a' w' h => ?_) (hJ i a w his hj.defers hj.size (fun s hs => hj.old s fun x hx => by simpa using List.all_eq_true.1 hs x hx) (fun m s v hdep e => hj.val m s v e (dep hi hdep)) (fun m s v hdep e => hj.chk m s v e (dep hi hdep)) (fun m s v hdep e => hj.row m s v e (dep hi hdep)) hj.inv)
    obtain ⟨h1, h2, h3, h4⟩ := h
    have hil : i < R.length := by omega
    obtain ⟨ρ, hρ⟩ : ∃ ρ, R[i]? = some ρ := ⟨R[i], by simp [hil]⟩
    obtain ⟨hsz, hoth⟩ := hkey hρ
    rw [hρ] at h4
    obtain ⟨v, hv, hown⟩ : ∃ v, a'.tmps = a.tmps.setIfInBounds ρ.slot v ∧ (match ρ with | .val _ u => v = u | .chk _ f => CheckIs v f w' | .row _ fs => ∃ g, v = .slice (some ⟨g, 0, none⟩) fs.length fs.length ∧ RowIs g fs w') := by
      cases ρ with
      | val s u => exact ⟨u, h4, rfl⟩
      | chk s f => obtain ⟨v, q1, q2⟩ := h4; exact ⟨v, q1, q2⟩
      | row s fs => obtain ⟨g, q1, q2⟩ := h4; exact ⟨_, q1, g, rfl, q2⟩
    obtain ⟨e1, e2⟩ := evs a a' _ v hv
    have e2 := e2 (by rw [hj.size]; exact hsz)
    have key : ∀ j ρ', R[j]? = some ρ' → (listed.setIfInBounds i true).getD j false = true → (j = i ∧ ρ' = ρ ∧ a'.eval (.tmp ρ'.slot) = v) ∨ (j ≠ i ∧ listed.getD j false = true ∧ a'.eval (.tmp ρ'.slot) = a.eval (.tmp ρ'.slot)) := fun j ρ' hj' hl => by
      by_cases e : j = i
      · subst e
        rw [hρ] at hj'
        cases hj'
        exact .inl ⟨rfl, rfl, e2⟩
      · rw [gset (fun e' => e e'.symm)] at hl
        exact .inr ⟨e, hl, e1 _ (hoth j ρ' e hj')⟩
    refine ⟨h1, by rw [hv]; simpa using hj.size, fun s hs => ?_, h2, fun j s u hjd hl => ?_, fun j s f hjd hl => ?_, fun j s fs hjd hl => ?_⟩
    · rw [e1 s fun e => hs ρ (List.mem_iff_getElem?.2 ⟨i, hρ⟩) e.symm]; exact hj.old s hs
    · rcases key j _ hjd hl with ⟨_, rfl, q⟩ | ⟨_, hl', q⟩
      · exact q.trans hown
      · exact q.trans (hj.val j s u hjd hl')
    · rcases key j _ hjd hl with ⟨_, rfl, q⟩ | ⟨_, hl', q⟩
      · show CheckIs (a'.eval (.tmp s)) f w'
        rw [show a'.eval (.tmp s) = v from q]; exact hown
      · show CheckIs (a'.eval (.tmp s)) f w'
        rw [show a'.eval (.tmp s) = a.eval (.tmp s) from q]; exact (hj.chk j s f hjd hl').below h3
    · rcases key j _ hjd hl with ⟨_, rfl, q⟩ | ⟨_, hl', q⟩
      · obtain ⟨g, r1, r2⟩ := hown
        exact ⟨g, q.trans r1, r2⟩
      · obtain ⟨g, r1, r2⟩ := hj.row j s fs hjd hl'
        exact ⟨g, q.trans r1, r2.below h3⟩
  · have h1 := hE w (fun s => a.eval (.tmp s)) hj.inv
    have e0 : (R.map (Role.out fun s => a.eval (.tmp s))).foldl (fun (t : Array Value) (x : Nat × Value) => t.setIfInBounds x.1 x.2) a0.tmps = a.tmps := by
      refine fold_set a _ a0.tmps (by rw [hz, hj.size]) (fun x hx => ?_) fun s hs => (hj.old s fun ρ hρ => ?_).symm
      · obtain ⟨ρ, hρ, rfl⟩ := List.mem_map.1 hx
        obtain ⟨j, hj'⟩ := List.mem_iff_getElem?.1 hρ
        have hl := hall j (by rw [← hlen]; exact (List.getElem?_eq_some_iff.1 hj').1)
        cases ρ with
        | val s v => exact hj.val j s v hj' hl
        | chk s f => rfl
        | row s fs => rfl
      · have := hs (ρ.out fun s => a.eval (.tmp s)) (List.mem_map.2 ⟨ρ, hρ, rfl⟩)
        cases ρ <;> exact this
    rw [e0] at h1
    obtain ⟨tm, df⟩ := a
    have hdf := hj.defers
    simp only at hdf
    subst hdf
    exact h1
end
end Go.Proofs.YtlabfeofejemjaaGreat
end
section
namespace Go.Proofs.YtlabfeofejemjaaGreat
open Go.RowKit
theorem CheckIs.shape {v : Value} {f : Int} {w : World} (h : CheckIs v f w) : ∃ (i : Nat) (x y : Array Value), v = .func (.func i) x y := by
  rcases h with ⟨i, sv, _, rfl, _⟩ | ⟨p, q, rfl, _⟩ | ⟨p, q, r, rfl, _⟩ | ⟨p, q, r, rfl, _⟩ <;> exact ⟨_, _, _, rfl⟩
def firstL (fs : List Int) : Int := firstZ (fun i => fs.getD i 0) fs.length
theorem firstL_zero {fs : List Int} : firstL fs = 0 ↔ ∀ f ∈ fs, f = 0 := by
  unfold firstL
  rw [firstZ_zero]
  constructor
  · intro h f hf
    obtain ⟨i, hi, rfl⟩ := List.mem_iff_getElem.1 hf
    have := h i hi
    simpa [hi] using this
  · intro h k hk
    have := h fs[k] (List.getElem_mem hk)
    simpa [hk] using this
theorem foul_row (g : Nat) (fs : List Int) (w : World) (hn : fs.length ≤ 100) (h : RowIs g fs w) (m : Nat) (hm : m = fs.length) : CallsIn Fc 0 Tryz.prog 45 #[.slice (some ⟨g, 0, none⟩) m m] w (SaysInt (firstL fs) w) := by
  subst hm
  refine (firstFoul_any g fs.length fs.length (fun i => fs.getD i 0) w hn (Lib.hid fun k hk => ?_)).mono ?_
  · obtain ⟨v, h1, h2⟩ := h k hk
    refine ⟨v, h1, ?_⟩
    have : fs.getD k 0 = fs[k] := by simp [hk]
    rw [this]
    exact h2
  · rintro e w' ⟨f, rfl, rfl, hb⟩
    exact ⟨rfl, hb⟩
theorem limits_chk (n l m : Int) (w : World) : CallsIn Fc 0 Tryz.prog 60 #[.int .i64 n, .int .i64 l, .int .i64 m] w fun e w' => ∃ v, e = .returned v ∧ CheckIs v (limZ n l m) w' ∧ Below w.heap.size w w' :=
  (limits_any n l m w).mono fun e w' ⟨v, h1, h2, h3⟩ => ⟨v, h1, h2.exact, h3⟩
theorem spanLimits_chk (a b l m : Int) (w : World) : CallsIn Fc 0 Tryz.prog 111 #[.agg #[.int .i64 a, .int .i64 b], .int .i64 l, .int .i64 m] w fun e w' => ∃ v, e = .returned v ∧ CheckIs v (outZ a b l m) w' ∧ Below w.heap.size w w' :=
  (spanLimits_any a b l m w).mono fun e w' ⟨v, h1, h2, h3⟩ => ⟨v, h1, h2.is, h3⟩
theorem distance_chk (n : Int) (W : World) : CallsIn Fc 0 Tryz.prog 56 #[.int .i64 n] W fun e w' => ∃ v, e = .returned v ∧ CheckIs v (limZ n 0 90) w' ∧ Below W.heap.size W w' := by
  gi_enter Tryz.func56, Tryz.ntmps56
  gi_wp2_with (gi_at_call 60; refine (limits_chk n 0 90 _).mono ?_; rintro e w' ⟨v, rfl, hl, hb⟩; have HL := Lib.hid hl; have HB := Lib.hid hb; clear hl hb)
  go_ret
  exact ⟨_, rfl, HL.out, HB.out⟩
def ruleL (r : Rl) : List Int := [limZ r.ms 0 999, limZ r.ls 0 r.ms, limZ r.wd 0 999, limZ r.lt 0 999]
theorem ruleL_ok {r : Rl} : firstL (ruleL r) = 0 ↔ RlOk r := by
  rw [firstL_zero]
  simp only [ruleL, List.mem_cons, List.not_mem_nil, or_false, forall_eq_or_imp, forall_eq, limZ_zero]
  constructor
  · rintro ⟨h1, h2, h3, h4⟩
    exact ⟨h2.1, h2.2, h1.2, h3.1, h3.2, h4.1, h4.2⟩
  · intro h
    have := h.l0; have := h.l1
    exact ⟨⟨by omega, h.m1⟩, ⟨h.l0, h.l1⟩, ⟨h.w0, h.w1⟩, ⟨h.t0, h.t1⟩⟩
theorem checkRule_any (r : Rl) (A : Option Addr) (n c : Nat) (W : World) : CallsIn Fc 0 Tryz.prog 74 #[cardV r A n c] W (SaysInt (firstL (ruleL r)) W) := by
  obtain ⟨B, hB⟩ : ∃ B : Obj, B = .cells #[.int .i64 r.ls, .int .i64 r.ms, .int .i64 r.wd, .int .i64 r.lt, .slice A n c] 90 := ⟨_, rfl⟩
  gi_enter Tryz.func74, Tryz.ntmps74
  gi_wp2
  rw [← hB]
  refine wpIn_region_K (R := [.val 3 (.pointer (some ⟨W.heap.size, 0, none⟩)), .val 4 (.pointer (some ⟨W.heap.size, 0, none⟩)), .val 5 (.pointer (some ⟨W.heap.size, 1, none⟩)), .val 6 (.int .i64 r.ms), .chk 7 (limZ r.ms 0 999), .val 8 (.pointer (some ⟨W.heap.size, 0, none⟩)), .val 9 (.pointer (some ⟨W.heap.size, 0, none⟩)), .val 10 (.pointer (some ⟨W.heap.size, 0, none⟩)), .val 11 (.int .i64 r.ls), .val 12 (.pointer (some ⟨W.heap.size, 0, none⟩)), .val 13 (.pointer (some ⟨W.heap.size, 0, none⟩)), .val 14 (.pointer (some ⟨W.heap.size, 1, none⟩)), .val 15 (.int .i64 r.ms), .chk 16 (limZ r.ls 0 r.ms), .val 17 (.pointer (some ⟨W.heap.size, 0, none⟩)), .val 18 (.pointer (some ⟨W.heap.size, 0, none⟩)), .val 19 (.pointer (some ⟨W.heap.size, 2, none⟩)), .val 20 (.int .i64 r.wd), .chk 21 (limZ r.wd 0 999), .val 22 (.pointer (some ⟨W.heap.size, 0, none⟩)), .val 23 (.pointer (some ⟨W.heap.size, 0, none⟩)), .val 24 (.pointer (some ⟨W.heap.size, 3, none⟩)), .val 25 (.int .i64 r.lt), .chk 26 (limZ r.lt 0 999), .row 27 [limZ r.ms 0 999, limZ r.ls 0 r.ms, limZ r.wd 0 999, limZ r.lt 0 999], .val 28 (.int .i64 (firstL (ruleL r))), .val 2 (.int .i64 (firstL (ruleL r)))])
    (I := fun w => Below (W.heap.size + 1) (W.alloc B) w) (z := 29) (by kernel_rfl) (by kernel_rfl) rfl (by kernel_rfl) rfl rfl (Below.refl _ _).drew ?_ ?_
  · intro j a w hj hd hz hold hv hc hr hI
    rw [hB] at hI
    obtain ⟨c0, c1, c2, c3, c4⟩ := box_cells hI
    have HI : Hid (Below (W.heap.size + 1) (W.alloc B) w) := Lib.hid (by rw [hB]; exact hI)
    have HSZ : W.heap.size + 1 ≤ w.heap.size := by have := hI.size; simpa using this
    clear hI
    have s1 := at_slot hz (hold 1 (by kernel_rfl)) (by omega)
    clear hold
    have hjs : j = 0 ∨ j = 1 ∨ j = 2 ∨ j = 3 ∨ j = 4 ∨ j = 5 ∨ j = 6 ∨ j = 7 ∨ j = 8 ∨ j = 9 ∨ j = 10 ∨ j = 11 ∨ j = 12 ∨ j = 13 ∨ j = 14 ∨ j = 15 ∨ j = 16 ∨ j = 17 ∨ j = 18 ∨ j = 19 ∨ j = 20 ∨ j = 21 ∨ j = 22 ∨ j = 23 ∨ j = 24 ∨ j = 25 ∨ j = 26 := by have : j < 27 := hj; omega
    rcases hjs with rfl | rfl | rfl | rfl | rfl | rfl | rfl | rfl | rfl | rfl | rfl | rfl | rfl | rfl | rfl | rfl | rfl | rfl | rfl | rfl | rfl | rfl | rfl | rfl | rfl | rfl | rfl
    · refine wpOpIn_step rfl fun K hK => ?_
      go_simp
      exact hK _ _ ⟨rfl, HI.out, Below.refl _ _, rfl⟩
    · have f3 := at_slot hz (hv 0 3 _ (by kernel_rfl) rfl) (by omega)
      refine wpOpIn_step rfl fun K hK => ?_
      go_simp
      exact hK _ _ ⟨rfl, HI.out, Below.refl _ _, rfl⟩
    · have f4 := at_slot hz (hv 1 4 _ (by kernel_rfl) rfl) (by omega)
      refine wpOpIn_step rfl fun K hK => ?_
      go_simp
      exact hK _ _ ⟨rfl, HI.out, Below.refl _ _, rfl⟩
    · have f5 := at_slot hz (hv 2 5 _ (by kernel_rfl) rfl) (by omega)
      refine wpOpIn_step rfl fun K hK => ?_
      go_simp
      exact hK _ _ ⟨rfl, HI.out, Below.refl _ _, rfl⟩
    · have f6 := at_slot hz (hv 3 6 _ (by kernel_rfl) rfl) (by omega)
      refine wpOpIn_step rfl fun K hK => ?_
      go_simp
      refine (limits_chk _ _ _ _).mono ?_
      rintro e w' ⟨v, rfl, hl, hb'⟩
      exact hK _ _ ⟨rfl, HI.out.trans (hb'.mono HSZ), hb', _, rfl, hl⟩
    · refine wpOpIn_step rfl fun K hK => ?_
      go_simp
      exact hK _ _ ⟨rfl, HI.out, Below.refl _ _, rfl⟩
    · have f8 := at_slot hz (hv 5 8 _ (by kernel_rfl) rfl) (by omega)
      refine wpOpIn_step rfl fun K hK => ?_
      go_simp
      exact hK _ _ ⟨rfl, HI.out, Below.refl _ _, rfl⟩
    · have f9 := at_slot hz (hv 6 9 _ (by kernel_rfl) rfl) (by omega)
      refine wpOpIn_step rfl fun K hK => ?_
      go_simp
      exact hK _ _ ⟨rfl, HI.out, Below.refl _ _, rfl⟩
    · have f10 := at_slot hz (hv 7 10 _ (by kernel_rfl) rfl) (by omega)
      refine wpOpIn_step rfl fun K hK => ?_
      go_simp
      exact hK _ _ ⟨rfl, HI.out, Below.refl _ _, rfl⟩
    · refine wpOpIn_step rfl fun K hK => ?_
      go_simp
      exact hK _ _ ⟨rfl, HI.out, Below.refl _ _, rfl⟩
    · have f12 := at_slot hz (hv 9 12 _ (by kernel_rfl) rfl) (by omega)
      refine wpOpIn_step rfl fun K hK => ?_
      go_simp
      exact hK _ _ ⟨rfl, HI.out, Below.refl _ _, rfl⟩
    · have f13 := at_slot hz (hv 10 13 _ (by kernel_rfl) rfl) (by omega)
      refine wpOpIn_step rfl fun K hK => ?_
      go_simp
      exact hK _ _ ⟨rfl, HI.out, Below.refl _ _, rfl⟩
    · have f14 := at_slot hz (hv 11 14 _ (by kernel_rfl) rfl) (by omega)
      refine wpOpIn_step rfl fun K hK => ?_
      go_simp
      exact hK _ _ ⟨rfl, HI.out, Below.refl _ _, rfl⟩
    · have f11 := at_slot hz (hv 8 11 _ (by kernel_rfl) rfl) (by omega)
      have f15 := at_slot hz (hv 12 15 _ (by kernel_rfl) rfl) (by omega)
      refine wpOpIn_step rfl fun K hK => ?_
      go_simp
      refine (limits_chk _ _ _ _).mono ?_
      rintro e w' ⟨v, rfl, hl, hb'⟩
      exact hK _ _ ⟨rfl, HI.out.trans (hb'.mono HSZ), hb', _, rfl, hl⟩
    · refine wpOpIn_step rfl fun K hK => ?_
      go_simp
      exact hK _ _ ⟨rfl, HI.out, Below.refl _ _, rfl⟩
    · have f17 := at_slot hz (hv 14 17 _ (by kernel_rfl) rfl) (by omega)
      refine wpOpIn_step rfl fun K hK => ?_
      go_simp
      exact hK _ _ ⟨rfl, HI.out, Below.refl _ _, rfl⟩
    · have f18 := at_slot hz (hv 15 18 _ (by kernel_rfl) rfl) (by omega)
      refine wpOpIn_step rfl fun K hK => ?_
      go_simp
      exact hK _ _ ⟨rfl, HI.out, Below.refl _ _, rfl⟩
    · have f19 := at_slot hz (hv 16 19 _ (by kernel_rfl) rfl) (by omega)
      refine wpOpIn_step rfl fun K hK => ?_
      go_simp
      exact hK _ _ ⟨rfl, HI.out, Below.refl _ _, rfl⟩
    · have f20 := at_slot hz (hv 17 20 _ (by kernel_rfl) rfl) (by omega)
      refine wpOpIn_step rfl fun K hK => ?_
      go_simp
      refine (limits_chk _ _ _ _).mono ?_
      rintro e w' ⟨v, rfl, hl, hb'⟩
      exact hK _ _ ⟨rfl, HI.out.trans (hb'.mono HSZ), hb', _, rfl, hl⟩
    · refine wpOpIn_step rfl fun K hK => ?_
      go_simp
      exact hK _ _ ⟨rfl, HI.out, Below.refl _ _, rfl⟩
    · have f22 := at_slot hz (hv 19 22 _ (by kernel_rfl) rfl) (by omega)
      refine wpOpIn_step rfl fun K hK => ?_
      go_simp
      exact hK _ _ ⟨rfl, HI.out, Below.refl _ _, rfl⟩
    · have f23 := at_slot hz (hv 20 23 _ (by kernel_rfl) rfl) (by omega)
      refine wpOpIn_step rfl fun K hK => ?_
      go_simp
      exact hK _ _ ⟨rfl, HI.out, Below.refl _ _, rfl⟩
    · have f24 := at_slot hz (hv 21 24 _ (by kernel_rfl) rfl) (by omega)
      refine wpOpIn_step rfl fun K hK => ?_
      go_simp
      exact hK _ _ ⟨rfl, HI.out, Below.refl _ _, rfl⟩
    · have f25 := at_slot hz (hv 22 25 _ (by kernel_rfl) rfl) (by omega)
      refine wpOpIn_step rfl fun K hK => ?_
      go_simp
      refine (limits_chk _ _ _ _).mono ?_
      rintro e w' ⟨v, rfl, hl, hb'⟩
      exact hK _ _ ⟨rfl, HI.out.trans (hb'.mono HSZ), hb', _, rfl, hl⟩
    · have p7 := hc 4 7 _ (by kernel_rfl) rfl
      obtain ⟨i7, y7, u7, q7⟩ := p7.shape
      rw [q7] at p7
      have f7 := at_slot hz q7 (by omega)
      have p16 := hc 13 16 _ (by kernel_rfl) rfl
      obtain ⟨i16, y16, u16, q16⟩ := p16.shape
      rw [q16] at p16
      have f16 := at_slot hz q16 (by omega)
      have p21 := hc 18 21 _ (by kernel_rfl) rfl
      obtain ⟨i21, y21, u21, q21⟩ := p21.shape
      rw [q21] at p21
      have f21 := at_slot hz q21 (by omega)
      have p26 := hc 23 26 _ (by kernel_rfl) rfl
      obtain ⟨i26, y26, u26, q26⟩ := p26.shape
      rw [q26] at p26
      have f26 := at_slot hz q26 (by omega)
      refine wpOpIn_step rfl fun K hK => ?_
      go_simp
      have hb' : ∀ x, Below w.heap.size w (w.alloc x) := fun x => (Below.refl _ _).alloc (Nat.le_refl _) _
      refine hK _ _ ⟨rfl, HI.out.trans ((hb' _).mono HSZ), hb' _, w.heap.size, rfl, fun i hi => ?_⟩
      have hi4 : i = 0 ∨ i = 1 ∨ i = 2 ∨ i = 3 := by have : i < 4 := hi; omega
      rcases hi4 with rfl | rfl | rfl | rfl
      · exact ⟨_, by simp, p7.below (hb' _)⟩
      · exact ⟨_, by simp, p16.below (hb' _)⟩
      · exact ⟨_, by simp, p21.below (hb' _)⟩
      · exact ⟨_, by simp, p26.below (hb' _)⟩
    · obtain ⟨g27, q27, hrow⟩ := hr 24 27 _ (by kernel_rfl) rfl
      have f27 := at_slot hz q27 (by omega)
      simp only [List.length_cons, List.length_nil, Nat.reduceAdd] at f27
      refine wpOpIn_step rfl fun K hK => ?_
      go_simp
      refine (foul_row _ (ruleL r) _ (show 4 ≤ 100 by decide) hrow 4 rfl).mono ?_
      rintro e w' ⟨rfl, hb'⟩
      exact hK _ _ ⟨rfl, HI.out.trans (hb'.mono HSZ), hb', rfl⟩
    · have f28 := at_slot hz (hv 25 28 _ (by kernel_rfl) rfl) (by omega)
      refine wpOpIn_step rfl fun K hK => ?_
      go_simp
      exact hK _ _ ⟨rfl, HI.out, Below.refl _ _, rfl⟩
  · intro w X hI
    have HBW : Hid (Below W.heap.size W w) := Lib.hid (((Below.refl W.heap.size W).alloc (Nat.le_refl _) _).trans (hI.mono (by omega)))
    clear hI
    simp only [List.map_cons, List.map_nil, Role.out, List.foldl_cons, List.foldl_nil, List.setIfInBounds_toArray, List.set_cons_succ, List.set_cons_zero]
    gi_wp2
    go_ret
    exact ⟨rfl, HBW.out⟩
theorem checkCount_any (r : Rl) (A : Option Addr) (n c : Nat) (W : World) (hn : n ≤ 20) : CallsIn Fc 0 Tryz.prog 75 #[cardV r A n c] W (SaysInt (if n ≤ 8 then 0 else 2) W) := by
  gi_enter Tryz.func75, Tryz.ntmps75
  by_cases h : n ≤ 8
  · rw [if_pos h]
    have h' : ¬ (n : Int) > 8 := by omega
    gi_wp2
    go_ret
    exact ⟨rfl, (Below.refl _ _).alloc (Nat.le_refl _) _⟩
  · rw [if_neg h]
    have h' : (n : Int) > 8 := by omega
    gi_wp2
    go_ret
    exact ⟨rfl, (Below.refl _ _).alloc (Nat.le_refl _) _⟩
def shotL (x : Sh) : List Int := [limZ x.d 0 90, outZ x.u x.v 0 99999, limZ x.wd 0 9, limZ x.lt 0 9]
theorem outZ_zero {a b l m : Int} : outZ a b l m = 0 ↔ l ≤ a ∧ a ≤ b ∧ b ≤ m := by
  unfold outZ
  split
  · next h => exact ⟨fun _ => h, fun _ => rfl⟩
  · next h => exact ⟨fun h' => absurd h' (by decide), fun h' => absurd h' h⟩
theorem shotL_ok {x : Sh} : firstL (shotL x) = 0 ↔ ShOk x := by
  rw [firstL_zero]
  simp only [shotL, List.mem_cons, List.not_mem_nil, or_false, forall_eq_or_imp, forall_eq, limZ_zero, outZ_zero]
  constructor
  · rintro ⟨h1, h2, h3, h4⟩
    exact ⟨h1.1, h1.2, h2.1, h2.2.1, h2.2.2, h3.1, h3.2, h4.1, h4.2⟩
  · intro h
    exact ⟨⟨h.d0, h.d1⟩, ⟨h.u0, h.u1, h.v1⟩, ⟨h.w0, h.w1⟩, ⟨h.t0, h.t1⟩⟩
def shotsZ (sh : Nat → Sh) (n : Nat) : Int := firstZ (fun k => firstL (shotL (sh k))) n
theorem checkShots_any (r : Rl) (A : Option Addr) (n c : Nat) (sh : Nat → Sh) (W : World) (hn : n ≤ 20) (hc : n ≤ c) (hsh : Hid (ShotsAt W A n sh)) : CallsIn Fc 0 Tryz.prog 76 #[cardV r A n c] W (SaysInt (shotsZ sh n) W) := by
  obtain ⟨B, hB⟩ : ∃ B : Obj, B = .cells #[.int .i64 r.ls, .int .i64 r.ms, .int .i64 r.wd, .int .i64 r.lt, .slice A n c] 90 := ⟨_, rfl⟩
  unfold shotsZ
  gi_enter Tryz.func76, Tryz.ntmps76
  gi_wp2
  rw [← hB]
  gi_loopw [10] (fun iv wr => ∃ k : Nat, k ≤ n ∧ iv = .int .i64 k ∧ Below (W.heap.size + 1) (W.alloc B) wr ∧ ∀ j, j < k → firstL (shotL (sh j)) = 0) (fun iv _ => n - (intOf iv).toNat)
  case atStart => exact ⟨0, Nat.zero_le _, rfl, Below.refl _ _, fun j h => by omega⟩
  case round =>
    obtain ⟨k, hk, rfl, hb, hz⟩ := hrel
    have HZ := Lib.hid hz
    have HBW : Hid (Below W.heap.size W wr) := Lib.hid (((Below.refl W.heap.size W).alloc (Nat.le_refl _) _).trans (hb.mono (by omega)))
    have HB := Lib.hid hb
    have hsz : W.heap.size + 1 ≤ wr.heap.size := by have := hb.size; simpa using this
    clear hb hz
    by_cases hlt : k < n
    · obtain ⟨b, o, rfl, hy⟩ := hsh.out k hlt
      obtain ⟨y0, y1, y2, y3, y4⟩ := hy.below HBW.out
      clear hy
      have hstop : firstL (shotL (sh k)) ≠ 0 → firstZ (fun k => firstL (shotL (sh k))) n = firstL (shotL (sh k)) := fun h0 => firstZ_at (F := fun k => firstL (shotL (sh k))) HZ.out h0 hlt
      have HST := Lib.hid hstop
      have hnext : firstL (shotL (sh k)) = 0 → ∀ j, j < k + 1 → firstL (shotL (sh j)) = 0 := fun h0 j hj => by
        rcases Nat.lt_succ_iff_lt_or_eq.1 hj with h | rfl
        · exact HZ.out j h
        · exact h0
      have HNX := Lib.hid hnext
      clear hstop hnext
      gi_wp2
      generalize hx : sh k = x at *
      clear hx
      have s0 : (wr.alloc (.cells #[.int .i64 x.d, .int .i64 x.u, .int .i64 x.v, .int .i64 x.wd, .int .i64 x.lt] 46)).cell? ⟨wr.heap.size, 0, none⟩ = some (.int .i64 x.d) := by simp
      have s1 : (wr.alloc (.cells #[.int .i64 x.d, .int .i64 x.u, .int .i64 x.v, .int .i64 x.wd, .int .i64 x.lt] 46)).cell? ⟨wr.heap.size, 1, none⟩ = some (.int .i64 x.u) := by simp
      have s2 : (wr.alloc (.cells #[.int .i64 x.d, .int .i64 x.u, .int .i64 x.v, .int .i64 x.wd, .int .i64 x.lt] 46)).cell? ⟨wr.heap.size, 2, none⟩ = some (.int .i64 x.v) := by simp
      have s3 : (wr.alloc (.cells #[.int .i64 x.d, .int .i64 x.u, .int .i64 x.v, .int .i64 x.wd, .int .i64 x.lt] 46)).cell? ⟨wr.heap.size, 3, none⟩ = some (.int .i64 x.wd) := by simp
      have s4 : (wr.alloc (.cells #[.int .i64 x.d, .int .i64 x.u, .int .i64 x.v, .int .i64 x.wd, .int .i64 x.lt] 46)).cell? ⟨wr.heap.size, 4, none⟩ = some (.int .i64 x.lt) := by simp
      have hbx := HB.out.alloc hsz (.cells #[.int .i64 x.d, .int .i64 x.u, .int .i64 x.v, .int .i64 x.wd, .int .i64 x.lt] 46)
      have hsx : wr.heap.size + 1 = (wr.alloc (.cells #[.int .i64 x.d, .int .i64 x.u, .int .i64 x.v, .int .i64 x.wd, .int .i64 x.lt] 46)).heap.size := by simp
      generalize (wr.alloc (.cells #[.int .i64 x.d, .int .i64 x.u, .int .i64 x.v, .int .i64 x.wd, .int .i64 x.lt] 46)) = wx at *
      have HX := Lib.hid (And.intro s0 (And.intro s1 (And.intro s2 (And.intro s3 s4))))
      have HBX := Lib.hid hbx
      clear s0 s1 s2 s3 s4 hbx y0 y1 y2 y3 y4
      refine wpIn_region_K (R := [.val 14 (.pointer (some ⟨wr.heap.size, 0, none⟩)), .val 15 (.int .i64 x.d), .chk 16 (limZ x.d 0 90), .val 17 (.pointer (some ⟨wr.heap.size, 1, none⟩)), .val 18 (spanV x.u x.v), .chk 19 (outZ x.u x.v 0 99999), .val 20 (.pointer (some ⟨wr.heap.size, 3, none⟩)), .val 21 (.int .i64 x.wd), .chk 22 (limZ x.wd 0 9), .val 23 (.pointer (some ⟨wr.heap.size, 4, none⟩)), .val 24 (.int .i64 x.lt), .chk 25 (limZ x.lt 0 9), .row 26 [limZ x.d 0 90, outZ x.u x.v 0 99999, limZ x.wd 0 9, limZ x.lt 0 9], .val 27 (.int .i64 (firstL (shotL x))), .val 5 (.int .i64 (firstL (shotL x)))])
        (I := fun w => Below wx.heap.size wx w) (z := 32) (by kernel_rfl) (by kernel_rfl) rfl (by kernel_rfl) rfl rfl (Below.refl _ _).drew ?_ ?_
      · intro j a w hj hd hz hold hv hc hr hI
        have HI := Lib.hid hI
        obtain ⟨x0, x1, x2, x3, x4⟩ := HX.out
        have x0 := Below.old hI x0
        have x1 := Below.old hI x1
        have x2 := Below.old hI x2
        have x3 := Below.old hI x3
        have x4 := Below.old hI x4
        clear hI
        have s4 := at_slot hz (hold 4 (by kernel_rfl)) (by omega)
        clear hold
        have hjs : j = 0 ∨ j = 1 ∨ j = 2 ∨ j = 3 ∨ j = 4 ∨ j = 5 ∨ j = 6 ∨ j = 7 ∨ j = 8 ∨ j = 9 ∨ j = 10 ∨ j = 11 ∨ j = 12 ∨ j = 13 ∨ j = 14 := by have : j < 15 := hj; omega
        rcases hjs with rfl | rfl | rfl | rfl | rfl | rfl | rfl | rfl | rfl | rfl | rfl | rfl | rfl | rfl | rfl
        · refine wpOpIn_step rfl fun K hK => ?_
          go_simp
          exact hK _ _ ⟨rfl, HI.out, Below.refl _ _, rfl⟩
        · have f14 := at_slot hz (hv 0 14 _ (by kernel_rfl) rfl) (by omega)
          refine wpOpIn_step rfl fun K hK => ?_
          go_simp
          exact hK _ _ ⟨rfl, HI.out, Below.refl _ _, rfl⟩
        · have f15 := at_slot hz (hv 1 15 _ (by kernel_rfl) rfl) (by omega)
          refine wpOpIn_step rfl fun K hK => ?_
          go_simp
          refine (distance_chk _ _).mono ?_
          rintro e w' ⟨v, rfl, hl, hb'⟩
          exact hK _ _ ⟨rfl, HI.out.trans (hb'.mono HI.out.size), hb', _, rfl, hl⟩
        · refine wpOpIn_step rfl fun K hK => ?_
          go_simp
          exact hK _ _ ⟨rfl, HI.out, Below.refl _ _, rfl⟩
        · have f17 := at_slot hz (hv 3 17 _ (by kernel_rfl) rfl) (by omega)
          refine wpOpIn_step rfl fun K hK => ?_
          go_simp
          exact hK _ _ ⟨rfl, HI.out, Below.refl _ _, rfl⟩
        · have f18 := at_slot hz (hv 4 18 _ (by kernel_rfl) rfl) (by omega)
          refine wpOpIn_step rfl fun K hK => ?_
          go_simp
          refine (spanLimits_chk _ _ _ _ _).mono ?_
          rintro e w' ⟨v, rfl, hl, hb'⟩
          exact hK _ _ ⟨rfl, HI.out.trans (hb'.mono HI.out.size), hb', _, rfl, hl⟩
        · refine wpOpIn_step rfl fun K hK => ?_
          go_simp
          exact hK _ _ ⟨rfl, HI.out, Below.refl _ _, rfl⟩
        · have f20 := at_slot hz (hv 6 20 _ (by kernel_rfl) rfl) (by omega)
          refine wpOpIn_step rfl fun K hK => ?_
          go_simp
          exact hK _ _ ⟨rfl, HI.out, Below.refl _ _, rfl⟩
        · have f21 := at_slot hz (hv 7 21 _ (by kernel_rfl) rfl) (by omega)
          refine wpOpIn_step rfl fun K hK => ?_
          go_simp
          refine (limits_chk _ _ _ _).mono ?_
          rintro e w' ⟨v, rfl, hl, hb'⟩
          exact hK _ _ ⟨rfl, HI.out.trans (hb'.mono HI.out.size), hb', _, rfl, hl⟩
        · refine wpOpIn_step rfl fun K hK => ?_
          go_simp
          exact hK _ _ ⟨rfl, HI.out, Below.refl _ _, rfl⟩
        · have f23 := at_slot hz (hv 9 23 _ (by kernel_rfl) rfl) (by omega)
          refine wpOpIn_step rfl fun K hK => ?_
          go_simp
          exact hK _ _ ⟨rfl, HI.out, Below.refl _ _, rfl⟩
        · have f24 := at_slot hz (hv 10 24 _ (by kernel_rfl) rfl) (by omega)
          refine wpOpIn_step rfl fun K hK => ?_
          go_simp
          refine (limits_chk _ _ _ _).mono ?_
          rintro e w' ⟨v, rfl, hl, hb'⟩
          exact hK _ _ ⟨rfl, HI.out.trans (hb'.mono HI.out.size), hb', _, rfl, hl⟩
        · have p16 := hc 2 16 _ (by kernel_rfl) rfl
          obtain ⟨i16, y16, u16, q16⟩ := p16.shape
          rw [q16] at p16
          have f16 := at_slot hz q16 (by omega)
          have p19 := hc 5 19 _ (by kernel_rfl) rfl
          obtain ⟨i19, y19, u19, q19⟩ := p19.shape
          rw [q19] at p19
          have f19 := at_slot hz q19 (by omega)
          have p22 := hc 8 22 _ (by kernel_rfl) rfl
          obtain ⟨i22, y22, u22, q22⟩ := p22.shape
          rw [q22] at p22
          have f22 := at_slot hz q22 (by omega)
          have p25 := hc 11 25 _ (by kernel_rfl) rfl
          obtain ⟨i25, y25, u25, q25⟩ := p25.shape
          rw [q25] at p25
          have f25 := at_slot hz q25 (by omega)
          refine wpOpIn_step rfl fun K hK => ?_
          go_simp
          have hb' : ∀ x, Below w.heap.size w (w.alloc x) := fun x => (Below.refl _ _).alloc (Nat.le_refl _) _
          refine hK _ _ ⟨rfl, HI.out.trans ((hb' _).mono HI.out.size), hb' _, w.heap.size, rfl, fun i hi => ?_⟩
          have hi4 : i = 0 ∨ i = 1 ∨ i = 2 ∨ i = 3 := by have : i < 4 := hi; omega
          rcases hi4 with rfl | rfl | rfl | rfl
          · exact ⟨_, by simp, p16.below (hb' _)⟩
          · exact ⟨_, by simp, p19.below (hb' _)⟩
          · exact ⟨_, by simp, p22.below (hb' _)⟩
          · exact ⟨_, by simp, p25.below (hb' _)⟩
        · obtain ⟨g26, q26, hrow⟩ := hr 12 26 _ (by kernel_rfl) rfl
          have f26 := at_slot hz q26 (by omega)
          simp only [List.length_cons, List.length_nil, Nat.reduceAdd] at f26
          refine wpOpIn_step rfl fun K hK => ?_
          go_simp
          refine (foul_row _ (shotL x) _ (show 4 ≤ 100 by decide) hrow 4 rfl).mono ?_
          rintro e w' ⟨rfl, hb'⟩
          exact hK _ _ ⟨rfl, HI.out.trans (hb'.mono HI.out.size), hb', rfl⟩
        · have f27 := at_slot hz (hv 13 27 _ (by kernel_rfl) rfl) (by omega)
          refine wpOpIn_step rfl fun K hK => ?_
          go_simp
          exact hK _ _ ⟨rfl, HI.out, Below.refl _ _, rfl⟩
      · intro w X hI
        have HB5 := Lib.hid (HBX.out.trans (hI.mono (by omega)))
        clear hI
        simp only [List.map_cons, List.map_nil, Role.out, List.foldl_cons, List.foldl_nil, List.setIfInBounds_toArray, List.set_cons_succ, List.set_cons_zero]
        generalize firstL (shotL x) = z at *
        by_cases hz : z = 0
        · subst hz
          have hn0 := HNX.out rfl
          have HN0 := Lib.hid hn0
          clear hn0
          gi_wp2
          go_roundw
          case rel => exact ⟨k + 1, by omega, by go_num, HB5.out, HN0.out⟩
          case measure => simp [intOf]; omega
        · have hv := HST.out hz
          have HV := Lib.hid hv
          clear hv
          gi_wp2
          go_ret
          exact ⟨congrArg (fun z => Ending.returned (Value.int .i64 z)) HV.out.symm, ((Below.refl W.heap.size W).alloc (Nat.le_refl _) _).trans (HB5.out.mono (by omega))⟩
    · have HF : Hid (firstZ (fun k => firstL (shotL (sh k))) n = 0) := Lib.hid (firstZ_zero.2 fun j hj => HZ.out j (by omega))
      gi_wp2
      go_ret
      exact ⟨congrArg (fun z => Ending.returned (Value.int .i64 z)) HF.out.symm, HBW.out⟩
end Go.Proofs.YtlabfeofejemjaaGreat
end
section
namespace Go.Proofs.YtlabfeofejemjaaGreat
open Go.RowKit
def countZ (n : Nat) : Int := if n ≤ 8 then 0 else 2
def cardL (r : Rl) (sh : Nat → Sh) (n : Nat) : List Int := [firstL (ruleL r), countZ n, shotsZ sh n]
def cardZ (r : Rl) (sh : Nat → Sh) (n : Nat) : Int := firstL (cardL r sh n)
structure CardOk (r : Rl) (sh : Nat → Sh) (n : Nat) : Prop where
  rule : RlOk r
  count : n ≤ 8
  each : ∀ k, k < n → ShOk (sh k)
theorem cardZ_ok {r : Rl} {sh : Nat → Sh} {n : Nat} : cardZ r sh n = 0 ↔ CardOk r sh n := by
  unfold cardZ
  rw [firstL_zero]
  simp only [cardL, List.mem_cons, List.not_mem_nil, or_false, forall_eq_or_imp, forall_eq, ruleL_ok, shotsZ, firstZ_zero, shotL_ok, countZ]
  constructor
  · rintro ⟨h1, h2, h3⟩
    refine ⟨h1, ?_, h3⟩
    split at h2
    · assumption
    · cases h2
  · intro h
    exact ⟨h.rule, if_pos h.count, h.each⟩
theorem check_any (r : Rl) (A : Option Addr) (n c : Nat) (sh : Nat → Sh) (W : World) (hn : n ≤ 20) (hc : n ≤ c) (hsh : Hid (ShotsAt W A n sh)) : CallsIn Fc 0 Tryz.prog 46 #[cardV r A n c] W (SaysInt (cardZ r sh n) W) := by
  have hB1 : ∀ x y, Below W.heap.size W ((W.alloc x).alloc y) := fun x y => ((Below.refl _ _).alloc (Nat.le_refl _) _).alloc (by simp) _
  have HB1 := Lib.hid hB1
  clear hB1
  have hrow : ∀ x g, g = (W.alloc x).heap.size → RowIs g (cardL r sh n) ((W.alloc x).alloc (.cells #[.func (.func 74) #[cardV r A n c] #[], .func (.func 75) #[cardV r A n c] #[], .func (.func 76) #[cardV r A n c] #[]] 92)) := fun x g hg => by
    subst hg
    have hbl : ∀ w', Below ((W.alloc x).alloc (.cells #[.func (.func 74) #[cardV r A n c] #[], .func (.func 75) #[cardV r A n c] #[], .func (.func 76) #[cardV r A n c] #[]] 92)).heap.size ((W.alloc x).alloc (.cells #[.func (.func 74) #[cardV r A n c] #[], .func (.func 75) #[cardV r A n c] #[], .func (.func 76) #[cardV r A n c] #[]] 92)) w' → Below W.heap.size W w' := fun w' h => (HB1.out _ _).trans (h.mono (HB1.out _ _).size)
    intro i hi
    have h3 : i = 0 ∨ i = 1 ∨ i = 2 := by have : i < 3 := hi; omega
    rcases h3 with rfl | rfl | rfl
    · exact ⟨_, by simp, .inl ⟨74, _, by simp, rfl, fun w' hb => checkRule_any r A n c w'⟩⟩
    · exact ⟨_, by simp, .inl ⟨75, _, by simp, rfl, fun w' hb => checkCount_any r A n c w' hn⟩⟩
    · exact ⟨_, by simp, .inl ⟨76, _, by simp, rfl, fun w' hb => checkShots_any r A n c sh w' hn hc (Lib.hid (hsh.out.below (hbl w' hb)))⟩⟩
  have hcall := fun x g hg => foul_row g (cardL r sh n) _ (show 3 ≤ 100 by decide) (hrow x g hg) 3 rfl
  have HC := Lib.hid hcall
  clear hrow hcall
  unfold cardZ
  generalize firstL (cardL r sh n) = z at *
  gi_enter Tryz.func46, Tryz.ntmps46
  gi_wp2_with (gi_at_call 45; refine (HC.out _ _ (by simp)).mono ?_; rintro e w' ⟨rfl, hb⟩; have HB := Lib.hid ((HB1.out _ _).trans (hb.mono (HB1.out _ _).size)); clear hb)
  go_ret
  exact ⟨rfl, HB.out⟩
theorem agree_iff {r : Rl} {x y : Sh} : agreeB r x y = true ↔ reachU r x y.d ≤ wideV r y ∧ wideU r y ≤ reachV r x y.d ∧ reachU r x y.d ≤ reachV r x y.d ∧ wideU r y ≤ wideV r y := by
  unfold agreeB
  rw [decide_eq_true_eq]
  omega
theorem mul_shift (a b c k : Int) : (a - b) * k = (a - c) * k + (c - b) * k := by rw [← Int.add_mul]; congr 1; omega
theorem reach_pair {r : Rl} (hr : RlOk r) {x y : Sh} (h : reachU r x y.d ≤ wideV r y) (d : Int) : reachU r x d ≤ reachV r y d := by
  have pos : ∀ f : Int, 0 ≤ f → f * r.ls ≤ f * r.ms := fun f h => Int.mul_le_mul_of_nonneg_left hr.l1 h
  have neg : ∀ f : Int, f ≤ 0 → f * r.ms ≤ f * r.ls := fun f h => Int.mul_le_mul_of_nonpos_left h hr.l1
  have e1 := mul_shift d x.d y.d r.ls
  have e2 := mul_shift d x.d y.d r.ms
  have p1 := pos (d - y.d)
  have n1 := neg (d - y.d)
  have p2 := pos (y.d - x.d)
  have n2 := neg (y.d - x.d)
  have p3 := pos (d - x.d)
  have n3 := neg (d - x.d)
  unfold reachU at h ⊢
  unfold reachV
  split at h <;> split <;> split
  all_goals
    (try have p1 := p1 (by omega)); (try have n1 := n1 (by omega)); (try have p2 := p2 (by omega)); (try have n2 := n2 (by omega)); (try have p3 := p3 (by omega)); (try have n3 := n3 (by omega))
    omega
theorem reach_pair' {r : Rl} (hr : RlOk r) {x y : Sh} (h : wideU r y ≤ reachV r x y.d) (d : Int) : reachU r y d ≤ reachV r x d := by
  have pos : ∀ f : Int, 0 ≤ f → f * r.ls ≤ f * r.ms := fun f h => Int.mul_le_mul_of_nonneg_left hr.l1 h
  have neg : ∀ f : Int, f ≤ 0 → f * r.ms ≤ f * r.ls := fun f h => Int.mul_le_mul_of_nonpos_left h hr.l1
  have e1 := mul_shift d x.d y.d r.ls
  have e2 := mul_shift d x.d y.d r.ms
  have p1 := pos (d - y.d)
  have n1 := neg (d - y.d)
  have p2 := pos (y.d - x.d)
  have n2 := neg (y.d - x.d)
  have p3 := pos (d - x.d)
  have n3 := neg (d - x.d)
  unfold reachV at h ⊢
  unfold reachU
  split at h <;> split <;> split
  all_goals
    (try have p1 := p1 (by omega)); (try have n1 := n1 (by omega)); (try have p2 := p2 (by omega)); (try have n2 := n2 (by omega)); (try have p3 := p3 (by omega)); (try have n3 := n3 (by omega))
    omega
theorem bU_le {r : Rl} {sh : Nat → Sh} {d X : Int} : ∀ k, bU r sh d k ≤ X ↔ -1073741824 ≤ X ∧ ∀ i, i < k → reachU r (sh i) d ≤ X
  | 0 => by simp [bU]
  | k + 1 => by
    simp only [bU]
    rw [Int.max_le, bU_le k]
    constructor
    · rintro ⟨⟨h1, h2⟩, h3⟩
      exact ⟨h1, fun i hi => by
        rcases Nat.lt_succ_iff_lt_or_eq.1 hi with h | rfl
        · exact h2 i h
        · exact h3⟩
    · rintro ⟨h1, h2⟩
      exact ⟨⟨h1, fun i hi => h2 i (by omega)⟩, h2 k (by omega)⟩
theorem le_bV {r : Rl} {sh : Nat → Sh} {d X : Int} : ∀ k, X ≤ bV r sh d k ↔ X ≤ 1073741824 ∧ ∀ i, i < k → X ≤ reachV r (sh i) d
  | 0 => by simp [bV]
  | k + 1 => by
    simp only [bV]
    rw [Int.le_min, le_bV k]
    constructor
    · rintro ⟨⟨h1, h2⟩, h3⟩
      exact ⟨h1, fun i hi => by
        rcases Nat.lt_succ_iff_lt_or_eq.1 hi with h | rfl
        · exact h2 i h
        · exact h3⟩
    · rintro ⟨h1, h2⟩
      exact ⟨⟨h1, fun i hi => h2 i (by omega)⟩, h2 k (by omega)⟩
end Go.Proofs.YtlabfeofejemjaaGreat
end
section
namespace Go.Proofs.YtlabfeofejemjaaGreat
open Go.RowKit
end Go.Proofs.YtlabfeofejemjaaGreat
end
section
namespace Go.Proofs.YtlabfeofejemjaaGreat
open Go.RowKit
theorem limZ_cases (n l m : Int) : limZ n l m = 0 ∨ limZ n l m = 1 := by unfold limZ; split <;> simp
theorem outZ_cases (a b l m : Int) : outZ a b l m = 0 ∨ outZ a b l m = 1 := by unfold outZ; split <;> simp
theorem firstZ_cases {F : Nat → Int} : ∀ n, (∀ k, k < n → F k = 0 ∨ F k = 1) → firstZ F n = 0 ∨ firstZ F n = 1
  | 0, _ => .inl rfl
  | n + 1, h => by
    simp only [firstZ]
    split
    · exact h n (by omega)
    · exact firstZ_cases n fun k hk => h k (by omega)
theorem firstL_cases {fs : List Int} (h : ∀ f ∈ fs, f = 0 ∨ f = 1) : firstL fs = 0 ∨ firstL fs = 1 :=
  firstZ_cases _ fun k hk => by
    have := h fs[k] (List.getElem_mem hk)
    simpa [hk] using this
theorem ruleL_no {r : Rl} (h : ¬ RlOk r) : firstL (ruleL r) = 1 := by
  rcases firstL_cases (fs := ruleL r) (by
    intro f hf
    simp only [ruleL, List.mem_cons, List.not_mem_nil, or_false] at hf
    rcases hf with rfl | rfl | rfl | rfl <;> exact limZ_cases _ _ _) with h1 | h1
  · exact absurd (ruleL_ok.1 h1) h
  · exact h1
theorem shotL_no {x : Sh} (h : ¬ ShOk x) : firstL (shotL x) = 1 := by
  rcases firstL_cases (fs := shotL x) (by
    intro f hf
    simp only [shotL, List.mem_cons, List.not_mem_nil, or_false] at hf
    rcases hf with rfl | rfl | rfl | rfl <;> first | exact limZ_cases _ _ _ | exact outZ_cases _ _ _ _) with h1 | h1
  · exact absurd (shotL_ok.1 h1) h
  · exact h1
theorem firstL3 (a b c : Int) : firstL [a, b, c] = if a = 0 then (if b = 0 then c else b) else a := by
  simp only [firstL, List.length_cons, List.length_nil, firstZ, List.getD_cons_zero, List.getD_cons_succ, Nat.zero_add, if_true]
  by_cases ha : a = 0 <;> by_cases hb : b = 0 <;> simp [ha, hb]
theorem cardZ_rule {r : Rl} {sh : Nat → Sh} {n : Nat} (h : ¬ RlOk r) : cardZ r sh n = 1 := by
  unfold cardZ cardL
  rw [firstL3, ruleL_no h]; rfl
theorem cardZ_count {r : Rl} {sh : Nat → Sh} {n : Nat} (h : RlOk r) (hn : ¬ n ≤ 8) : cardZ r sh n = 2 := by
  unfold cardZ cardL
  rw [firstL3, ruleL_ok.2 h, if_pos rfl, show countZ n = 2 from if_neg hn]; rfl
theorem cardZ_shots {r : Rl} {sh : Nat → Sh} {n : Nat} (h : RlOk r) (hn : n ≤ 8) : cardZ r sh n = shotsZ sh n := by
  unfold cardZ cardL
  rw [firstL3, ruleL_ok.2 h, if_pos rfl, show countZ n = 0 from if_pos hn, if_pos rfl]
theorem shotsZ_at {sh : Nat → Sh} {n k : Nat} (hk : k < n) (h0 : ∀ j, j < k → ShOk (sh j)) (h1 : ¬ ShOk (sh k)) : shotsZ sh n = 1 := by
  unfold shotsZ
  rw [firstZ_at (F := fun k => firstL (shotL (sh k))) (k := k) (fun j hj => shotL_ok.2 (h0 j hj)) (by show firstL _ ≠ 0; rw [shotL_no h1]; decide) hk]
  exact shotL_no h1
theorem inB_iff {n l h : Int} : inB n l h = true ↔ l ≤ n ∧ n ≤ h := by simp [inB]
theorem insideB_iff {a b l h : Int} : insideB a b l h = true ↔ l ≤ a ∧ a ≤ b ∧ b ≤ h := by simp [insideB, inB]; omega
theorem ruleB {r : Rl} (h1 : inB r.ls 0 999 = true) (h2 : inB r.ms 0 999 = true) (h3 : inB r.wd 0 999 = true) (h4 : inB r.lt 0 999 = true) (h5 : r.ls ≤ r.ms) : RlOk r := by
  rw [inB_iff] at h1 h2 h3 h4
  exact ⟨h1.1, h5, h2.2, h3.1, h3.2, h4.1, h4.2⟩
theorem shotB {x : Sh} (h1 : inB x.d 0 90 = true) (h2 : insideB x.u x.v 0 99999 = true) (h3 : inB x.wd 0 9 = true) (h4 : inB x.lt 0 9 = true) : ShOk x := by
  rw [inB_iff] at h1 h3 h4
  rw [insideB_iff] at h2
  exact ⟨h1.1, h1.2, h2.1, h2.2.1, h2.2.2, h3.1, h3.2, h4.1, h4.2⟩
theorem CheckCard_any (r : Rl) (A : Option Addr) (n c : Nat) (sh : Nat → Sh) (W : World) (hn : n ≤ 20) (hc : n ≤ c) (hsh : Hid (ShotsAt W A n sh)) : CallsIn Fc 0 Tryz.prog 12 #[cardV r A n c] W (SaysInt (cardZ r sh n) W) := by
  obtain ⟨z, hz⟩ : ∃ z, cardZ r sh n = z := ⟨_, rfl⟩
  rw [hz]
  have HZ := Lib.hid hz
  clear hz
  gi_enter Tryz.func12, Tryz.ntmps12
  by_cases hr : RlOk r
  · have h1 : inB r.ls 0 999 = true := inB_iff.2 ⟨hr.l0, Int.le_trans hr.l1 hr.m1⟩
    have h2 : inB r.ms 0 999 = true := inB_iff.2 ⟨Int.le_trans hr.l0 hr.l1, hr.m1⟩
    have h3 : inB r.wd 0 999 = true := inB_iff.2 ⟨hr.w0, hr.w1⟩
    have h4 : inB r.lt 0 999 = true := inB_iff.2 ⟨hr.t0, hr.t1⟩
    have h5 : ¬ r.ls > r.ms := Int.not_lt.2 hr.l1
    have HR := Lib.hid hr
    clear hr
    by_cases hn8 : n ≤ 8
    · have hn8' : ¬ (n : Int) > 8 := by omega
      have HN := Lib.hid hn8
      clear hn8
      gi_wp2_with (gi_at_call 51; refine (in_any _ _ _ _).mono ?_; rintro e w' ⟨rfl, rfl⟩)
      generalize hW3 : (W.alloc (.cells #[.int .i64 r.ls, .int .i64 r.ms, .int .i64 r.wd, .int .i64 r.lt, .slice A n c] 26)).alloc (.cells #[.int .i64 r.ls, .int .i64 r.ms, .int .i64 r.wd, .int .i64 r.lt] 23) = W3 at *
      have hb3 : Below W.heap.size W W3 := by rw [← hW3]; exact ((Below.refl _ _).alloc (Nat.le_refl _) _).alloc (by simp) _
      have hcb : Below (W.heap.size + 1) (W.alloc (.cells #[.int .i64 r.ls, .int .i64 r.ms, .int .i64 r.wd, .int .i64 r.lt, .slice A n c] 26)) W3 := by rw [← hW3]; exact (Below.refl _ _).alloc (by simp) _
      obtain ⟨_, _, _, _, e4⟩ := box_cells hcb
      have HE := Lib.hid e4
      have HB3 := Lib.hid hb3
      clear hW3 hb3 hcb e4 h1 h2 h3 h4 h5
      gi_loopw [4] (fun iv wr => ∃ k : Nat, k ≤ n ∧ iv = .int .i64 k ∧ Below W3.heap.size W3 wr ∧ ∀ j, j < k → ShOk (sh j)) (fun iv _ => n - (intOf iv).toNat)
      case atStart => exact ⟨0, Nat.zero_le _, rfl, Below.refl _ _, fun j h => by omega⟩
      case round =>
        obtain ⟨k, hk, rfl, hb, hall⟩ := hrel
        have HALL := Lib.hid hall
        have e4 := Below.old hb HE.out
        have HBW := Lib.hid (HB3.out.trans (hb.mono HB3.out.size))
        have HB := Lib.hid hb
        clear hb hall
        by_cases hlt : k < n
        · obtain ⟨b, o, rfl, hy⟩ := hsh.out k hlt
          obtain ⟨y0, y1, y2, y3, y4⟩ := hy.below HBW.out
          clear hy
          have hstop : ¬ ShOk (sh k) → z = 1 := fun h => by rw [← HZ.out, cardZ_shots HR.out HN.out, shotsZ_at hlt HALL.out h]
          have HST := Lib.hid hstop
          have hnext : ShOk (sh k) → ∀ j, j < k + 1 → ShOk (sh j) := fun h j hj => by
            rcases Nat.lt_succ_iff_lt_or_eq.1 hj with hj | rfl
            · exact HALL.out j hj
            · exact h
          have HNX := Lib.hid hnext
          clear hstop hnext
          generalize sh k = x at *
          have hok : inB x.d 0 90 = true → insideB x.u x.v 0 99999 = true → inB x.wd 0 9 = true → inB x.lt 0 9 = true → ShOk x := shotB
          have hno : (inB x.d 0 90 = false ∨ insideB x.u x.v 0 99999 = false ∨ inB x.wd 0 9 = false ∨ inB x.lt 0 9 = false) → ¬ ShOk x := fun h hx => by
            have a1 := inB_iff.2 ⟨hx.d0, hx.d1⟩
            have a2 := insideB_iff.2 ⟨hx.u0, hx.u1, hx.v1⟩
            have a3 := inB_iff.2 ⟨hx.w0, hx.w1⟩
            have a4 := inB_iff.2 ⟨hx.t0, hx.t1⟩
            rw [a1, a2, a3, a4] at h
            simp at h
          have HOK := Lib.hid hok
          have HNO := Lib.hid hno
          clear hok hno
          cases h1 : inB x.d 0 90 with
          | false =>
            obtain rfl := HST.out (HNO.out (.inl h1))
            have hbx := (Below.refl wr.heap.size wr).alloc (Nat.le_refl _) (.cells #[.int .i64 x.d, .int .i64 x.u, .int .i64 x.v, .int .i64 x.wd, .int .i64 x.lt] 46)
            have HBX := Lib.hid hbx
            have HB9 := Lib.hid (HB.out.trans (hbx.mono HB.out.size))
            clear hbx
            gi_wp2_with (first | (gi_at_call 51; refine (in_any _ _ _ _).mono ?_; rintro e w' ⟨rfl, rfl⟩) | (gi_at_call 52; refine (inside_any _ _ _ _ _).mono ?_; rintro e w8 ⟨rfl, hb1⟩; have q3 : w8.cell? ⟨wr.heap.size, 3, none⟩ = some (.int .i64 x.wd) := Below.old hb1 (by simp); have q4 : w8.cell? ⟨wr.heap.size, 4, none⟩ = some (.int .i64 x.lt) := Below.old hb1 (by simp)))
            go_ret
            first | exact ⟨rfl, HBW.out.alloc HBW.out.size _⟩ | exact ⟨rfl, (HBW.out.alloc HBW.out.size _).trans (hb1.mono (by have := HBW.out.size; simp; omega))⟩
          | true =>
            cases h2 : insideB x.u x.v 0 99999 with
            | false =>
              obtain rfl := HST.out (HNO.out (.inr (.inl h2)))
              have hbx := (Below.refl wr.heap.size wr).alloc (Nat.le_refl _) (.cells #[.int .i64 x.d, .int .i64 x.u, .int .i64 x.v, .int .i64 x.wd, .int .i64 x.lt] 46)
              have HBX := Lib.hid hbx
              have HB9 := Lib.hid (HB.out.trans (hbx.mono HB.out.size))
              clear hbx
              gi_wp2_with (first | (gi_at_call 51; refine (in_any _ _ _ _).mono ?_; rintro e w' ⟨rfl, rfl⟩) | (gi_at_call 52; refine (inside_any _ _ _ _ _).mono ?_; rintro e w8 ⟨rfl, hb1⟩; have q3 : w8.cell? ⟨wr.heap.size, 3, none⟩ = some (.int .i64 x.wd) := Below.old hb1 (by simp); have q4 : w8.cell? ⟨wr.heap.size, 4, none⟩ = some (.int .i64 x.lt) := Below.old hb1 (by simp)))
              go_ret
              first | exact ⟨rfl, HBW.out.alloc HBW.out.size _⟩ | exact ⟨rfl, (HBW.out.alloc HBW.out.size _).trans (hb1.mono (by have := HBW.out.size; simp; omega))⟩
            | true =>
              cases h3 : inB x.wd 0 9 with
              | false =>
                obtain rfl := HST.out (HNO.out (.inr (.inr (.inl h3))))
                have hbx := (Below.refl wr.heap.size wr).alloc (Nat.le_refl _) (.cells #[.int .i64 x.d, .int .i64 x.u, .int .i64 x.v, .int .i64 x.wd, .int .i64 x.lt] 46)
                have HBX := Lib.hid hbx
                have HB9 := Lib.hid (HB.out.trans (hbx.mono HB.out.size))
                clear hbx
                gi_wp2_with (first | (gi_at_call 51; refine (in_any _ _ _ _).mono ?_; rintro e w' ⟨rfl, rfl⟩) | (gi_at_call 52; refine (inside_any _ _ _ _ _).mono ?_; rintro e w8 ⟨rfl, hb1⟩; have q3 : w8.cell? ⟨wr.heap.size, 3, none⟩ = some (.int .i64 x.wd) := Below.old hb1 (by simp); have q4 : w8.cell? ⟨wr.heap.size, 4, none⟩ = some (.int .i64 x.lt) := Below.old hb1 (by simp)))
                go_ret
                first | exact ⟨rfl, HBW.out.alloc HBW.out.size _⟩ | exact ⟨rfl, (HBW.out.alloc HBW.out.size _).trans (hb1.mono (by have := HBW.out.size; simp; omega))⟩
              | true =>
                cases h4 : inB x.lt 0 9 with
                | false =>
                  obtain rfl := HST.out (HNO.out (.inr (.inr (.inr h4))))
                  have hbx := (Below.refl wr.heap.size wr).alloc (Nat.le_refl _) (.cells #[.int .i64 x.d, .int .i64 x.u, .int .i64 x.v, .int .i64 x.wd, .int .i64 x.lt] 46)
                  have HBX := Lib.hid hbx
                  have HB9 := Lib.hid (HB.out.trans (hbx.mono HB.out.size))
                  clear hbx
                  gi_wp2_with (first | (gi_at_call 51; refine (in_any _ _ _ _).mono ?_; rintro e w' ⟨rfl, rfl⟩) | (gi_at_call 52; refine (inside_any _ _ _ _ _).mono ?_; rintro e w8 ⟨rfl, hb1⟩; have q3 : w8.cell? ⟨wr.heap.size, 3, none⟩ = some (.int .i64 x.wd) := Below.old hb1 (by simp); have q4 : w8.cell? ⟨wr.heap.size, 4, none⟩ = some (.int .i64 x.lt) := Below.old hb1 (by simp)))
                  go_ret
                  first | exact ⟨rfl, HBW.out.alloc HBW.out.size _⟩ | exact ⟨rfl, (HBW.out.alloc HBW.out.size _).trans (hb1.mono (by have := HBW.out.size; simp; omega))⟩
                | true =>
                  have hnx := HNX.out (HOK.out h1 h2 h3 h4)
                  have HNX' := Lib.hid hnx
                  clear hnx
                  have hbx := (Below.refl wr.heap.size wr).alloc (Nat.le_refl _) (.cells #[.int .i64 x.d, .int .i64 x.u, .int .i64 x.v, .int .i64 x.wd, .int .i64 x.lt] 46)
                  have HBX := Lib.hid hbx
                  have HB9 := Lib.hid (HB.out.trans (hbx.mono HB.out.size))
                  clear hbx
                  gi_wp2_with (first | (gi_at_call 51; refine (in_any _ _ _ _).mono ?_; rintro e w' ⟨rfl, rfl⟩) | (gi_at_call 52; refine (inside_any _ _ _ _ _).mono ?_; rintro e w8 ⟨rfl, hb1⟩; have q3 : w8.cell? ⟨wr.heap.size, 3, none⟩ = some (.int .i64 x.wd) := Below.old hb1 (by simp); have q4 : w8.cell? ⟨wr.heap.size, 4, none⟩ = some (.int .i64 x.lt) := Below.old hb1 (by simp)))
                  go_roundw
                  case rel => exact ⟨k + 1, by omega, by go_num, HB9.out.trans (hb1.mono (by have := HB9.out.size; omega)), HNX'.out⟩
                  case measure => simp [intOf]; omega
        · obtain rfl : k = n := by omega
          have hv : z = 0 := by rw [← HZ.out]; exact cardZ_ok.2 ⟨HR.out, HN.out, HALL.out⟩
          obtain rfl := hv
          gi_wp2
          go_ret
          exact ⟨rfl, HBW.out⟩
    · have hn8' : (n : Int) > 8 := by omega
      have hv : z = 2 := by rw [← HZ.out]; exact cardZ_count HR.out hn8
      obtain rfl := hv
      gi_wp2_with (gi_at_call 51; refine (in_any _ _ _ _).mono ?_; rintro e w' ⟨rfl, rfl⟩)
      go_ret
      exact ⟨rfl, ((Below.refl _ _).alloc (Nat.le_refl _) _).alloc (by simp) _⟩
  · have hv : z = 1 := by rw [← HZ.out]; exact cardZ_rule hr
    obtain rfl := hv
    have RST : ∀ (_ : Unit), Below W.heap.size W ((W.alloc (.cells #[.int .i64 r.ls, .int .i64 r.ms, .int .i64 r.wd, .int .i64 r.lt, .slice A n c] 26)).alloc (.cells #[.int .i64 r.ls, .int .i64 r.ms, .int .i64 r.wd, .int .i64 r.lt] 23)) := fun _ => ((Below.refl _ _).alloc (Nat.le_refl _) _).alloc (by simp) _
    have HRB := Lib.hid RST
    have HNR := Lib.hid hr
    clear RST hr
    cases h1 : inB r.ls 0 999 with
    | false => gi_wp2_with (gi_at_call 51; refine (in_any _ _ _ _).mono ?_; rintro e w' ⟨rfl, rfl⟩)
               go_ret
               exact ⟨rfl, HRB.out ()⟩
    | true =>
      cases h2 : inB r.ms 0 999 with
      | false => gi_wp2_with (gi_at_call 51; refine (in_any _ _ _ _).mono ?_; rintro e w' ⟨rfl, rfl⟩)
                 go_ret
                 exact ⟨rfl, HRB.out ()⟩
      | true =>
        cases h3 : inB r.wd 0 999 with
        | false => gi_wp2_with (gi_at_call 51; refine (in_any _ _ _ _).mono ?_; rintro e w' ⟨rfl, rfl⟩)
                   go_ret
                   exact ⟨rfl, HRB.out ()⟩
        | true =>
          cases h4 : inB r.lt 0 999 with
          | false => gi_wp2_with (gi_at_call 51; refine (in_any _ _ _ _).mono ?_; rintro e w' ⟨rfl, rfl⟩)
                     go_ret
                     exact ⟨rfl, HRB.out ()⟩
          | true =>
            by_cases h5 : r.ls > r.ms
            · gi_wp2_with (gi_at_call 51; refine (in_any _ _ _ _).mono ?_; rintro e w' ⟨rfl, rfl⟩)
              go_ret
              exact ⟨rfl, HRB.out ()⟩
            · exact absurd (ruleB h1 h2 h3 h4 (Int.not_lt.1 h5)) HNR.out
end Go.Proofs.YtlabfeofejemjaaGreat
end
section
namespace Go.Proofs.YtlabfeofejemjaaGreat
open Go.RowKit
end Go.Proofs.YtlabfeofejemjaaGreat
end
section
namespace Go.Proofs.YtlabfeofejemjaaGreat
open Go.RowKit
def SaysInts (m : Nat) (l : Nat → Int) (W : World) (e : Ending) (w' : World) : Prop := ∃ (LA : Option Addr) (lc : Nat), e = .returned (.slice LA m lc) ∧ m ≤ lc ∧ IntsAt w' LA m l ∧ Below W.heap.size W w'
abbrev sel (sh : Nat → Sh) (l : Nat → Nat) : Nat → Sh := fun k => sh (l k)
end Go.Proofs.YtlabfeofejemjaaGreat
end
section
namespace Go.Proofs.YtlabfeofejemjaaGreat
open Go.RowKit
theorem reachU_own {r : Rl} {x : Sh} : reachU r x x.d = wideU r x := by unfold reachU; rw [show x.d - x.d = 0 by omega]; simp
theorem reachV_own {r : Rl} {x : Sh} : reachV r x x.d = wideV r x := by unfold reachV; rw [show x.d - x.d = 0 by omega]; simp
def SaysProp (p : Prop) (W : World) (e : Ending) (w' : World) : Prop := ∃ g : Bool, e = .returned (.bool g) ∧ (g = true ↔ p) ∧ Below W.heap.size W w'
theorem Fair_any (r : Rl) (A : Option Addr) (n c : Nat) (sh : Nat → Sh) (W : World) (hc : n ≤ c) (hsh : Hid (ShotsAt W A n sh)) : CallsIn Fc 0 Tryz.prog 25 #[cardV r A n c] W (SaysProp (CardOk r sh n) W) := by
  have hB1 : ∀ x, Below W.heap.size W (W.alloc x) := fun x => (Below.refl _ _).alloc (Nat.le_refl _) _
  have HB1 := Lib.hid hB1
  clear hB1
  gi_enter Tryz.func25, Tryz.ntmps25
  by_cases hn : (n : Int) ≤ 20
  · have hcall := fun w (hb : Below W.heap.size W w) => CheckCard_any r A n c sh w (by omega) hc (Lib.hid (hsh.out.below hb))
    have hz := cardZ_ok (r := r) (sh := sh) (n := n)
    generalize cardZ r sh n = z at *
    have HC := Lib.hid hcall
    have HZ := Lib.hid hz
    clear hcall hz
    by_cases h0 : z = 0
    · have hp := HZ.out.1 h0
      subst h0
      have HP := Lib.hid hp
      clear hp
      gi_wp2_with (gi_at_call 12; refine (HC.out _ (HB1.out _)).mono ?_; rintro e w' ⟨rfl, hb⟩; have HB := Lib.hid ((HB1.out _).trans (hb.mono (HB1.out _).size)); clear hb)
      go_ret
      exact ⟨true, rfl, ⟨fun _ => HP.out, fun _ => rfl⟩, HB.out⟩
    · have hp : ¬ CardOk r sh n := fun h => h0 (HZ.out.2 h)
      have HP := Lib.hid hp
      clear hp
      gi_wp2_with (gi_at_call 12; refine (HC.out _ (HB1.out _)).mono ?_; rintro e w' ⟨rfl, hb⟩; have HB := Lib.hid ((HB1.out _).trans (hb.mono (HB1.out _).size)); clear hb)
      go_ret
      exact ⟨false, by simp [h0], ⟨fun h => (by cases h), fun h => absurd h HP.out⟩, HB.out⟩
  · have hp : ¬ CardOk r sh n := fun h => by have := h.count; omega
    have HP := Lib.hid hp
    clear hp
    gi_wp2
    go_ret
    exact ⟨false, rfl, ⟨fun h => (by cases h), fun h => absurd h HP.out⟩, HB1.out _⟩
end Go.Proofs.YtlabfeofejemjaaGreat
end
section
namespace Go.Proofs.YtlabfeofejemjaaGreat
open Go.RowKit
theorem PicksAt.at {w : World} {A : Option Addr} {n : Nat} {p : Nat → Int} (h : PicksAt w A n p) (k : Nat) : 0 ≤ choiceZ n p k ∧ choiceZ n p k ≤ 65535 := choice_le h k
end Go.Proofs.YtlabfeofejemjaaGreat
end
section
namespace Go.Proofs.YtlabfeofejemjaaGreat
open Go.RowKit
def memb (b : Nat) (k : Nat) : List Nat := (List.range k).filter fun i => b.testBit i
theorem memb_next (b k : Nat) : memb b (k + 1) = memb b k ++ if b.testBit k = true then [k] else [] := by
  simp only [memb, List.range_succ, List.filter_append, List.filter_cons, List.filter_nil]
theorem memb_len (b : Nat) : ∀ k, (memb b k).length ≤ k
  | 0 => by simp [memb]
  | k + 1 => by
    have := memb_len b k
    rw [memb_next, List.length_append]
    split <;> simp <;> omega
theorem bit_all : ∀ b : Fin 256, ∀ k : Fin 8, Go.bits BinOp.and IntKind.i64 (b.val : Int) (wrap64 (2 ^ k.val)) = if b.val.testBit k.val = true then 2 ^ k.val else 0 := by decide +kernel
theorem bit_yes {b k : Nat} (hb : b < 256) (hk : k < 8) (h : b.testBit k = true) : Go.bits BinOp.and IntKind.i64 (b : Int) (wrap64 (2 ^ k)) = 2 ^ k := by
  have := bit_all ⟨b, hb⟩ ⟨k, hk⟩
  simpa [h] using this
theorem bit_no {b k : Nat} (hb : b < 256) (hk : k < 8) (h : b.testBit k = false) : Go.bits BinOp.and IntKind.i64 (b : Int) (wrap64 (2 ^ k)) = 0 := by
  have := bit_all ⟨b, hb⟩ ⟨k, hk⟩
  simpa [h] using this
theorem members_any (b : Nat) (W : World) (hb8 : b < 256) : CallsIn Fc 0 Tryz.prog 79 #[.int .i64 b] W (SaysInts (memb b 8).length (fun k => (((memb b 8).getD k 0 : Nat) : Int)) W) := by
  obtain ⟨i0, hi, hz0, hz1, hz2⟩ := info_parts i3
  have HI := Lib.hid hi
  have HZ0 := Lib.hid hz0
  have HZ1 := Lib.hid hz1
  have HZ2 := Lib.hid hz2
  clear hi hz0 hz1 hz2
  gi_enter Tryz.func79, Tryz.ntmps79
  gi_wp2
  gi_loopw [3, 5] (fun sl i wr => ∃ k : Nat, k ≤ 8 ∧ i = .int .i64 k ∧ wr.ownsRow W.heap.size 3 1 sl (memb b k).length ((memb b k).map intV) ∧ Below W.heap.size W wr) (fun _ i _ => 8 - (intOf i).toNat)
  case atStart => exact ⟨0, by omega, rfl, ⟨rfl, .inl ⟨rfl, rfl⟩⟩, Below.refl _ _⟩
  case round =>
    obtain ⟨k, hk, rfl, ho, hb⟩ := hrel
    have HO := Lib.hid ho
    have HB := Lib.hid hb
    have hs := hb.size
    clear ho hb
    by_cases hlt : k < 8
    · cases ht : b.testBit k with
      | true =>
        have hz := bit_yes hb8 hlt ht
        have hne : ¬ (2 : Int) ^ k = 0 := by have : (0 : Int) < 2 ^ k := Int.pow_pos (by omega); omega
        have hln := memb_len b k
        gi_wp2_with (gi_at_builtin; go_loud (refine wpListIn_append_own _ rfl _ _ 36 rfl W.heap.size 3 i0 (.int .i64 0) 1 8 u30 HI.out HZ0.out HZ1.out HZ2.out rfl (by decide) _ _ _ rfl (HO.out.alloc _) ⟨wr.heap.size, 0, none⟩ 1 1 [intV k] rfl rfl (cells_new _ _ _) (by simp [Value.oneCell']) (by simp [maxLen]; omega) (by omega) (by simp; omega) ?_); intro v' w4 hown4 hg4 hnil4)
        have hx4 := HO.out.alloc (.cells #[intV k] 3)
        go_roundw
        case rel =>
          refine ⟨k + 1, by omega, by go_num, ?_, (HB.out.alloc (by omega) _).grown hg4 (by simp; omega) (fun g hg => (hx4.lt g hg).1)⟩
          rw [memb_next, if_pos ht]
          simpa using hown4
        case measure => simp [intOf]; omega
      | false =>
        have hz := bit_no hb8 hlt ht
        gi_wp2
        go_roundw
        case rel =>
          refine ⟨k + 1, by omega, by go_num, ?_, HB.out⟩
          rw [memb_next, if_neg (by rw [ht]; simp), List.append_nil]
          exact HO.out
        case measure => simp [intOf]; omega
    · obtain rfl : k = 8 := by omega
      obtain ⟨LA, lc, rfl, h1, h2⟩ := ints_own HO.out
      have H2 := Lib.hid h2
      clear h2
      gi_wp2
      go_ret
      exact ⟨LA, lc, rfl, h1, H2.out, HB.out⟩
def cmpZ (a b : Int) : Int := if a < b then -1 else if b < a then 1 else 0
theorem isNaN_any (a : Int) (W : World) : CallsIn Fc 0 Tryz.prog 113 #[.int .i64 a] W fun e w' => e = .returned (.bool false) ∧ W = w' := by
  gi_enter Tryz.func113, Tryz.ntmps113
  gi_wp2
  go_ret
  exact ⟨rfl, rfl⟩
theorem Compare_any (a b : Int) (W : World) : CallsIn Fc 0 Tryz.prog 81 #[.int .i64 a, .int .i64 b] W fun e w' => e = .returned (.int .i64 (cmpZ a b)) ∧ W = w' := by
  by_cases h1 : a < b
  · gi_enter Tryz.func81, Tryz.ntmps81
    gi_wp2_with (gi_at_call 113; refine (isNaN_any _ _).mono ?_; rintro e w' ⟨rfl, rfl⟩)
    go_ret
    exact ⟨by rw [cmpZ, if_pos h1]; rfl, rfl⟩
  · have h3 : ¬ a < b := h1
    by_cases h2 : b < a
    · gi_enter Tryz.func81, Tryz.ntmps81
      gi_wp2_with (gi_at_call 113; refine (isNaN_any _ _).mono ?_; rintro e w' ⟨rfl, rfl⟩)
      go_ret
      exact ⟨by rw [cmpZ, if_neg (by omega), if_pos (by omega)]; rfl, rfl⟩
    · gi_enter Tryz.func81, Tryz.ntmps81
      gi_wp2_with (gi_at_call 113; refine (isNaN_any _ _).mono ?_; rintro e w' ⟨rfl, rfl⟩)
      go_ret
      exact ⟨by rw [cmpZ, if_neg (by omega), if_neg (by omega)]; rfl, rfl⟩
end Go.Proofs.YtlabfeofejemjaaGreat
end
section
namespace Go.Proofs.YtlabfeofejemjaaGreat
open Go.RowKit
def LexLt (a b : Nat → Nat) (m : Nat) : Prop := ∃ i, i < m ∧ (∀ j, j < i → a j = b j) ∧ a i < b i
def SaysLess (p : Prop) (W : World) (e : Ending) (w' : World) : Prop := ∃ z : Int, e = .returned (.int .i64 z) ∧ (z < 0 ↔ p) ∧ W = w'
theorem CompareFunc_any (LA LB : Option Addr) (m lc kc : Nat) (a b : Nat → Nat) (W : World) (hm : m ≤ 8) (hc : m ≤ lc) (hk : m ≤ kc) (ha : Hid (IntsAt W LA m fun k => (a k : Int))) (hb : Hid (IntsAt W LB m fun k => (b k : Int))) :
    CallsIn Fc 0 Tryz.prog 112 #[.slice LA m lc, .slice LB m kc, .func (.func 81) #[] #[]] W (SaysLess (LexLt a b m) W) := by
  gi_enter Tryz.func112, Tryz.ntmps112
  gi_wp2
  gi_loopw [13] (fun x wr => ∃ k : Nat, k ≤ m ∧ x = .int .i64 k ∧ wr = W ∧ ∀ j, j < k → a j = b j) (fun x _ => m - (intOf x).toNat)
  case atStart => exact ⟨0, by omega, rfl, rfl, fun j hj => by omega⟩
  case round =>
    obtain ⟨k, hk, rfl, rfl, heq⟩ := hrel
    have HEQ := Lib.hid heq
    clear heq
    by_cases hlt : k < m
    · obtain ⟨b1, o1, rfl, q1⟩ := ha.out k hlt
      obtain ⟨b2, o2, rfl, q2⟩ := hb.out k hlt
      have hnlt : ¬ (k : Int) ≥ m := by omega
      by_cases h1 : a k < b k
      · have hz : cmpZ (a k) (b k) = -1 := by unfold cmpZ; rw [if_pos (by omega)]
        have hp : LexLt a b m := ⟨k, hlt, HEQ.out, h1⟩
        gi_wp2_with (gi_at_call 81; refine (Compare_any _ _ _).mono ?_; rintro e w' ⟨rfl, rfl⟩)
        go_ret
        exact ⟨-1, by first | rfl | simp [hz], ⟨fun _ => hp, fun _ => by omega⟩, rfl⟩
      · by_cases h2 : b k < a k
        · have hz : cmpZ (a k) (b k) = 1 := by unfold cmpZ; rw [if_neg (by omega), if_pos (by omega)]
          have hp : ¬ LexLt a b m := by
            rintro ⟨i, hi, he, hlt'⟩
            rcases Nat.lt_trichotomy i k with h | h | h
            · have := HEQ.out i h; omega
            · subst h; omega
            · have := he k h; omega
          gi_wp2_with (gi_at_call 81; refine (Compare_any _ _ _).mono ?_; rintro e w' ⟨rfl, rfl⟩)
          go_ret
          exact ⟨1, by first | rfl | simp [hz], ⟨fun h => (by omega), fun h => absurd h hp⟩, rfl⟩
        · have hz : cmpZ (a k) (b k) = 0 := by unfold cmpZ; rw [if_neg (by omega), if_neg (by omega)]
          have he := Lib.hid (show a k = b k by omega)
          gi_wp2_with (gi_at_call 81; refine (Compare_any _ _ _).mono ?_; rintro e w' ⟨rfl, rfl⟩)
          go_roundw
          case rel => exact ⟨k + 1, by omega, by go_num, trivial, fun j hj => by
            by_cases e : j = k
            · subst e; exact he.out
            · exact HEQ.out j (by omega)⟩
          case measure => simp [intOf]; omega
    · obtain rfl : k = m := by omega
      have hp : ¬ LexLt a b k := by
        rintro ⟨i, hi, he, hlt'⟩
        have := HEQ.out i hi
        omega
      gi_wp2
      go_ret
      exact ⟨0, rfl, ⟨fun h => (by omega), fun h => absurd h hp⟩, rfl⟩
def Better (a : Nat → Nat) (m : Nat) (b : Nat → Nat) (k : Nat) : Prop := k < m ∨ (m = k ∧ LexLt a b m)
theorem better_any (LA LB : Option Addr) (m lc k kc : Nat) (a b : Nat → Nat) (W : World) (hm : m ≤ 8) (hm' : k ≤ 8) (hc : m ≤ lc) (hk : k ≤ kc) (ha : Hid (IntsAt W LA m fun k => (a k : Int))) (hb : Hid (IntsAt W LB k fun k => (b k : Int))) :
    CallsIn Fc 0 Tryz.prog 80 #[.slice LA m lc, .slice LB k kc, .func (.func 81) #[] #[]] W fun e w' => ∃ g : Bool, e = .returned (.bool g) ∧ (g = true ↔ Better a m b k) ∧ W = w' := by
  by_cases h : m = k
  · subst h
    have hne : ¬ (m : Int) ≠ m := by omega
    gi_enter Tryz.func80, Tryz.ntmps80
    gi_wp2_with (gi_at_call 112; refine (CompareFunc_any LA LB m lc kc a b _ hm hc hk ha hb).mono ?_; rintro e w' ⟨z, rfl, hz, rfl⟩)
    go_ret
    refine ⟨decide (z < 0), by simp, ?_, rfl⟩
    simp only [decide_eq_true_eq, Better]
    rw [hz]
    exact ⟨fun h => .inr ⟨trivial, h⟩, fun h => by rcases h with h | h; omega; exact h.2⟩
  · gi_enter Tryz.func80, Tryz.ntmps80
    gi_wp2
    go_ret
    refine ⟨decide (k < m), by simp, ?_, rfl⟩
    simp only [decide_eq_true_eq, Better]
    exact ⟨fun h => .inl h, fun h' => by rcases h' with h' | h'; exact h'; exact absurd h'.1 h⟩
end Go.Proofs.YtlabfeofejemjaaGreat
end
section
namespace Go.Proofs.YtlabfeofejemjaaGreat
open Go.RowKit
section
variable {F : Fence} {nF : Nat} {P : Program} {b : Frame} {a : Act} {k : List Item} {cs : List Frame} {w : World} {Q : Exit → Act → World → Prop}
theorem stepR_scope {c : Code} : step P (lone (b.atR a (.code (.scope c) :: k)) cs w) = .next (lone (b.atR a (.code c :: .inScope c :: k)) cs w) :=
  step_lone_go (by simp [stepG, stepG.exec, Frame.atR])
theorem stepR_inScope {c : Code} : step P (lone (b.atR a (.inScope c :: k)) cs w) = .next (lone (b.atR a k) cs w) :=
  step_lone_go (by simp [stepG, stepG.exec, Frame.atR])
theorem wpIn_scope {c : Code} (h : c.wpIn F nF P (Exit.noGoto Q) a w) : (Code.scope c).wpIn F nF P Q a w := by
  intro b k cs hro hb hr
  have h0 : (lone (b.atR a (.code (.scope c) :: k)) cs w).fenced P F := fenced_calm hb hr rfl
  obtain ⟨e, a₁, w₁, hq, harr⟩ := h b (.inScope c :: k) cs hro hb hr
  cases e with
  | normal => exact ⟨.normal, a₁, w₁, hq, .head h0 stepR_scope (StepsIn.trans harr (.one (fenced_calm hb hr rfl) stepR_inScope))⟩
  | exit id =>
    have hx : exitTo id (.inScope c :: k) = exitTo id k := by simp [exitTo]
    exact ⟨_, a₁, w₁, hq, fun k' hk => .head h0 stepR_scope (harr.1 k' (by rw [hx]; exact hk)),
      fun hr' hk => let ⟨k₁, h1, h2⟩ := harr.2 hr' (by rw [hx]; exact hk); ⟨k₁, h1, .head h0 stepR_scope h2⟩⟩
  | goto l => exact hq.elim
  | ret => exact ⟨_, a₁, w₁, hq, .of_steps (.one h0 stepR_scope) harr⟩
  | panic ch => exact ⟨_, a₁, w₁, hq, .of_steps (.one h0 stepR_scope) harr⟩
  | outgrown => exact ⟨_, a₁, w₁, hq, .of_steps (.one h0 stepR_scope) harr⟩
end
theorem five90 {w : World} {p : Nat} {t : TypeId} {a0 a1 a2 a3 a4 : Value} (h : w.heap[p]? = some (.cells #[a0, a1, a2, a3, a4] t (0, 0))) : w.cell? ⟨p, 0, none⟩ = some a0 ∧ w.cell? ⟨p, 1, none⟩ = some a1 ∧ w.cell? ⟨p, 2, none⟩ = some a2 ∧ w.cell? ⟨p, 3, none⟩ = some a3 ∧ w.cell? ⟨p, 4, none⟩ = some a4 := by
  refine ⟨?_, ?_, ?_, ?_, ?_⟩ <;> simp [World.cell?, h]
open Classical in
noncomputable def bst (r : Rl) (sh : Nat → Sh) : Nat → List Nat
  | 0 => []
  | b + 1 => if AllAgree r (sel sh fun k => (memb b 8).getD k 0) (memb b 8).length ∧ Better (fun k => (memb b 8).getD k 0) (memb b 8).length (fun k => (bst r sh b).getD k 0) (bst r sh b).length then memb b 8 else bst r sh b
theorem bst_len (r : Rl) (sh : Nat → Sh) : ∀ b, (bst r sh b).length ≤ 8
  | 0 => by simp [bst]
  | b + 1 => by
    rw [bst]
    split
    · exact memb_len b 8
    · exact bst_len r sh b
def mN (b : Nat) : Nat := (memb b 8).length
def mF (b k : Nat) : Nat := (memb b 8).getD k 0
noncomputable def bN (r : Rl) (sh : Nat → Sh) (b : Nat) : Nat := (bst r sh b).length
noncomputable def bF (r : Rl) (sh : Nat → Sh) (b k : Nat) : Nat := (bst r sh b).getD k 0
theorem bst_next {r : Rl} {sh : Nat → Sh} {b : Nat} (h1 : AllAgree r (sel sh (mF b)) (mN b)) (h2 : Better (mF b) (mN b) (bF r sh b) (bN r sh b)) : bN r sh (b + 1) = mN b ∧ bF r sh (b + 1) = mF b := by
  have : bst r sh (b + 1) = memb b 8 := by rw [bst]; exact if_pos ⟨h1, h2⟩
  exact ⟨by rw [bN, this, mN], by funext k; rw [bF, this, mF]⟩
theorem bst_stay {r : Rl} {sh : Nat → Sh} {b : Nat} (h : ¬ (AllAgree r (sel sh (mF b)) (mN b) ∧ Better (mF b) (mN b) (bF r sh b) (bN r sh b))) : bN r sh (b + 1) = bN r sh b ∧ bF r sh (b + 1) = bF r sh b := by
  have : bst r sh (b + 1) = bst r sh b := by rw [bst]; exact if_neg h
  exact ⟨by rw [bN, this, bN], by funext k; rw [bF, this, bF]⟩
theorem pow_le {n : Nat} (h : n ≤ 8) : 2 ^ n ≤ 256 := Nat.pow_le_pow_right (by omega) h
theorem shl_one : ∀ n : Fin 9, wrap64 (2 ^ n.val) = ((2 ^ n.val : Nat) : Int) := by decide +kernel
theorem memb_lt {b n : Nat} (hb : b < 2 ^ n) (hn : n ≤ 8) {k : Nat} (hk : k < mN b) : mF b k < n := by
  unfold mF
  unfold mN at hk
  have h1 : (memb b 8).getD k 0 ∈ memb b 8 := by simp [hk]
  have h2 : b.testBit ((memb b 8).getD k 0) = true := (List.mem_filter.1 h1).2
  generalize (memb b 8).getD k 0 = i at *
  rcases Nat.lt_or_ge i n with h | h
  · exact h
  · rw [Nat.testBit_lt_two_pow (Nat.lt_of_lt_of_le hb (Nat.pow_le_pow_right (by omega) h))] at h2
    cases h2
theorem trust_any (r : Rl) (A : Option Addr) (n c : Nat) (sh : Nat → Sh) (W : World) (hn : n ≤ 8) (hc : n ≤ c) (hr : Hid (RlOk r)) (hx : Hid (∀ k, k < n → ShOk (sh k))) (hsh : Hid (ShotsAt W A n sh)) :
    CallsIn Fc 0 Tryz.prog 55 #[cardV r A n c] W (SaysInts (bN r sh (2 ^ n)) (fun k => (bF r sh (2 ^ n) k : Int)) W) := by
  have hag := fun (i1 i2 : Nat) (w : World) (h1 : i1 < n) (h2 : i2 < n) (hb : Below W.heap.size W w) => agree_any r A n c i1 i2 sh w h1 h2 hn hr hx (Lib.hid (hsh.out.below hb))
  have HAG := Lib.hid hag
  clear hag
  have hpow := pow_le hn
  have hshl := shl_one ⟨n, by omega⟩
  simp only at hshl
  generalize hP : (2 : Nat) ^ n = P at *
  have HP := Lib.hid hP
  clear hP
  gi_enter Tryz.func55, Tryz.ntmps55
  gi_wp2
  refine wpIn_scope ?_
  gi_wp2
  refine wpIn_label ?_
  gi_wp2
  obtain ⟨W1, hW1⟩ : ∃ W1, W1 = W.alloc (.cells #[.int .i64 r.ls, .int .i64 r.ms, .int .i64 r.wd, .int .i64 r.lt, .slice A n c] 90) := ⟨_, rfl⟩
  have hb1 : Below W.heap.size W W1 := by rw [hW1]; exact (Below.refl _ _).alloc (Nat.le_refl _) _
  have hbx : W1.heap[W.heap.size]? = some (.cells #[.int .i64 r.ls, .int .i64 r.ms, .int .i64 r.wd, .int .i64 r.lt, .slice A n c] 90 (0, 0)) := by rw [hW1]; exact heap_new _ _
  rw [← hW1]
  clear hW1
  obtain ⟨e0, e1, e2, e3, e4⟩ := five90 hbx
  have HB1 := Lib.hid hb1
  clear hb1 hbx
  rw [hshl]
  gi_loopw [3, 15] (fun sl x wr => ∃ (b : Nat) (LA : Option Addr) (lc : Nat), b ≤ P ∧ x = .int .i64 b ∧ sl = .slice LA (bN r sh b) lc ∧ bN r sh b ≤ lc ∧ IntsAt wr LA (bN r sh b) (fun k => (bF r sh b k : Int)) ∧ Below W1.heap.size W1 wr) (fun _ x _ => P - (intOf x).toNat)
  case atStart => exact ⟨0, none, 0, by omega, rfl, rfl, Nat.le_refl _, fun k hk => absurd hk (by simp [bN, bst]), Below.refl _ _⟩
  case round =>
    obtain ⟨b, LB, lb, hb, rfl, rfl, hlb, hib, hbw⟩ := hrel
    have HIB := Lib.hid hib
    have HBW := Lib.hid hbw
    clear hib hbw
    have hl8 : bN r sh b ≤ 8 := bst_len r sh b
    by_cases hlt : b < P
    · have hm : ∀ w, CallsIn Fc 0 Tryz.prog 79 #[.int .i64 b] w (SaysInts (mN b) (fun k => (mF b k : Int)) w) := fun w => members_any b w (by omega)
      have hml : mN b ≤ 8 := memb_len b 8
      have hmn := fun k (hk : k < mN b) => memb_lt (b := b) (n := n) (by rw [HP.out]; exact hlt) hn hk
      have hstay := Lib.hid (bst_stay (r := r) (sh := sh) (b := b))
      have hnext := Lib.hid (bst_next (r := r) (sh := sh) (b := b))
      have HMN := Lib.hid hmn
      have HM := Lib.hid hm
      clear hmn hm
      gi_wp2_with (gi_at_call 79; refine (HM.out _).mono ?_; rintro e w2 ⟨LA, lc, rfl, hlc, hil, hb2⟩; have HIL := Lib.hid hil; have HB2 := Lib.hid (HBW.out.trans (hb2.mono HBW.out.size)); have HIB2 := Lib.hid (HIB.out.below hb2); clear hil hb2)
      gi_loopw [22] (fun x wr => ∃ i : Nat, i ≤ mN b ∧ x = .int .i64 i ∧ Below w2.heap.size w2 wr ∧ ∀ p q, p < q → q < i → agreeB r (sh (mF b p)) (sh (mF b q)) = true) (fun x _ => mN b - (intOf x).toNat)
      case atStart => exact ⟨0, by omega, rfl, Below.refl _ _, fun p q h1 h2 => by omega⟩
      case round =>
        obtain ⟨i, hi, rfl, hb3, hag3⟩ := hrel
        have HB3 := Lib.hid hb3
        have HAG3 := Lib.hid hag3
        clear hb3 hag3
        by_cases hlt2 : i < mN b
        · obtain ⟨bl, ol, rfl, hq⟩ := HIL.out i hlt2
          have hq := Below.old HB3.out hq
          gi_wp2
          gi_loopw [31] (fun x wr' => ∃ j : Nat, j ≤ i ∧ x = .int .i64 j ∧ Below wr.heap.size wr wr' ∧ ∀ p, p < j → agreeB r (sh (mF b p)) (sh (mF b i)) = true) (fun x _ => i - (intOf x).toNat)
          case atStart => exact ⟨0, by omega, rfl, Below.refl _ _, fun p h1 => by omega⟩
          case round =>
            obtain ⟨j, hj, rfl, hb4, hag4⟩ := hrel
            have HAG4 := Lib.hid hag4
            clear hag4
            have HB34 := Lib.hid (HB3.out.trans (hb4.mono HB3.out.size))
            have HB4 := Lib.hid hb4
            clear hb4
            by_cases hlt3 : j < i
            · have hjm : j < mN b := by omega
              obtain ⟨bl', ol', e', hq2⟩ := HIL.out j hjm
              cases e'
              have hq2 := Below.old HB34.out hq2
              have hbw1 := HB2.out.trans (HB34.out.mono HB2.out.size)
              have c0 := Below.old hbw1 e0
              have c1 := Below.old hbw1 e1
              have c2 := Below.old hbw1 e2
              have c3 := Below.old hbw1 e3
              have c4 := Below.old hbw1 e4
              have hcall := HAG.out (mF b j) (mF b i) _ (HMN.out j hjm) (HMN.out i hlt2) (HB1.out.trans (hbw1.mono HB1.out.size))
              have HCALL := Lib.hid hcall
              clear hcall hbw1
              cases hg : agreeB r (sh (mF b j)) (sh (mF b i)) with
              | true =>
                rw [hg] at HCALL
                gi_wp2_with (gi_at_call 78; refine HCALL.out.mono ?_; rintro e w5 ⟨rfl, hb5⟩; have HB5 := Lib.hid (HB4.out.trans (hb5.mono HB4.out.size)); clear hb5)
                go_roundw
                case rel =>
                  refine ⟨j + 1, by omega, by go_num, HB5.out, fun p hp => ?_⟩
                  by_cases e : p = j
                  · subst e; exact hg
                  · exact HAG4.out p (by omega)
                case measure => simp [intOf]; omega
              | false =>
                rw [hg] at HCALL
                gi_wp2_with (gi_at_call 78; refine HCALL.out.mono ?_; rintro e w5 ⟨rfl, hb5⟩; have HB5 := Lib.hid (HB34.out.trans (hb5.mono HB34.out.size)); clear hb5)
                obtain ⟨g1, g2⟩ := hstay.out fun h => by
                  have := h.1 j i hlt3 hlt2
                  simp only [sel] at this
                  rw [hg] at this
                  cases this
                go_roundw
                case rel => exact ⟨b + 1, LB, lb, by omega, by go_num, by rw [g1], by rw [g1]; exact hlb, by rw [g1, g2]; exact HIB2.out.below HB5.out, HB2.out.trans (HB5.out.mono HB2.out.size)⟩
                case measure => simp [intOf]; omega
            · obtain rfl : j = i := by omega
              gi_wp2
              go_roundw
              case rel =>
                refine ⟨j + 1, by omega, by go_num, HB34.out, fun p q h1 h2 => ?_⟩
                by_cases e : q = j
                · subst e; exact HAG4.out p h1
                · exact HAG3.out p q h1 (by omega)
              case measure => simp [intOf]; omega
        · obtain rfl : i = mN b := by omega
          have hal : AllAgree r (sel sh (mF b)) (mN b) := HAG3.out
          have hcall := better_any LA LB (mN b) lc (bN r sh b) lb (mF b) (bF r sh b) wr hml hl8 hlc hlb (Lib.hid (HIL.out.below HB3.out)) (Lib.hid (HIB2.out.below HB3.out))
          have HCALL := Lib.hid hcall
          have HAL := Lib.hid hal
          clear hcall hal
          by_cases hbt : Better (mF b) (mN b) (bF r sh b) (bN r sh b)
          · have G := Lib.hid (hnext.out HAL.out hbt)
            have HBT := Lib.hid hbt
            clear hbt
            gi_wp2_with (gi_at_call 80; refine HCALL.out.mono ?_; rintro e w5 ⟨g, rfl, hg, rfl⟩; obtain rfl : g = true := hg.2 HBT.out; clear hg)
            obtain ⟨g1, g2⟩ := G.out
            go_roundw
            case rel => exact ⟨b + 1, LA, lc, by omega, by go_num, by rw [g1], by rw [g1]; exact hlc, by rw [g1, g2]; exact HIL.out.below HB3.out, HB2.out.trans (HB3.out.mono HB2.out.size)⟩
            case measure => simp [intOf]; omega
          · obtain ⟨g1, g2⟩ := hstay.out fun h => hbt h.2
            gi_wp2_with (gi_at_call 80; refine HCALL.out.mono ?_; rintro e w5 ⟨g, rfl, hg, rfl⟩; obtain rfl : g = false := by (cases g; rfl; exact absurd (hg.1 rfl) hbt))
            go_roundw
            case rel => exact ⟨b + 1, LB, lb, by omega, by go_num, by rw [g1], by rw [g1]; exact hlb, by rw [g1, g2]; exact HIB2.out.below HB3.out, HB2.out.trans (HB3.out.mono HB2.out.size)⟩
            case measure => simp [intOf]; omega
    · obtain rfl : b = P := by omega
      gi_wp2
      try rw [Exit.noGoto_ret]
      go_ret
      exact ⟨LB, lb, rfl, hlb, HIB.out, HB1.out.trans (HBW.out.mono HB1.out.size)⟩
end Go.Proofs.YtlabfeofejemjaaGreat
end
