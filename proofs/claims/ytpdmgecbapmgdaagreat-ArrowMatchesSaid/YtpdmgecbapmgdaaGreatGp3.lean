/- A part of the proof that ArrowMatches returns true for every input: no further condition. -/
import Derived.Test.YtpdmgecbapmgdaaGreatGp2
import Derived.Laws.Rows
import Derived.Stop.RegionWithIn
import Derived.Maps.OwnIn
import Derived.Lib.SliceRun
set_option linter.unusedVariables false
set_option maxHeartbeats 2000000
set_option maxRecDepth 100000
section
namespace Go.Proofs.YtpdmgecbapmgdaaGreat
open Go.RowKit
theorem bothZ_two (a b : Int) : bothZ a b = 2 ↔ a = 2 ∨ b = 2 := by
  unfold bothZ
  by_cases h : a = 2 ∨ b = 2
  · simp [h]
  · rw [if_neg h]
    constructor
    · intro h'
      split at h' <;> omega
    · intro h'; exact absurd h' h
theorem bothZ_one (a b : Int) : bothZ a b = 1 ↔ a = 1 ∧ b = 1 := by
  unfold bothZ
  by_cases h : a = 2 ∨ b = 2
  · rw [if_pos h]
    omega
  · rw [if_neg h]
    by_cases h1 : a = 1 ∧ b = 1
    · simp [h1]
    · rw [if_neg h1]
      constructor
      · intro h'; omega
      · intro h'; exact absurd h' h1
theorem bothZ_range (a b : Int) : bothZ a b = 0 ∨ bothZ a b = 1 ∨ bothZ a b = 2 := by
  unfold bothZ
  split
  · exact .inr (.inr rfl)
  · split
    · exact .inr (.inl rfl)
    · exact .inl rfl
theorem rowZ_two (T : Nat → Nat → Int) (l : Nat → Nat) (i : Nat) (s : Int) : ∀ j, rowZ T l i j s = 2 ↔ s = 2 ∨ ∃ k, k < j ∧ T (l k) (l i) = 2
  | 0 => by simp [rowZ]
  | j + 1 => by
    rw [rowZ, bothZ_two, rowZ_two T l i s j]
    constructor
    · rintro ((h | ⟨k, h1, h2⟩) | h)
      · exact .inl h
      · exact .inr ⟨k, by omega, h2⟩
      · exact .inr ⟨j, by omega, h⟩
    · rintro (h | ⟨k, h1, h2⟩)
      · exact .inl (.inl h)
      · rcases Nat.lt_succ_iff_lt_or_eq.1 h1 with h1 | rfl
        · exact .inl (.inr ⟨k, h1, h2⟩)
        · exact .inr h2
theorem rowZ_one (T : Nat → Nat → Int) (l : Nat → Nat) (i : Nat) (s : Int) : ∀ j, rowZ T l i j s = 1 ↔ s = 1 ∧ ∀ k, k < j → T (l k) (l i) = 1
  | 0 => by simp [rowZ]
  | j + 1 => by
    rw [rowZ, bothZ_one, rowZ_one T l i s j]
    constructor
    · rintro ⟨⟨h, h1⟩, h2⟩
      refine ⟨h, fun k hk => ?_⟩
      rcases Nat.lt_succ_iff_lt_or_eq.1 hk with hk | rfl
      · exact h1 k hk
      · exact h2
    · rintro ⟨h, h1⟩
      exact ⟨⟨h, fun k hk => h1 k (by omega)⟩, h1 j (by omega)⟩
theorem rowZ_range (T : Nat → Nat → Int) (l : Nat → Nat) (i : Nat) (s : Int) (hs : s = 0 ∨ s = 1 ∨ s = 2) : ∀ j, rowZ T l i j s = 0 ∨ rowZ T l i j s = 1 ∨ rowZ T l i j s = 2
  | 0 => hs
  | j + 1 => bothZ_range _ _
theorem listZ_range (T : Nat → Nat → Int) (l : Nat → Nat) : ∀ m, listZ T l m = 0 ∨ listZ T l m = 1 ∨ listZ T l m = 2
  | 0 => .inr (.inl rfl)
  | m + 1 => rowZ_range T l m _ (listZ_range T l m) m
theorem listZ_two (T : Nat → Nat → Int) (l : Nat → Nat) : ∀ m, listZ T l m = 2 ↔ ∃ j i, j < i ∧ i < m ∧ T (l j) (l i) = 2
  | 0 => by simp [listZ]
  | m + 1 => by
    rw [listZ, rowZ_two, listZ_two T l m]
    constructor
    · rintro (⟨j, i, h1, h2, h3⟩ | ⟨k, h1, h2⟩)
      · exact ⟨j, i, h1, by omega, h3⟩
      · exact ⟨k, m, h1, by omega, h2⟩
    · rintro ⟨j, i, h1, h2, h3⟩
      rcases Nat.lt_succ_iff_lt_or_eq.1 h2 with h2 | rfl
      · exact .inl ⟨j, i, h1, h2, h3⟩
      · exact .inr ⟨j, h1, h3⟩
theorem listZ_one (T : Nat → Nat → Int) (l : Nat → Nat) : ∀ m, listZ T l m = 1 ↔ ∀ j i, j < i → i < m → T (l j) (l i) = 1
  | 0 => by simp [listZ]
  | m + 1 => by
    rw [listZ, rowZ_one, listZ_one T l m]
    constructor
    · rintro ⟨h1, h2⟩ j i hj hi
      rcases Nat.lt_succ_iff_lt_or_eq.1 hi with hi | rfl
      · exact h1 j i hj hi
      · exact h2 j hj
    · intro h
      exact ⟨fun j i hj hi => h j i hj (by omega), fun k hk => h k m hk (by omega)⟩
structure Gathered (T : Nat → Nat → Int) (l : Nat → Nat) (m i k : Nat) (all none : Bool) : Prop where
  all : all = true ↔ ∀ j t, j < t → t < m → (j < i ∨ (j = i ∧ t < k)) → T (l j) (l t) = 1
  none : none = true ↔ ∃ j t, j < t ∧ t < m ∧ (j < i ∨ (j = i ∧ t < k)) ∧ T (l j) (l t) = 2
theorem Gathered.zero (T : Nat → Nat → Int) (l : Nat → Nat) (m : Nat) : Gathered T l m 0 1 true false where
  all := ⟨fun _ j t h1 h2 h3 => by omega, fun _ => rfl⟩
  none := ⟨fun h => by simp at h, fun ⟨j, t, h1, h2, h3, h4⟩ => by omega⟩
theorem Gathered.round {T : Nat → Nat → Int} {l : Nat → Nat} {m i k : Nat} {all none : Bool} (h : Gathered T l m i k all none) (hk : m ≤ k) : Gathered T l m (i + 1) (i + 2) all none where
  all := h.all.trans ⟨fun h j t h1 h2 h3 => h j t h1 h2 (by omega), fun h j t h1 h2 h3 => h j t h1 h2 (by omega)⟩
  none := h.none.trans ⟨fun ⟨j, t, h1, h2, h3, h4⟩ => ⟨j, t, h1, h2, by omega, h4⟩, fun ⟨j, t, h1, h2, h3, h4⟩ => ⟨j, t, h1, h2, by omega, h4⟩⟩
theorem Gathered.pair {T : Nat → Nat → Int} {l : Nat → Nat} {m i k : Nat} {all none : Bool} (h : Gathered T l m i k all none) (hi : i < k) (hk : k < m) {x : Int} (h1 : x = 1 ↔ T (l i) (l k) = 1) (h2 : x = 2 ↔ T (l i) (l k) = 2) :
    Gathered T l m i (k + 1) (if all then x == 1 else false) (if none then true else x == 2) where
  all := by
    cases all with
    | false =>
      simp only [Bool.false_eq_true, if_false, false_iff]
      intro h3
      exact Bool.noConfusion (h.all.2 fun j t a b c => h3 j t a b (by omega))
    | true =>
      simp only [if_true, beq_iff_eq]
      constructor
      · intro hx j t a b c
        by_cases e : j = i ∧ t = k
        · obtain ⟨rfl, rfl⟩ := e
          exact h1.1 hx
        · exact h.all.1 rfl j t a b (by omega)
      · intro h3
        exact h1.2 (h3 i k hi hk (by omega))
  none := by
    cases none with
    | true =>
      simp only [if_true, true_iff]
      obtain ⟨j, t, a, b, c, d⟩ := h.none.1 rfl
      exact ⟨j, t, a, b, by omega, d⟩
    | false =>
      simp only [Bool.false_eq_true, if_false, beq_iff_eq]
      constructor
      · intro hx
        exact ⟨i, k, hi, hk, by omega, h2.1 hx⟩
      · rintro ⟨j, t, a, b, c, d⟩
        by_cases e : j = i ∧ t = k
        · obtain ⟨rfl, rfl⟩ := e
          exact h2.2 d
        · exact Bool.noConfusion (h.none.2 ⟨j, t, a, b, by omega, d⟩)
theorem Gathered.end {T : Nat → Nat → Int} {l : Nat → Nat} {m k : Nat} {all none : Bool} (h : Gathered T l m m k all none) : (listZ T l m == 1) = all ∧ (listZ T l m == 2) = none := by
  have a1 : listZ T l m = 1 ↔ all = true := (listZ_one T l m).trans ⟨fun h3 => h.all.2 fun j t a b _ => h3 j t a b, fun h3 j t a b => h.all.1 h3 j t a b (by omega)⟩
  have a2 : listZ T l m = 2 ↔ none = true := (listZ_two T l m).trans ⟨fun ⟨j, t, a, b, c⟩ => h.none.2 ⟨j, t, a, b, by omega, c⟩, fun h3 => by
    obtain ⟨j, t, a, b, _, c⟩ := h.none.1 h3
    exact ⟨j, t, a, b, c⟩⟩
  refine ⟨?_, ?_⟩
  · rw [Bool.eq_iff_iff, beq_iff_eq]; exact a1
  · rw [Bool.eq_iff_iff, beq_iff_eq]; exact a2
theorem Gathered.cases {T : Nat → Nat → Int} {l : Nat → Nat} {m k : Nat} {all none : Bool} (h : Gathered T l m m k all none) :
    (listZ T l m = 0 ∧ all = false ∧ none = false) ∨ (listZ T l m = 1 ∧ all = true ∧ none = false) ∨ (listZ T l m = 2 ∧ all = false ∧ none = true) := by
  obtain ⟨h1, h2⟩ := h.end
  rcases listZ_range T l m with h3 | h3 | h3 <;> rw [h3] at h1 h2 <;> simp at h1 h2
  · exact .inl ⟨h3, h1, h2⟩
  · exact .inr (.inl ⟨h3, h1, h2⟩)
  · exact .inr (.inr ⟨h3, h1, h2⟩)
end Go.Proofs.YtpdmgecbapmgdaaGreat
end
section
namespace Go.Proofs.YtpdmgecbapmgdaaGreat
open Go.RowKit
theorem pairZ_one (rs rl rw : Int) (x y : Shaft) : pairZ rs rl rw x y = 1 ↔ ∀ m, m < 3 → nearOf rs rl rw x y m = 1 := by
  unfold pairZ
  simp only [upTo, bothZ_one]
  constructor
  · rintro ⟨⟨⟨_, h0⟩, h1⟩, h2⟩ m hm
    have h3 : m = 0 ∨ m = 1 ∨ m = 2 := by omega
    rcases h3 with rfl | rfl | rfl <;> assumption
  · intro h
    exact ⟨⟨⟨trivial, h 0 (by omega)⟩, h 1 (by omega)⟩, h 2 (by omega)⟩
theorem pairZ_two (rs rl rw : Int) (x y : Shaft) : pairZ rs rl rw x y = 2 ↔ ∃ m, m < 3 ∧ nearOf rs rl rw x y m = 2 := by
  unfold pairZ
  simp only [upTo, bothZ_two]
  constructor
  · rintro (((h | h) | h) | h)
    · omega
    · exact ⟨0, by omega, h⟩
    · exact ⟨1, by omega, h⟩
    · exact ⟨2, by omega, h⟩
  · rintro ⟨m, hm, h⟩
    have h3 : m = 0 ∨ m = 1 ∨ m = 2 := by omega
    rcases h3 with rfl | rfl | rfl
    · exact .inl (.inl (.inr h))
    · exact .inl (.inr h)
    · exact .inr h
structure SpansOk (x : Shaft) : Prop where
  least : ∀ m, m < 3 → 0 ≤ spanA x m
  up : ∀ m, m < 3 → spanA x m ≤ spanB x m
  most : ∀ m, m < 3 → spanB x m ≤ 9999
theorem ShaftOk.spans {x : Shaft} (h : ShaftOk x) : SpansOk x where
  least := fun m hm => by
    have h3 : m = 0 ∨ m = 1 ∨ m = 2 := by omega
    rcases h3 with rfl | rfl | rfl
    · exact h.s0
    · exact h.l0
    · exact h.w0
  up := fun m hm => by
    have h3 : m = 0 ∨ m = 1 ∨ m = 2 := by omega
    rcases h3 with rfl | rfl | rfl
    · exact h.s1
    · exact h.l1
    · exact h.w1
  most := fun m hm => by
    have h3 : m = 0 ∨ m = 1 ∨ m = 2 := by omega
    rcases h3 with rfl | rfl | rfl
    · exact h.s2
    · exact h.l2
    · exact h.w2
theorem SpansOk.shaft {x : Shaft} (h : SpansOk x) (hn : NameOk x.name) : ShaftOk x :=
  ⟨hn, h.least 0 (by omega), h.up 0 (by omega), h.most 0 (by omega), h.least 1 (by omega), h.up 1 (by omega), h.most 1 (by omega), h.least 2 (by omega), h.up 2 (by omega), h.most 2 (by omega)⟩
theorem StockOk.other {rs rl rw many : Int} {n : Nat} {sh sh' : Nat → Shaft} (h : StockOk rs rl rw many n sh) (hn : ∀ k, k < n → (sh' k).name = (sh k).name) (hs : ∀ k, k < n → SpansOk (sh' k)) : StockOk rs rl rw many n sh' where
  rule := h.rule
  count := h.count
  each := fun k hk => (hs k hk).shaft (by rw [hn k hk]; exact (h.each k hk).name)
  once := fun j k hj hk => by rw [hn j (by omega), hn k hk]; exact h.once j k hj hk
def updSpan (x : Shaft) (m : Nat) (u v : Int) : Shaft := match m with
  | 0 => { x with s0 := u, s1 := v }
  | 1 => { x with l0 := u, l1 := v }
  | _ => { x with w0 := u, w1 := v }
def putSh (sh : Nat → Shaft) (k m : Nat) (u v : Int) : Nat → Shaft := fun j => if j = k then updSpan (sh k) m u v else sh j
theorem updSpan_name (x : Shaft) (m : Nat) (u v : Int) : (updSpan x m u v).name = x.name := by
  unfold updSpan; split <;> rfl
theorem updSpan_A {x : Shaft} {m k : Nat} {u v : Int} (hm : m < 3) (hk : k < 3) : spanA (updSpan x m u v) k = if k = m then u else spanA x k := by
  have h3 : m = 0 ∨ m = 1 ∨ m = 2 := by omega
  have h4 : k = 0 ∨ k = 1 ∨ k = 2 := by omega
  rcases h3 with rfl | rfl | rfl <;> rcases h4 with rfl | rfl | rfl <;> rfl
theorem updSpan_B {x : Shaft} {m k : Nat} {u v : Int} (hm : m < 3) (hk : k < 3) : spanB (updSpan x m u v) k = if k = m then v else spanB x k := by
  have h3 : m = 0 ∨ m = 1 ∨ m = 2 := by omega
  have h4 : k = 0 ∨ k = 1 ∨ k = 2 := by omega
  rcases h3 with rfl | rfl | rfl <;> rcases h4 with rfl | rfl | rfl <;> rfl
theorem putSh_name (sh : Nat → Shaft) (k m : Nat) (u v : Int) (j : Nat) : (putSh sh k m u v j).name = (sh j).name := by
  unfold putSh
  split
  · next h => subst h; exact updSpan_name _ _ _ _
  · rfl
theorem putSh_A {sh : Nat → Shaft} {k m j x : Nat} {u v : Int} (hm : m < 3) (hx : x < 3) : spanA (putSh sh k m u v j) x = if j = k ∧ x = m then u else spanA (sh j) x := by
  unfold putSh
  by_cases h : j = k
  · subst h
    rw [if_pos rfl, updSpan_A hm hx]
    simp
  · rw [if_neg h, if_neg (fun h' => h h'.1)]
theorem putSh_B {sh : Nat → Shaft} {k m j x : Nat} {u v : Int} (hm : m < 3) (hx : x < 3) : spanB (putSh sh k m u v j) x = if j = k ∧ x = m then v else spanB (sh j) x := by
  unfold putSh
  by_cases h : j = k
  · subst h
    rw [if_pos rfl, updSpan_B hm hx]
    simp
  · rw [if_neg h, if_neg (fun h' => h h'.1)]
theorem StockOk.put {rs rl rw many : Int} {n : Nat} {sh : Nat → Shaft} (h : StockOk rs rl rw many n sh) {k m : Nat} {u v : Int} (hm : m < 3) (h0 : 0 ≤ u) (h1 : u ≤ v) (h2 : v ≤ 9999) : StockOk rs rl rw many n (putSh sh k m u v) := by
  refine h.other (fun j _ => putSh_name ..) fun j hj => ?_
  have hs := (h.each j hj).spans
  refine ⟨fun x hx => ?_, fun x hx => ?_, fun x hx => ?_⟩
  · rw [putSh_A hm hx]; split
    · exact h0
    · exact hs.least x hx
  · rw [putSh_A hm hx, putSh_B hm hx]; split
    · exact h1
    · exact hs.up x hx
  · rw [putSh_B hm hx]; split
    · exact h2
    · exact hs.most x hx
section
variable {rs rl rw many : Int} {n m : Nat} {sh : Nat → Shaft} {l : Nat → Nat} {R : Nat → Nat → Int}
theorem matchZ_one : matchZ rs rl rw sh l m = 1 ↔ ∀ j i, j < i → i < m → ∀ w, w < 3 → nearOf rs rl rw (sh (l j)) (sh (l i)) w = 1 := by
  unfold matchZ
  rw [listZ_one]
  exact ⟨fun h j i h1 h2 => (pairZ_one ..).1 (h j i h1 h2), fun h j i h1 h2 => (pairZ_one ..).2 (h j i h1 h2)⟩
theorem matchZ_two : matchZ rs rl rw sh l m = 2 ↔ ∃ j i, j < i ∧ i < m ∧ ∃ w, w < 3 ∧ nearOf rs rl rw (sh (l j)) (sh (l i)) w = 2 := by
  unfold matchZ
  rw [listZ_two]
  constructor
  · rintro ⟨j, i, h1, h2, h3⟩
    exact ⟨j, i, h1, h2, (pairZ_two ..).1 h3⟩
  · rintro ⟨j, i, h1, h2, h3⟩
    exact ⟨j, i, h1, h2, (pairZ_two ..).2 h3⟩
theorem matchZ_range (rs rl rw : Int) (sh : Nat → Shaft) (l : Nat → Nat) (m : Nat) : matchZ rs rl rw sh l m = 0 ∨ matchZ rs rl rw sh l m = 1 ∨ matchZ rs rl rw sh l m = 2 := listZ_range ..
end
end Go.Proofs.YtpdmgecbapmgdaaGreat
end
section
namespace Go.Proofs.YtpdmgecbapmgdaaGreat
open Go.RowKit
abbrev spanV (u v : Int) : Value := .agg #[.int .i64 u, .int .i64 v]
def SaysSpan (u v : Int) (w : World) (e : Ending) (w' : World) : Prop := e = .returned (.agg #[.int .i64 u, .int .i64 v]) ∧ Below w.heap.size w w'
theorem u52 : (match Tryz.prog.underlying 52 with | some (.struct _) => true | _ => false) = true := by kernel_rfl
theorem i52 : (Tryz.prog.info? 52).map (·.size) = some 2 := by kernel_rfl
theorem results_span {fn : Func} {tmps : Array Value} {w : World} {g : Nat} {u v : Int} (h : fn.results = #[.cell 4 52]) (ht : tmps.getD 4 undef = .pointer (some ⟨g, 0, none⟩)) (hb : SpanAt w g u v) : (results fn tmps).run Tryz.prog w = .ok (spanV u v) w := by
  have e := u52
  split at e
  · next fs hu => exact results_cell_row h tmps w g 52 _ (0, 0) (.struct fs) ht hb hu rfl i52
  · cases e
theorem span_new (w : World) (u v : Int) : SpanAt (w.alloc (.cells #[.int .i64 u, .int .i64 v] 52)) w.heap.size u v := by
  unfold SpanAt; exact heap_alloc_new _ _
theorem span_mid (w : World) (A C : Obj) (u v : Int) : SpanAt (((w.alloc A).alloc (.cells #[.int .i64 u, .int .i64 v] 52)).alloc C) (w.heap.size + 1) u v := by
  have h := (span_new (w.alloc A) u v).below ((Below.refl _ _).alloc (Nat.le_refl _) C)
  simpa using h
theorem Measured_any (x : Shaft) (m : Nat) (hm : m < 3) (w : World) : CallsIn Fc 0 Tryz.prog 36 #[shaftV x, .int .i64 m] w (SaysSpan (spanA x m) (spanB x m) w) := by
  have h3 : m = 0 ∨ m = 1 ∨ m = 2 := by omega
  rcases h3 with rfl | rfl | rfl
  all_goals
    gi_enter Tryz.func36, Tryz.ntmps36
    gi_wp2
    refine bodyPost_ret (v := spanV _ _) (results_span rfl rfl (span_mid _ _ _ _ _)) rfl ?_
    exact ⟨rfl, (((Below.refl _ _).alloc (Nat.le_refl _) _).alloc (by simp) _).alloc (by simp; omega) _⟩
theorem Allowed_any (rs rl rw many : Int) (m : Nat) (hm : m < 3) (w : World) : CallsIn Fc 0 Tryz.prog 82 #[.agg #[.int .i64 rs, .int .i64 rl, .int .i64 rw, .int .i64 many], .int .i64 m] w (SaysInt (allowOf rs rl rw m) w) := by
  have h3 : m = 0 ∨ m = 1 ∨ m = 2 := by omega
  rcases h3 with rfl | rfl | rfl
  all_goals
    gi_enter Tryz.func82, Tryz.ntmps82
    gi_wp2
    go_ret
    exact ⟨rfl, ((Below.refl _ _).alloc (Nat.le_refl _) _).alloc (by simp) _⟩
def PicksAt (w : World) (A : Option Addr) (n : Nat) (p : Nat → Int) : Prop := ∀ k, k < n → ∃ b o, A = some ⟨b, o, none⟩ ∧ w.cell? ⟨b, o + k, none⟩ = some (.int .u16 (p k)) ∧ 0 ≤ p k ∧ p k ≤ 65535
theorem PicksAt.below {W w : World} (h : Below W.heap.size W w) {A : Option Addr} {n : Nat} {p : Nat → Int} (hx : PicksAt W A n p) : PicksAt w A n p := fun k hk => by
  obtain ⟨b, o, rfl, h1, h2⟩ := hx k hk
  exact ⟨b, o, rfl, Below.old h h1, h2⟩
end Go.Proofs.YtpdmgecbapmgdaaGreat
end
section
namespace Go.Proofs.YtpdmgecbapmgdaaGreat
open Go.RowKit
def shaftCs (x : Shaft) : List Value := [.string x.name, .int .i64 x.s0, .int .i64 x.s1, .int .i64 x.l0, .int .i64 x.l1, .int .i64 x.w0, .int .i64 x.w1]
theorem shaft_get {w : World} {b p : Nat} {x : Shaft} (h : ShaftAt w b p x) : ∀ i, i < 7 → w.cell? ⟨b, p + i, none⟩ = (shaftCs x)[i]? := fun i hi => by
  have h7 : i = 0 ∨ i = 1 ∨ i = 2 ∨ i = 3 ∨ i = 4 ∨ i = 5 ∨ i = 6 := by omega
  rcases h7 with rfl | rfl | rfl | rfl | rfl | rfl | rfl
  · exact h.h0
  · exact h.h1
  · exact h.h2
  · exact h.h3
  · exact h.h4
  · exact h.h5
  · exact h.h6
theorem shaft_of {w : World} {b p : Nat} {x : Shaft} (h : ∀ i, i < 7 → w.cell? ⟨b, p + i, none⟩ = (shaftCs x)[i]?) : ShaftAt w b p x :=
  ⟨h 0 (by omega), h 1 (by omega), h 2 (by omega), h 3 (by omega), h 4 (by omega), h 5 (by omega), h 6 (by omega)⟩
structure PutAt (W w : World) (rs rl rw many u v : Int) (b o n c g : Nat) (sh : Nat → Shaft) : Prop where
  hg : W.heap.size + 4 ≤ g
  hb : Below W.heap.size W w
  hz : W.heap.size + 5 ≤ w.heap.size
  row : ShaftsAt w (some ⟨g, 0, none⟩) n sh
  a10 : w.cell? ⟨W.heap.size + 1, 0, none⟩ = some (.int .i64 u)
  a11 : w.cell? ⟨W.heap.size + 1, 1, none⟩ = some (.int .i64 v)
  a20 : w.cell? ⟨W.heap.size + 1 + 1, 0, none⟩ = some (.int .i64 0)
  a21 : w.cell? ⟨W.heap.size + 1 + 1, 1, none⟩ = some (.int .i64 0)
  a22 : w.cell? ⟨W.heap.size + 1 + 1, 2, none⟩ = some (.int .i64 0)
  a23 : w.cell? ⟨W.heap.size + 1 + 1, 3, none⟩ = some (.int .i64 0)
  a24 : w.cell? ⟨W.heap.size + 1 + 1, 4, none⟩ = some (.slice none 0 0)
  a30 : w.cell? ⟨W.heap.size + 1 + 1 + 1, 0, none⟩ = some (.int .i64 rs)
  a31 : w.cell? ⟨W.heap.size + 1 + 1 + 1, 1, none⟩ = some (.int .i64 rl)
  a32 : w.cell? ⟨W.heap.size + 1 + 1 + 1, 2, none⟩ = some (.int .i64 rw)
  a33 : w.cell? ⟨W.heap.size + 1 + 1 + 1, 3, none⟩ = some (.int .i64 many)
  a34 : w.cell? ⟨W.heap.size + 1 + 1 + 1, 4, none⟩ = some (.slice (some ⟨b, o, none⟩) n c)
  z2 : ∀ j, w.frozen? ⟨W.heap.size + 1 + 1, j, none⟩ = false
  z3 : ∀ j, w.frozen? ⟨W.heap.size + 1 + 1 + 1, j, none⟩ = false
  zg : ∀ j, w.frozen? ⟨g, j, none⟩ = false
end Go.Proofs.YtpdmgecbapmgdaaGreat
end
section
namespace Go.Proofs.YtpdmgecbapmgdaaGreat
open Go.RowKit
def outZ (a b l m : Int) : Int := if l ≤ a ∧ a ≤ b ∧ b ≤ m then 0 else 1
theorem spanLimits1_any (a b l m : Int) (p q r : Nat) (w : World) (hp : w.cell? ⟨p, 0, none⟩ = some (.int .i64 a)) (hp1 : w.cell? ⟨p, 1, none⟩ = some (.int .i64 b)) (hq : w.cell? ⟨q, 0, none⟩ = some (.int .i64 l)) (hr : w.cell? ⟨r, 0, none⟩ = some (.int .i64 m)) :
    CallsIn Fc 0 Tryz.prog 125 #[ptr p, ptr q, ptr r] w (SaysInt (outZ a b l m) w) := by
  unfold outZ
  gi_enter Tryz.func125, Tryz.ntmps125
  by_cases h1 : a < l
  · rw [if_neg (by omega)]
    gi_wp2
    go_ret
    exact ⟨rfl, Below.refl _ _⟩
  · by_cases h2 : a > b
    · rw [if_neg (by omega)]
      gi_wp2
      go_ret
      exact ⟨rfl, Below.refl _ _⟩
    · by_cases h3 : b > m
      · rw [if_neg (by omega)]
        gi_wp2
        go_ret
        exact ⟨rfl, Below.refl _ _⟩
      · rw [if_pos (by omega)]
        gi_wp2
        go_ret
        exact ⟨rfl, Below.refl _ _⟩
def firstZ (F : Nat → Int) : Nat → Int
  | 0 => 0
  | k + 1 => if firstZ F k = 0 then F k else firstZ F k
theorem firstZ_zero {F : Nat → Int} : ∀ {n : Nat}, firstZ F n = 0 ↔ ∀ k, k < n → F k = 0
  | 0 => by simp [firstZ]
  | n + 1 => by
    simp only [firstZ]
    constructor
    · intro h k hk
      split at h
      · next h0 =>
        rcases Nat.lt_succ_iff_lt_or_eq.1 hk with hk | rfl
        · exact firstZ_zero.1 h0 k hk
        · exact h
      · next h0 => exact absurd h h0
    · intro h
      rw [if_pos (firstZ_zero.2 fun k hk => h k (by omega))]
      exact h n (by omega)
theorem firstZ_at {F : Nat → Int} {k : Nat} (hz : ∀ j, j < k → F j = 0) (h0 : F k ≠ 0) : ∀ {n : Nat}, k < n → firstZ F n = F k
  | 0, h => by omega
  | n + 1, h => by
    simp only [firstZ]
    by_cases e : k = n
    · subst e
      rw [if_pos (firstZ_zero.2 hz)]
    · have h1 := firstZ_at hz h0 (n := n) (by omega)
      rw [h1, if_neg h0]
def CheckIs (v : Value) (f : Int) (w : World) : Prop :=
  (∃ (i : Nat) (sv : Value), (i = 96 ∨ i = 97 ∨ i = 98 ∨ i = 56) ∧ v = .func (.func i) #[sv] #[] ∧ ∀ w', Below w.heap.size w w' → CallsIn Fc 0 Tryz.prog i #[sv] w' (SaysInt f w')) ∨
  (∃ p q : Nat, v = .func (.func 123) #[] #[ptr p, ptr q] ∧ ∀ w', Below w.heap.size w w' → CallsIn Fc 0 Tryz.prog 123 #[ptr p, ptr q] w' (SaysInt f w')) ∨
  (∃ p q r : Nat, v = .func (.func 124) #[] #[ptr p, ptr q, ptr r] ∧ ∀ w', Below w.heap.size w w' → CallsIn Fc 0 Tryz.prog 124 #[ptr p, ptr q, ptr r] w' (SaysInt f w')) ∨
  (∃ p q r : Nat, v = .func (.func 125) #[] #[ptr p, ptr q, ptr r] ∧ ∀ w', Below w.heap.size w w' → CallsIn Fc 0 Tryz.prog 125 #[ptr p, ptr q, ptr r] w' (SaysInt f w'))
theorem SaysFair.int {w : World} {e : Ending} {w' : World} (h : SaysFair w e w') : SaysInt 0 w e w' := h
theorem CheckIs.below {v : Value} {f : Int} {w w' : World} (hb : Below w.heap.size w w') (h : CheckIs v f w) : CheckIs v f w' := by
  rcases h with ⟨i, sv, hi, rfl, h⟩ | ⟨p, q, rfl, h⟩ | ⟨p, q, r, rfl, h⟩ | ⟨p, q, r, rfl, h⟩
  · exact .inl ⟨i, sv, hi, rfl, fun w1 h1 => h w1 (hb.trans (h1.mono hb.size))⟩
  · exact .inr (.inl ⟨p, q, rfl, fun w1 h1 => h w1 (hb.trans (h1.mono hb.size))⟩)
  · exact .inr (.inr (.inl ⟨p, q, r, rfl, fun w1 h1 => h w1 (hb.trans (h1.mono hb.size))⟩))
  · exact .inr (.inr (.inr ⟨p, q, r, rfl, fun w1 h1 => h w1 (hb.trans (h1.mono hb.size))⟩))
def SaysFoul (F : Nat → Int) (n : Nat) (w : World) (e : Ending) (w' : World) : Prop := ∃ f : Int, e = .returned (.int .i64 f) ∧ f = firstZ F n ∧ Below w.heap.size w w'
theorem firstFoul_any (b n cap : Nat) (F : Nat → Int) (W : World) (hn : n ≤ 100) (hall : Hid (∀ k, k < n → ∃ v, W.cell? ⟨b, k, none⟩ = some v ∧ CheckIs v (F k) W)) :
    CallsIn Fc 0 Tryz.prog 55 #[.slice (some ⟨b, 0, none⟩) n cap] W (SaysFoul F n W) := by
  gi_enter Tryz.func55, Tryz.ntmps55
  gi_wp2
  gi_loopw [8] (fun i wr => ∃ k : Nat, k ≤ n ∧ i = .int .i64 k ∧ Below W.heap.size W wr ∧ ∀ j, j < k → F j = 0) (fun i _ => n - (intOf i).toNat)
  case atStart => exact ⟨0, Nat.zero_le _, rfl, Below.refl _ _, fun j h => by omega⟩
  case round =>
    obtain ⟨k, hk, rfl, hb, hz⟩ := hrel
    by_cases hlt : k < n
    · obtain ⟨v, hv, hf⟩ := hall.out k hlt
      have hc := Below.old hb hv
      clear hv
      by_cases h0 : F k = 0
      · have hz' : ∀ j, j < k + 1 → F j = 0 := fun j hj => by
          rcases Nat.lt_succ_iff_lt_or_eq.1 hj with h | rfl
          · exact hz j h
          · exact h0
        have HZ := Lib.hid hz'
        clear hz hz'
        rw [h0] at hf
        clear h0
        rcases hf with ⟨i, sv, hi, rfl, hcall⟩ | ⟨p, q, rfl, hcall⟩ | ⟨p, q, r, rfl, hcall⟩ | ⟨p, q, r, rfl, hcall⟩
        · have hcall' := hcall _ hb
          clear hcall
          rcases hi with rfl | rfl | rfl | rfl
          all_goals
            gi_wp2_with (first
              | (gi_at_call 96; refine hcall'.mono ?_; rintro e w' ⟨rfl, hb1⟩)
              | (gi_at_call 97; refine hcall'.mono ?_; rintro e w' ⟨rfl, hb1⟩)
              | (gi_at_call 98; refine hcall'.mono ?_; rintro e w' ⟨rfl, hb1⟩)
              | (gi_at_call 56; refine hcall'.mono ?_; rintro e w' ⟨rfl, hb1⟩))
            go_roundw
            case rel => exact ⟨k + 1, by omega, by go_num, hb.trans (hb1.mono hb.size), HZ.out⟩
            case measure => simp [intOf]; omega
        · have hcall' := hcall _ hb
          clear hcall
          gi_wp2_with (gi_at_call 123; refine hcall'.mono ?_; rintro e w' ⟨rfl, hb1⟩)
          go_roundw
          case rel => exact ⟨k + 1, by omega, by go_num, hb.trans (hb1.mono hb.size), HZ.out⟩
          case measure => simp [intOf]; omega
        · have hcall' := hcall _ hb
          clear hcall
          gi_wp2_with (gi_at_call 124; refine hcall'.mono ?_; rintro e w' ⟨rfl, hb1⟩)
          go_roundw
          case rel => exact ⟨k + 1, by omega, by go_num, hb.trans (hb1.mono hb.size), HZ.out⟩
          case measure => simp [intOf]; omega
        · have hcall' := hcall _ hb
          clear hcall
          gi_wp2_with (gi_at_call 125; refine hcall'.mono ?_; rintro e w' ⟨rfl, hb1⟩)
          go_roundw
          case rel => exact ⟨k + 1, by omega, by go_num, hb.trans (hb1.mono hb.size), HZ.out⟩
          case measure => simp [intOf]; omega
      · have hno : firstZ F n = F k := firstZ_at hz h0 hlt
        have HN := Lib.hid hno
        clear hno hz
        generalize F k = fk at *
        rcases hf with ⟨i, sv, hi, rfl, hcall⟩ | ⟨p, q, rfl, hcall⟩ | ⟨p, q, r, rfl, hcall⟩ | ⟨p, q, r, rfl, hcall⟩
        · have hcall' := hcall _ hb
          clear hcall
          rcases hi with rfl | rfl | rfl | rfl
          all_goals
            gi_wp2_with (first
              | (gi_at_call 96; refine hcall'.mono ?_; rintro e w' ⟨rfl, hb1⟩)
              | (gi_at_call 97; refine hcall'.mono ?_; rintro e w' ⟨rfl, hb1⟩)
              | (gi_at_call 98; refine hcall'.mono ?_; rintro e w' ⟨rfl, hb1⟩)
              | (gi_at_call 56; refine hcall'.mono ?_; rintro e w' ⟨rfl, hb1⟩))
            go_ret
            exact ⟨_, rfl, HN.out.symm, hb.trans (hb1.mono hb.size)⟩
        · have hcall' := hcall _ hb
          clear hcall
          gi_wp2_with (gi_at_call 123; refine hcall'.mono ?_; rintro e w' ⟨rfl, hb1⟩)
          go_ret
          exact ⟨_, rfl, HN.out.symm, hb.trans (hb1.mono hb.size)⟩
        · have hcall' := hcall _ hb
          clear hcall
          gi_wp2_with (gi_at_call 124; refine hcall'.mono ?_; rintro e w' ⟨rfl, hb1⟩)
          go_ret
          exact ⟨_, rfl, HN.out.symm, hb.trans (hb1.mono hb.size)⟩
        · have hcall' := hcall _ hb
          clear hcall
          gi_wp2_with (gi_at_call 125; refine hcall'.mono ?_; rintro e w' ⟨rfl, hb1⟩)
          go_ret
          exact ⟨_, rfl, HN.out.symm, hb.trans (hb1.mono hb.size)⟩
    · gi_wp2
      go_ret
      exact ⟨0, rfl, (firstZ_zero.2 fun j hj => hz j (by omega)).symm, hb⟩
structure OneBox (w : World) (sp ip : Nat) (rs rl rw many : Int) (A : Option Addr) (n c : Nat) (k : Nat) : Prop where
  i : w.cell? ⟨ip, 0, none⟩ = some (.int .i64 k)
  c0 : w.cell? ⟨sp, 0, none⟩ = some (.int .i64 rs)
  c1 : w.cell? ⟨sp, 1, none⟩ = some (.int .i64 rl)
  c2 : w.cell? ⟨sp, 2, none⟩ = some (.int .i64 rw)
  c3 : w.cell? ⟨sp, 3, none⟩ = some (.int .i64 many)
  c4 : w.cell? ⟨sp, 4, none⟩ = some (.slice A n c)
theorem OneBox.below {W w : World} (h : Below W.heap.size W w) {sp ip : Nat} {rs rl rw many : Int} {A : Option Addr} {n c k : Nat} (hx : OneBox W sp ip rs rl rw many A n c k) : OneBox w sp ip rs rl rw many A n c k :=
  ⟨Below.old h hx.i, Below.old h hx.c0, Below.old h hx.c1, Below.old h hx.c2, Below.old h hx.c3, Below.old h hx.c4⟩
theorem hasShaft1_ok (sp ip : Nat) (rs rl rw many : Int) (A : Option Addr) (n c k : Nat) (W : World) (hn : n ≤ 9) (hk : k < n) (hbox : OneBox W sp ip rs rl rw many A n c k) :
    CallsIn Fc 0 Tryz.prog 123 #[ptr sp, ptr ip] W (SaysInt 0 W) := by
  obtain ⟨d, d0, d1, d2, d3, d4⟩ := hbox
  gi_enter Tryz.func123, Tryz.ntmps123
  gi_wp2_with (gi_at_call 100; refine (has_ok _ _ _ _ _ _ _ _ _ (Int.natCast_nonneg _) (Int.ofNat_lt.2 hk) hn).mono ?_; rintro e w' ⟨rfl, hb1⟩)
  go_ret
  exact ⟨rfl, hb1⟩
theorem Lim.is {w : World} {v : Value} {n l m : Int} (h : Lim v n l m w) (h1 : l ≤ n) (h2 : n ≤ m) : CheckIs v 0 w := by
  obtain ⟨p, q, r, rfl, hp, hq, hr⟩ := h
  exact .inr (.inr (.inl ⟨p, q, r, rfl, fun w' hb => (limits1_ok n l m p q r w' (Below.old hb hp.cell) (Below.old hb hq.cell) (Below.old hb hr.cell) h1 h2).mono fun _ _ h => h.fair⟩))
theorem Spn.is {w : World} {v : Value} {a b l m : Int} (h : Spn v a b l m w) : CheckIs v (outZ a b l m) w := by
  obtain ⟨p, q, r, rfl, hp, hq, hr⟩ := h
  exact .inr (.inr (.inr ⟨p, q, r, rfl, fun w' hb => spanLimits1_any a b l m p q r w' (Below.old hb hp.cell.1) (Below.old hb hp.cell.2) (Below.old hb hq.cell) (Below.old hb hr.cell)⟩))
theorem OneBox.is {w : World} {sp ip : Nat} {rs rl rw many : Int} {A : Option Addr} {n c k : Nat} (h : OneBox w sp ip rs rl rw many A n c k) (hn : n ≤ 9) (hk : k < n) : CheckIs (.func (.func 123) #[] #[ptr sp, ptr ip]) 0 w :=
  .inr (.inl ⟨sp, ip, rfl, fun w' hb => hasShaft1_ok sp ip rs rl rw many A n c k w' hn hk (h.below hb)⟩)
def SaysCommon (a b x y : Int) (w : World) (e : Ending) (w' : World) : Prop :=
  Below w.heap.size w w' ∧ ((max a x ≤ min b y ∧ e = .returned (.tuple #[spanV (max a x) (min b y), .bool true])) ∨ (¬ max a x ≤ min b y ∧ e = .returned (.tuple #[spanV 0 0, .bool false])))
end Go.Proofs.YtpdmgecbapmgdaaGreat
end
section
namespace Go.Proofs.YtpdmgecbapmgdaaGreat
open Go.RowKit
def dstsIn (ops : Array Oper) (D : List Nat) : Bool := (List.range ops.size).all fun j => match dstAt ops j with | some s => D.contains s | none => true
theorem dstsIn_use {ops : Array Oper} {D : List Nat} (h : dstsIn ops D = true) {j s : Nat} (hj : j < ops.size) (e : dstAt ops j = some s) : s ∈ D := by
  have h1 := List.all_eq_true.1 h j (List.mem_range.2 hj)
  rw [e] at h1
  simpa using h1
theorem RF.act {ops : Array Oper} {sup : Nat → List Nat} {Ψ : Nat → List Value → World → Prop} {I : World → Prop} {z : Nat} {a0 : Act} {listed : Array Bool} {a : Act} {w : World} (h : RF ops sup Ψ I z a0 listed a w) (hz : a0.tmps.size = z) (D : List Nat) (hD : dstsIn ops D = true) :
    a = { tmps := (D.map fun d => (d, a.eval (.tmp d))).foldl (fun t x => t.setIfInBounds x.1 x.2) a0.tmps, defers := [] } := by
  have e := fold_set a (D.map fun d => (d, a.eval (.tmp d))) a0.tmps (by rw [hz, h.size]) (fun x hx => by
      obtain ⟨d, _, rfl⟩ := List.mem_map.1 hx
      rfl) fun s hs => (h.old s fun j hj e => hs _ (List.mem_map.2 ⟨s, dstsIn_use hD hj e, rfl⟩) rfl).symm
  rw [e]
  obtain ⟨t, d⟩ := a
  have := h.defers
  simp only at this
  subst this
  rfl
end Go.Proofs.YtpdmgecbapmgdaaGreat
end
section
namespace Go.Proofs.YtpdmgecbapmgdaaGreat
open Go.RowKit
theorem wrap_small (k : Nat) (h : k ≤ 100) : IntKind.wrap .i64 ((k : Int) + 1) = (k : Int) + 1 := by
  simp [IntKind.wrap, IntKind.signed, IntKind.bits]
  omega
theorem wpIn_cutR {F : Fence} {n : Nat} {P : Program} {c : Code} {Q : Exit → Act → World → Prop} {M : Act → World → Prop} {a : Act} {w : World} (h1 : c.wpIn F n P (fun e a w => match e with | .normal => M a w | _ => False) a w) (h2 : ∀ a' w', M a' w' → Q .normal a' w') : c.wpIn F n P Q a w := by
  intro b k cs hro hb hr
  obtain ⟨e, a', w', hp, harr⟩ := h1 b k cs hro hb hr
  cases e with
  | normal => exact ⟨.normal, a', w', h2 _ _ hp, harr⟩
  | _ => exact hp.elim
structure Ap where
  one : Nat
  two : Nat
  what : Nat
  sure : Int
def apV (x : Ap) : List Value := [.int .i64 x.one, .int .i64 x.two, .int .i64 x.what, .int .i64 x.sure]
def apVs (l : List Ap) : List Value := l.flatMap apV
section
variable (rs rl rw : Int) (sh : Nat → Shaft) (l : Nat → Nat)
def apCell (i k : Nat) : Nat → List Ap
  | 0 => []
  | w + 1 => apCell i k w ++ (if nearOf rs rl rw (sh (l i)) (sh (l k)) w = 1 then [] else [⟨l i, l k, w, nearOf rs rl rw (sh (l i)) (sh (l k)) w⟩])
def apRow (i : Nat) : Nat → List Ap
  | 0 => []
  | t + 1 => apRow i t ++ apCell rs rl rw sh l i (i + 1 + t) 3
def apAll (m : Nat) : Nat → List Ap
  | 0 => []
  | i + 1 => apAll m i ++ apRow rs rl rw sh l i (m - (i + 1))
end
theorem apCell_yes {rs rl rw : Int} {sh : Nat → Shaft} {l : Nat → Nat} {i k x : Nat} (h : nearOf rs rl rw (sh (l i)) (sh (l k)) x = 1) : apCell rs rl rw sh l i k (x + 1) = apCell rs rl rw sh l i k x := by
  simp [apCell, h]
theorem apCell_no {rs rl rw : Int} {sh : Nat → Shaft} {l : Nat → Nat} {i k x : Nat} (h : ¬ nearOf rs rl rw (sh (l i)) (sh (l k)) x = 1) : apCell rs rl rw sh l i k (x + 1) = apCell rs rl rw sh l i k x ++ [⟨l i, l k, x, nearOf rs rl rw (sh (l i)) (sh (l k)) x⟩] := by
  simp [apCell, h]
theorem ap_snoc (L M : List Ap) (x : Ap) : apVs (L ++ (M ++ [x])) = apVs (L ++ M) ++ apV x := by simp [apVs]
theorem ap_snoc_len (L M : List Ap) (x : Ap) : (L ++ (M ++ [x])).length = (L ++ M).length + 1 := by simp; omega
theorem cells_new (w : World) (cs : List Value) (e : TypeId) : ∀ (j : Nat) (u : Value), cs[j]? = some u → (w.alloc (.cells cs.toArray e)).cell? (Addr.add ⟨w.heap.size, 0, none⟩ j) = some u := by
  intro j u h
  have e1 : Addr.add ⟨w.heap.size, 0, none⟩ j = ⟨w.heap.size, j, none⟩ := by unfold Addr.add; split <;> simp_all
  rw [e1]
  simp [h]
section
variable (rs rl rw : Int) (sh : Nat → Shaft) (l : Nat → Nat)
theorem apCell_len (i k : Nat) : ∀ x, (apCell rs rl rw sh l i k x).length ≤ x
  | 0 => by simp [apCell]
  | x + 1 => by
    have := apCell_len i k x
    simp only [apCell, List.length_append]
    split <;> simp <;> omega
theorem apRow_len (i : Nat) : ∀ t, (apRow rs rl rw sh l i t).length ≤ 3 * t
  | 0 => by simp [apRow]
  | t + 1 => by
    have h1 := apRow_len i t
    have h2 := apCell_len rs rl rw sh l i (i + 1 + t) 3
    simp only [apRow, List.length_append]
    omega
theorem apAll_len {m : Nat} (hm : m ≤ 9) : ∀ i, (apAll rs rl rw sh l m i).length ≤ 27 * i
  | 0 => by simp [apAll]
  | i + 1 => by
    have h1 := apAll_len hm i
    have h2 := apRow_len rs rl rw sh l i (m - (i + 1))
    simp only [apAll, List.length_append]
    omega
theorem ap_len2 {m i t x : Nat} (hm : m ≤ 9) (hi : i ≤ m) (ht : t ≤ 9) (hx : x ≤ 3) : (apAll rs rl rw sh l m i ++ apRow rs rl rw sh l i t ++ apCell rs rl rw sh l i (i + 1 + t) x).length ≤ 300 := by
  have h1 := apAll_len rs rl rw sh l hm i
  have h2 := apRow_len rs rl rw sh l i t
  have h3 := apCell_len rs rl rw sh l i (i + 1 + t) x
  simp only [List.length_append]
  omega
theorem ap_len {m i t x : Nat} (hm : m ≤ 9) (hi : i ≤ m) (ht : t ≤ 9) (hx : x ≤ 3) : (apAll rs rl rw sh l m i ++ apRow rs rl rw sh l i t ++ apCell rs rl rw sh l i (i + 1 + t) x).length + 1 ≤ maxLen := by
  have := ap_len2 rs rl rw sh l hm hi ht hx
  simp only [maxLen]
  omega
end
def HandsApart (L : List Ap) (W : World) (e : Ending) (w' : World) : Prop := ∃ (sl : Value) (base : Nat), e = .returned (.tuple #[sl, .int .i64 0]) ∧ w'.ownsRow base 62 4 sl L.length (apVs L) ∧ W.heap.size ≤ base ∧ Below W.heap.size W w'
theorem ut35 : Tryz.prog.underlying 35 = some (.slice 62) := by kernel_rfl
theorem it62 : (Tryz.prog.info? 62).map (fun i => (i.zero, i.size, i.bytes)) = some (some (.agg #[.int .i64 0, .int .i64 0, .int .i64 0, .int .i64 0]), 4, 32) := by kernel_rfl
theorem Apart_any (rs rl rw many : Int) (A : Option Addr) (n c : Nat) (sh : Nat → Shaft) (LA : Option Addr) (m lc : Nat) (l : Nat → Nat) (W : World) (hc : n ≤ c) (hst : Hid (StockOk rs rl rw many n sh)) (hsh : Hid (ShaftsAt W A n sh))
    (hm : m ≤ 9) (hmc : m ≤ lc) (hl : Hid (∀ k, k < m → l k < n)) (hasc : Hid (∀ j k, j < k → k < m → l j < l k)) (hi : Hid (IntsAt W LA m fun k => (l k : Int))) :
    CallsIn Fc 0 Tryz.prog 19 #[stockV rs rl rw many A n c, .slice LA m lc] W (HandsApart (apAll rs rl rw sh l m m) W) := by
  obtain ⟨i0, hi0, hz0, hz1, hz2⟩ := info_parts it62
  have HI0 := Lib.hid hi0
  have HZ0 := Lib.hid hz0
  have HZ1 := Lib.hid hz1
  have HZ2 := Lib.hid hz2
  clear hi0 hz0 hz1 hz2
  have hn := hst.out.count
  have hB2 : ∀ x y, Below W.heap.size W (((W.alloc x).alloc y).drew) := fun x y => (((Below.refl _ _).alloc (Nat.le_refl _) _).alloc (by simp) _).drew
  have HB2 := Lib.hid hB2
  have hlo : ListOk (fun k => (l k : Int)) m n := ⟨fun k hk => ⟨Int.natCast_nonneg _, Int.ofNat_lt.2 (hl.out k hk)⟩, fun k hk => Int.ofNat_lt.2 (hasc.out k (k + 1) (by omega) hk)⟩
  have HLO := Lib.hid hlo
  clear hB2 hlo
  gi_enter Tryz.func19, Tryz.ntmps19
  gi_wp2
  refine wpIn_cutR (M := fun a w => ∃ x18 x19 x20 x21 x22 x23 x24 : Value, a = { tmps := #[stockV rs rl rw many A n c, .slice LA m lc, .pointer (some ⟨W.heap.size, 0, none⟩), undef, .slice none 0 0, .int .i64 0, .pointer (some ⟨W.heap.size + 1, 0, none⟩), .int .i64 0, undef, undef, undef, undef, undef, undef, undef, undef, stockV rs rl rw many A n c, stockV rs rl rw many A n c, x18, x19, x20, x21, x22, x23, x24, undef, undef, undef, undef, undef, undef, undef, undef, undef, undef, undef, undef, undef, undef, undef, undef, undef, undef, undef, undef, undef, undef, undef, undef, undef, undef, undef, undef, undef, undef, undef, undef, undef, undef, undef, undef, undef, undef, undef, undef, undef, undef, undef, undef, undef], defers := [] } ∧ Below W.heap.size W w ∧ w.cell? ⟨W.heap.size + 1, 0, none⟩ = some (.int .i64 rs) ∧ w.cell? ⟨W.heap.size + 1, 1, none⟩ = some (.int .i64 rl) ∧ w.cell? ⟨W.heap.size + 1, 2, none⟩ = some (.int .i64 rw) ∧ w.cell? ⟨W.heap.size + 1, 3, none⟩ = some (.int .i64 many) ∧ w.cell? ⟨W.heap.size + 1, 4, none⟩ = some (.slice A n c)) ?_ ?_
  · gi_region_with (first
      | (gi_at_call 57; refine (hasList_any LA m lc rs rl rw many A n c _).mono ?_; rintro e w5 ⟨lp, sp, rfl, hbox, hb5⟩
         have e0 : w5.cell? ⟨W.heap.size + 1, 0, none⟩ = some (.int .i64 rs) := Below.old hb5 (by go_simp)
         have e1 : w5.cell? ⟨W.heap.size + 1, 1, none⟩ = some (.int .i64 rl) := Below.old hb5 (by go_simp)
         have e2 : w5.cell? ⟨W.heap.size + 1, 2, none⟩ = some (.int .i64 rw) := Below.old hb5 (by go_simp)
         have e3 : w5.cell? ⟨W.heap.size + 1, 3, none⟩ = some (.int .i64 many) := Below.old hb5 (by go_simp)
         have e4 : w5.cell? ⟨W.heap.size + 1, 4, none⟩ = some (.slice A n c) := Below.old hb5 (by go_simp)
         have HBX := Lib.hid hbox
         have HB5 := Lib.hid ((HB2.out _ _).trans (hb5.mono (HB2.out _ _).size))
         clear hbox hb5)
      | (gi_at_call 55
         refine (firstFoul_ok _ 2 _ _ (by omega) (Lib.hid fun u hu => by
           have h2 : u = 0 ∨ u = 1 := by omega
           rcases h2 with rfl | rfl
           · exact ⟨.func (.func 56) #[stockV rs rl rw many A n c] #[], by go_simp, .inl ⟨56, _, by simp, rfl, fun w' hb => check_ok rs rl rw many A n c sh w' hc hst (Lib.hid ((hsh.out.below (HB5.out.alloc HB5.out.size _)).below hb))⟩⟩
           · exact ⟨.func (.func 99) #[] #[ptr lp, ptr sp], by go_simp, .inr (.inr ⟨lp, sp, rfl, fun w' hb => hasList1_ok lp sp LA m lc _ rs rl rw many A n c w' hn (by omega) (Lib.hid (HBX.out.below (((Below.refl _ _).alloc (Nat.le_refl _) _).trans (hb.mono (by simp))))) HLO (Lib.hid ((hi.out.below (HB5.out.alloc HB5.out.size _)).below hb))⟩)⟩)).mono ?_
         rintro e w6 ⟨rfl, hb6⟩
         have f0 := Below.old hb6 (Below.old ((Below.refl _ _).alloc (Nat.le_refl _) _) e0)
         have f1 := Below.old hb6 (Below.old ((Below.refl _ _).alloc (Nat.le_refl _) _) e1)
         have f2 := Below.old hb6 (Below.old ((Below.refl _ _).alloc (Nat.le_refl _) _) e2)
         have f3 := Below.old hb6 (Below.old ((Below.refl _ _).alloc (Nat.le_refl _) _) e3)
         have f4 := Below.old hb6 (Below.old ((Below.refl _ _).alloc (Nat.le_refl _) _) e4)
         have HB6 := Lib.hid ((HB5.out.alloc HB5.out.size _).trans (hb6.mono (HB5.out.alloc HB5.out.size _).size))
         clear hb6 e0 e1 e2 e3 e4))
    all_goals exact ⟨_, _, _, _, _, _, _, rfl, HB6.out, f0, f1, f2, f3, f4⟩
  · rintro a w6 ⟨x18, x19, x20, x21, x22, x23, x24, rfl, hb6, f0, f1, f2, f3, f4⟩
    have HB6 := Lib.hid hb6
    clear hb6
    gi_wp2
    gi_loopw [8, 30] (fun sl iv wr => ∃ i : Nat, i ≤ m ∧ iv = .int .i64 i ∧ wr.ownsRow w6.heap.size 62 4 sl (apAll rs rl rw sh l m i).length (apVs (apAll rs rl rw sh l m i)) ∧ Below w6.heap.size w6 wr) (fun _ iv _ => m - (intOf iv).toNat)
    case atStart => exact ⟨0, by omega, rfl, ⟨rfl, .inl ⟨rfl, rfl⟩⟩, Below.refl _ _⟩
    case round =>
      obtain ⟨i, hi', rfl, hown, hb⟩ := hrel
      have HO := Lib.hid hown
      have HB := Lib.hid hb
      clear hown hb
      by_cases hli : i < m
      · obtain ⟨b0, o0, rfl, hci⟩ := hi.out i hli
        have hci := Below.old HB6.out hci
        have hci := Below.old HB.out hci
        have hi9 : i < 9 := by omega
        have hw := wrap_small i (by omega)
        have hs1 : i + 1 ≤ lc := by omega
        have hs2 : (i : Int) + 1 ≤ lc := by omega
        have hs3 : (0 : Int) ≤ (i : Int) + 1 := by omega
        have hs4 : (i : Int) + 1 ≤ m := by omega
        have hs5 : i + 1 ≤ m := by omega
        gi_wp2
        case inl =>
          have hz : m - (i + 1) = 0 := by omega
          gi_loopw [8, 40] (fun sl kv wr => ∃ t : Nat, t ≤ m - (i + 1) ∧ kv = .int .i64 t ∧ wr.ownsRow w6.heap.size 62 4 sl (apAll rs rl rw sh l m i ++ apRow rs rl rw sh l i t).length (apVs (apAll rs rl rw sh l m i ++ apRow rs rl rw sh l i t)) ∧ Below w6.heap.size w6 wr) (fun _ kv _ => (m - (i + 1)) - (intOf kv).toNat)
          case atStart => exact ⟨0, by omega, rfl, by simpa [apRow] using HO.out, HB.out⟩
          case round =>
            obtain ⟨t, ht, rfl, hown, hb⟩ := hrel
            have HO := Lib.hid hown
            have HB := Lib.hid hb
            clear hown hb
            obtain rfl : t = 0 := by omega
            gi_wp2
            go_roundw
            case rel =>
              have hlc : lc = i + 1 := by omega
              rw [hlc]
              refine ⟨_, _, _, _, _, _, _, _, _, _, _, _, _, _, _, _, _, _, _, _, _, _, _, _, _, _, _, _, _, _, _, _, _, _, _, _, _, _, _, _, _, _, _, _, _, _, ⟨i + 1, by omega, by go_num, by simpa [apAll, apRow, hz] using HO.out, HB.out⟩, rfl⟩
            case measure => simp [intOf]; omega
        case inr =>
          gi_loopw [8, 40] (fun sl kv wr => ∃ t : Nat, t ≤ m - (i + 1) ∧ kv = .int .i64 t ∧ wr.ownsRow w6.heap.size 62 4 sl (apAll rs rl rw sh l m i ++ apRow rs rl rw sh l i t).length (apVs (apAll rs rl rw sh l m i ++ apRow rs rl rw sh l i t)) ∧ Below w6.heap.size w6 wr) (fun _ kv _ => (m - (i + 1)) - (intOf kv).toNat)
          case atStart => exact ⟨0, by omega, rfl, by simpa [apRow] using HO.out, HB.out⟩
          case round =>
            obtain ⟨t, ht, rfl, hown, hb⟩ := hrel
            have HO := Lib.hid hown
            have HB := Lib.hid hb
            clear hown hb
            by_cases hlt : t < m - (i + 1)
            · obtain ⟨b0', o0', e', hck⟩ := hi.out (i + 1 + t) (by omega)
              cases e'
              have hck := Below.old HB6.out hck
              have hck := Below.old HB.out hck
              rw [← Nat.add_assoc] at hck
              gi_wp2_with (gi_at_call 65; refine (measures_any _).mono ?_; rintro e w' ⟨rfl, rfl⟩)
              rename World => wo
              have hsz6 := HB.out.size
              gi_loopw [8, 46] (fun sl xv wi => ∃ x : Nat, x ≤ 3 ∧ xv = .int .i64 x ∧ wi.ownsRow w6.heap.size 62 4 sl (apAll rs rl rw sh l m i ++ apRow rs rl rw sh l i t ++ apCell rs rl rw sh l i (i + 1 + t) x).length (apVs (apAll rs rl rw sh l m i ++ apRow rs rl rw sh l i t ++ apCell rs rl rw sh l i (i + 1 + t) x)) ∧ Below w6.heap.size w6 wi ∧ wi.heap[wo.heap.size]? = some (.cells measuresV 119 (0, 0))) (fun _ xv _ => 3 - (intOf xv).toNat)
              case atStart => exact ⟨0, by omega, rfl, by simpa [apCell] using HO.out.alloc _, HB.out.alloc (by omega) _, heap_new _ _⟩
              case round =>
                obtain ⟨x, hx, rfl, hown, hb, hmv⟩ := hrel
                have m0 : wr.cell? ⟨wo.heap.size, 0, none⟩ = some (.func (.func 105) #[] #[]) := by simp [World.cell?, hmv, measuresV]
                have m1 : wr.cell? ⟨wo.heap.size, 1, none⟩ = some (.func (.func 106) #[] #[]) := by simp [World.cell?, hmv, measuresV]
                have m2 : wr.cell? ⟨wo.heap.size, 2, none⟩ = some (.func (.func 107) #[] #[]) := by simp [World.cell?, hmv, measuresV]
                have m3 : wr.cell? ⟨wo.heap.size, 3, none⟩ = some (.func (.func 108) #[] #[]) := by simp [World.cell?, hmv, measuresV]
                have m4 : wr.cell? ⟨wo.heap.size, 4, none⟩ = some (.func (.func 109) #[] #[]) := by simp [World.cell?, hmv, measuresV]
                have m5 : wr.cell? ⟨wo.heap.size, 5, none⟩ = some (.func (.func 110) #[] #[]) := by simp [World.cell?, hmv, measuresV]
                have HMV := Lib.hid hmv
                have HO := Lib.hid hown
                have HB := Lib.hid hb
                have g0 := Below.old hb f0
                have g1 := Below.old hb f1
                have g2 := Below.old hb f2
                have g3 := Below.old hb f3
                have g4 := Below.old hb f4
                have hz1 : W.heap.size + 1 < wr.heap.size := World.block_lt_of_cell? _ _ g0
                have hz2 : wo.heap.size < wr.heap.size := World.block_lt_of_cell? _ _ m0
                clear hown hb hmv
                by_cases hlx : x < 3
                · obtain ⟨b1, o1, rfl, _⟩ := hsh.out (l i) (hl.out i hli)
                  have HS := Lib.hid (hsh.out.below (HB6.out.trans (HB.out.mono HB6.out.size)))
                  have h3 : x = 0 ∨ x = 1 ∨ x = 2 := by omega
                  rcases h3 with rfl | rfl | rfl
                  · by_cases hy : nearOf rs rl rw (sh (l i)) (sh (l (i + 1 + t))) 0 = 1
                    · gi_wp2_with (gi_at_call 66; refine (near_any0 rs rl rw many b1 o1 n c (l i) (l (i + 1 + t)) sh _ (hl.out i hli) (hl.out (i + 1 + t) (by omega)) hn hst (Lib.hid (HS.out.below ((Below.refl _ _).alloc (Nat.le_refl _) _)))).mono ?_; rintro e w9 ⟨rfl, hb9⟩; rw [show nearZ (allowOf rs rl rw 0) (spanA (sh (l i)) 0) (spanB (sh (l i)) 0) (spanA (sh (l (i + 1 + t))) 0) (spanB (sh (l (i + 1 + t))) 0) = 1 from hy])
                      go_roundw
                      case rel =>
                        refine ⟨0 + 1, by omega, by first | rfl | go_num, ?_, (HB.out.alloc (by omega) _).trans (hb9.mono (by simp; omega)), ?_⟩
                        · have h := own_below (HO.out.alloc _) hb9
                          rw [apCell_yes hy]
                          exact h
                        · rw [hb9.block _ (by simp; omega), heap_alloc_old _ _ hz2]
                          exact HMV.out
                      case measure => simp [intOf]
                    · have hy' : ¬ nearZ (allowOf rs rl rw 0) (spanA (sh (l i)) 0) (spanB (sh (l i)) 0) (spanA (sh (l (i + 1 + t))) 0) (spanB (sh (l (i + 1 + t))) 0) = 1 := hy
                      gi_wp2_with (first
                        | (gi_at_call 66; refine (near_any0 rs rl rw many b1 o1 n c (l i) (l (i + 1 + t)) sh _ (hl.out i hli) (hl.out (i + 1 + t) (by omega)) hn hst (Lib.hid (HS.out.below ((Below.refl _ _).alloc (Nat.le_refl _) _)))).mono ?_; rintro e w9 ⟨rfl, hb9⟩; have HO9 := Lib.hid (own_below (HO.out.alloc _) hb9); have HB9 := Lib.hid ((HB.out.alloc (by omega) _).trans (hb9.mono (by simp; omega))); have HM9 : Hid (w9.heap[wo.heap.size]? = some (.cells measuresV 119 (0, 0))) := Lib.hid (by rw [hb9.block _ (by simp; omega), heap_alloc_old _ _ hz2]; exact HMV.out); clear hb9)
                        | (gi_at_builtin; refine wpListIn_append_own _ rfl _ _ 35 rfl w6.heap.size 62 i0 (.agg #[.int .i64 0, .int .i64 0, .int .i64 0, .int .i64 0]) 4 32 ut35 HI0.out HZ0.out HZ1.out HZ2.out rfl (by decide) _ _ _ rfl (HO9.out.alloc _) ⟨w9.heap.size, 0, none⟩ 1 1 (apV ⟨l i, l (i + 1 + t), 0, nearZ (allowOf rs rl rw 0) (spanA (sh (l i)) 0) (spanB (sh (l i)) 0) (spanA (sh (l (i + 1 + t))) 0) (spanB (sh (l (i + 1 + t))) 0)⟩) rfl rfl (cells_new _ _ _) (by simp [apV, Value.oneCell']) (ap_len rs rl rw sh l hm hi' (by omega) (by omega)) (by have := ap_len2 rs rl rw sh l hm hi' (t := t) (x := 0) (by omega) (by omega); omega) (by have := HB9.out.size; simp; omega) ?_; intro v' w4 hown4 hg4 hnil4))
                      go_roundw
                      case rel =>
                        have hx4 := HO9.out.alloc (.cells #[.int .i64 (l i), .int .i64 (l (i + 1 + t)), .int .i64 0, .int .i64 (nearZ (allowOf rs rl rw 0) (spanA (sh (l i)) 0) (spanB (sh (l i)) 0) (spanA (sh (l (i + 1 + t))) 0) (spanB (sh (l (i + 1 + t))) 0))] 62)
                        refine ⟨0 + 1, by omega, by first | rfl | go_num, ?_, (HB9.out.alloc HB9.out.size _).grown hg4 (by have := HB9.out.size; simp; omega) (fun g hg => (hx4.lt g hg).1), ?_⟩
                        · rw [apCell_no hy, ap_snoc_len, ap_snoc]
                          exact hown4
                        · have hz9 : wo.heap.size < w9.heap.size := (Array.getElem?_eq_some_iff.1 HM9.out).1
                          rw [hg4.block _ (by simp; omega) (fun e => by
                            obtain ⟨c', t', fz', h1, h2⟩ := own_elem hx4 _ e.symm
                            rw [heap_alloc_old _ _ hz9, HM9.out] at h1
                            cases h1
                            cases h2), heap_alloc_old _ _ hz9]
                          exact HM9.out
                      case measure => simp [intOf]
                  · by_cases hy : nearOf rs rl rw (sh (l i)) (sh (l (i + 1 + t))) 1 = 1
                    · gi_wp2_with (gi_at_call 66; refine (near_any1 rs rl rw many b1 o1 n c (l i) (l (i + 1 + t)) sh _ (hl.out i hli) (hl.out (i + 1 + t) (by omega)) hn hst (Lib.hid (HS.out.below ((Below.refl _ _).alloc (Nat.le_refl _) _)))).mono ?_; rintro e w9 ⟨rfl, hb9⟩; rw [show nearZ (allowOf rs rl rw 1) (spanA (sh (l i)) 1) (spanB (sh (l i)) 1) (spanA (sh (l (i + 1 + t))) 1) (spanB (sh (l (i + 1 + t))) 1) = 1 from hy])
                      go_roundw
                      case rel =>
                        refine ⟨1 + 1, by omega, by first | rfl | go_num, ?_, (HB.out.alloc (by omega) _).trans (hb9.mono (by simp; omega)), ?_⟩
                        · have h := own_below (HO.out.alloc _) hb9
                          rw [apCell_yes hy]
                          exact h
                        · rw [hb9.block _ (by simp; omega), heap_alloc_old _ _ hz2]
                          exact HMV.out
                      case measure => simp [intOf]
                    · have hy' : ¬ nearZ (allowOf rs rl rw 1) (spanA (sh (l i)) 1) (spanB (sh (l i)) 1) (spanA (sh (l (i + 1 + t))) 1) (spanB (sh (l (i + 1 + t))) 1) = 1 := hy
                      gi_wp2_with (first
                        | (gi_at_call 66; refine (near_any1 rs rl rw many b1 o1 n c (l i) (l (i + 1 + t)) sh _ (hl.out i hli) (hl.out (i + 1 + t) (by omega)) hn hst (Lib.hid (HS.out.below ((Below.refl _ _).alloc (Nat.le_refl _) _)))).mono ?_; rintro e w9 ⟨rfl, hb9⟩; have HO9 := Lib.hid (own_below (HO.out.alloc _) hb9); have HB9 := Lib.hid ((HB.out.alloc (by omega) _).trans (hb9.mono (by simp; omega))); have HM9 : Hid (w9.heap[wo.heap.size]? = some (.cells measuresV 119 (0, 0))) := Lib.hid (by rw [hb9.block _ (by simp; omega), heap_alloc_old _ _ hz2]; exact HMV.out); clear hb9)
                        | (gi_at_builtin; refine wpListIn_append_own _ rfl _ _ 35 rfl w6.heap.size 62 i0 (.agg #[.int .i64 0, .int .i64 0, .int .i64 0, .int .i64 0]) 4 32 ut35 HI0.out HZ0.out HZ1.out HZ2.out rfl (by decide) _ _ _ rfl (HO9.out.alloc _) ⟨w9.heap.size, 0, none⟩ 1 1 (apV ⟨l i, l (i + 1 + t), 1, nearZ (allowOf rs rl rw 1) (spanA (sh (l i)) 1) (spanB (sh (l i)) 1) (spanA (sh (l (i + 1 + t))) 1) (spanB (sh (l (i + 1 + t))) 1)⟩) rfl rfl (cells_new _ _ _) (by simp [apV, Value.oneCell']) (ap_len rs rl rw sh l hm hi' (by omega) (by omega)) (by have := ap_len2 rs rl rw sh l hm hi' (t := t) (x := 1) (by omega) (by omega); omega) (by have := HB9.out.size; simp; omega) ?_; intro v' w4 hown4 hg4 hnil4))
                      go_roundw
                      case rel =>
                        have hx4 := HO9.out.alloc (.cells #[.int .i64 (l i), .int .i64 (l (i + 1 + t)), .int .i64 1, .int .i64 (nearZ (allowOf rs rl rw 1) (spanA (sh (l i)) 1) (spanB (sh (l i)) 1) (spanA (sh (l (i + 1 + t))) 1) (spanB (sh (l (i + 1 + t))) 1))] 62)
                        refine ⟨1 + 1, by omega, by first | rfl | go_num, ?_, (HB9.out.alloc HB9.out.size _).grown hg4 (by have := HB9.out.size; simp; omega) (fun g hg => (hx4.lt g hg).1), ?_⟩
                        · rw [apCell_no hy, ap_snoc_len, ap_snoc]
                          exact hown4
                        · have hz9 : wo.heap.size < w9.heap.size := (Array.getElem?_eq_some_iff.1 HM9.out).1
                          rw [hg4.block _ (by simp; omega) (fun e => by
                            obtain ⟨c', t', fz', h1, h2⟩ := own_elem hx4 _ e.symm
                            rw [heap_alloc_old _ _ hz9, HM9.out] at h1
                            cases h1
                            cases h2), heap_alloc_old _ _ hz9]
                          exact HM9.out
                      case measure => simp [intOf]
                  · by_cases hy : nearOf rs rl rw (sh (l i)) (sh (l (i + 1 + t))) 2 = 1
                    · gi_wp2_with (gi_at_call 66; refine (near_any2 rs rl rw many b1 o1 n c (l i) (l (i + 1 + t)) sh _ (hl.out i hli) (hl.out (i + 1 + t) (by omega)) hn hst (Lib.hid (HS.out.below ((Below.refl _ _).alloc (Nat.le_refl _) _)))).mono ?_; rintro e w9 ⟨rfl, hb9⟩; rw [show nearZ (allowOf rs rl rw 2) (spanA (sh (l i)) 2) (spanB (sh (l i)) 2) (spanA (sh (l (i + 1 + t))) 2) (spanB (sh (l (i + 1 + t))) 2) = 1 from hy])
                      go_roundw
                      case rel =>
                        refine ⟨2 + 1, by omega, by first | rfl | go_num, ?_, (HB.out.alloc (by omega) _).trans (hb9.mono (by simp; omega)), ?_⟩
                        · have h := own_below (HO.out.alloc _) hb9
                          rw [apCell_yes hy]
                          exact h
                        · rw [hb9.block _ (by simp; omega), heap_alloc_old _ _ hz2]
                          exact HMV.out
                      case measure => simp [intOf]
                    · have hy' : ¬ nearZ (allowOf rs rl rw 2) (spanA (sh (l i)) 2) (spanB (sh (l i)) 2) (spanA (sh (l (i + 1 + t))) 2) (spanB (sh (l (i + 1 + t))) 2) = 1 := hy
                      gi_wp2_with (first
                        | (gi_at_call 66; refine (near_any2 rs rl rw many b1 o1 n c (l i) (l (i + 1 + t)) sh _ (hl.out i hli) (hl.out (i + 1 + t) (by omega)) hn hst (Lib.hid (HS.out.below ((Below.refl _ _).alloc (Nat.le_refl _) _)))).mono ?_; rintro e w9 ⟨rfl, hb9⟩; have HO9 := Lib.hid (own_below (HO.out.alloc _) hb9); have HB9 := Lib.hid ((HB.out.alloc (by omega) _).trans (hb9.mono (by simp; omega))); have HM9 : Hid (w9.heap[wo.heap.size]? = some (.cells measuresV 119 (0, 0))) := Lib.hid (by rw [hb9.block _ (by simp; omega), heap_alloc_old _ _ hz2]; exact HMV.out); clear hb9)
                        | (gi_at_builtin; refine wpListIn_append_own _ rfl _ _ 35 rfl w6.heap.size 62 i0 (.agg #[.int .i64 0, .int .i64 0, .int .i64 0, .int .i64 0]) 4 32 ut35 HI0.out HZ0.out HZ1.out HZ2.out rfl (by decide) _ _ _ rfl (HO9.out.alloc _) ⟨w9.heap.size, 0, none⟩ 1 1 (apV ⟨l i, l (i + 1 + t), 2, nearZ (allowOf rs rl rw 2) (spanA (sh (l i)) 2) (spanB (sh (l i)) 2) (spanA (sh (l (i + 1 + t))) 2) (spanB (sh (l (i + 1 + t))) 2)⟩) rfl rfl (cells_new _ _ _) (by simp [apV, Value.oneCell']) (ap_len rs rl rw sh l hm hi' (by omega) (by omega)) (by have := ap_len2 rs rl rw sh l hm hi' (t := t) (x := 2) (by omega) (by omega); omega) (by have := HB9.out.size; simp; omega) ?_; intro v' w4 hown4 hg4 hnil4))
                      go_roundw
                      case rel =>
                        have hx4 := HO9.out.alloc (.cells #[.int .i64 (l i), .int .i64 (l (i + 1 + t)), .int .i64 2, .int .i64 (nearZ (allowOf rs rl rw 2) (spanA (sh (l i)) 2) (spanB (sh (l i)) 2) (spanA (sh (l (i + 1 + t))) 2) (spanB (sh (l (i + 1 + t))) 2))] 62)
                        refine ⟨2 + 1, by omega, by first | rfl | go_num, ?_, (HB9.out.alloc HB9.out.size _).grown hg4 (by have := HB9.out.size; simp; omega) (fun g hg => (hx4.lt g hg).1), ?_⟩
                        · rw [apCell_no hy, ap_snoc_len, ap_snoc]
                          exact hown4
                        · have hz9 : wo.heap.size < w9.heap.size := (Array.getElem?_eq_some_iff.1 HM9.out).1
                          rw [hg4.block _ (by simp; omega) (fun e => by
                            obtain ⟨c', t', fz', h1, h2⟩ := own_elem hx4 _ e.symm
                            rw [heap_alloc_old _ _ hz9, HM9.out] at h1
                            cases h1
                            cases h2), heap_alloc_old _ _ hz9]
                          exact HM9.out
                      case measure => simp [intOf]
                · gi_wp2
                  obtain rfl : x = 3 := by omega
                  go_roundw
                  case rel => exact ⟨t + 1, by omega, by go_num, by rw [show apRow rs rl rw sh l i (t + 1) = apRow rs rl rw sh l i t ++ apCell rs rl rw sh l i (i + 1 + t) 3 from rfl, ← List.append_assoc]; exact HO.out, HB.out⟩
                  case measure => simp [intOf]; omega
            · gi_wp2
              obtain rfl : t = m - (i + 1) := by omega
              go_roundw
              case rel => exact ⟨i + 1, by omega, by go_num, by simpa [apAll] using HO.out, HB.out⟩
              case measure => simp [intOf]; omega
      · gi_wp2
        go_ret2
        obtain rfl : i = m := by omega
        exact ⟨_, _, rfl, HO.out, HB6.out.size, HB6.out.trans (HB.out.mono HB6.out.size)⟩
end Go.Proofs.YtpdmgecbapmgdaaGreat
end
section
namespace Go.Proofs.YtpdmgecbapmgdaaGreat
open Go.RowKit
section
variable (rs rl rw many : Int) (A : Option Addr) (n c k m : Nat) (x0 x1 : Int)
def ChkF : Nat → List Value → World → Prop
  | 0, vs, _ => vs = [stockV rs rl rw many A n c]
  | 1, vs, _ => vs = [.func (.func 56) #[stockV rs rl rw many A n c] #[]]
  | 2, vs, _ => vs = [stockV rs rl rw many A n c]
  | 3, vs, _ => vs = [.int .i64 k]
  | 4, vs, w => ∃ v, vs = [v] ∧ CheckIs v 0 w
  | 5, vs, _ => vs = [.int .i64 m]
  | 6, vs, w => ∃ v, vs = [v] ∧ CheckIs v 0 w
  | 7, vs, _ => vs = [spanV x0 x1]
  | 8, vs, w => ∃ v, vs = [v] ∧ CheckIs v (outZ x0 x1 0 9999) w
  | 9, vs, w => ∃ g : Nat, vs = [.slice (some ⟨g, 0, none⟩) 4 4] ∧ ∀ i, i < 4 → ∃ v, w.cell? ⟨g, i, none⟩ = some v ∧ CheckIs v (if i = 3 then outZ x0 x1 0 9999 else 0) w
  | 10, vs, _ => ∃ f : Int, vs = [.int .i64 f] ∧ (f = 0 ↔ outZ x0 x1 0 9999 = 0)
  | 11, vs, _ => ∃ f : Int, vs = [.int .i64 f] ∧ (f = 0 ↔ outZ x0 x1 0 9999 = 0)
  | _, _, _ => True
theorem ChkF.below {w w' : World} (hb : Below w.heap.size w w') (i : Nat) (vs : List Value) (h : ChkF rs rl rw many A n c k m x0 x1 i vs w) : ChkF rs rl rw many A n c k m x0 x1 i vs w' := by
  unfold ChkF at h ⊢
  split
  all_goals simp only at h
  all_goals first
    | exact h
    | (obtain ⟨v, h1, h2⟩ := h; exact ⟨v, h1, h2.below hb⟩)
    | (obtain ⟨g, h1, h2⟩ := h
       refine ⟨g, h1, fun i hi => ?_⟩
       obtain ⟨v, h3, h4⟩ := h2 i hi
       exact ⟨v, Below.old hb h3, h4.below hb⟩)
    | trivial
end
theorem CheckIs.shape {v : Value} {f : Int} {w : World} (h : CheckIs v f w) : ∃ (i : Nat) (x y : Array Value), v = .func (.func i) x y := by
  rcases h with ⟨i, sv, _, rfl, _⟩ | ⟨p, q, rfl, _⟩ | ⟨p, q, r, rfl, _⟩ | ⟨p, q, r, rfl, _⟩ <;> exact ⟨_, _, _, rfl⟩
def ToF (s g n cap k m : Nat) : Nat → List Value → World → Prop
  | 0, vs, w => ∃ q : Nat, vs = [.slice (some ⟨q, 0, none⟩) 3 3] ∧ w.heap[q]? = some (.cells measuresV 119 (0, 0))
  | 1, vs, _ => vs = [.int .i64 m]
  | 2, vs, w => ∃ q : Nat, vs = [.pointer (some ⟨q, m * 2, none⟩)] ∧ w.heap[q]? = some (.cells measuresV 119 (0, 0))
  | 3, vs, w => ∃ q : Nat, vs = [.pointer (some ⟨q, m * 2, none⟩)] ∧ w.heap[q]? = some (.cells measuresV 119 (0, 0))
  | 4, vs, _ => vs = [.func (.func (105 + 2 * m)) #[] #[]]
  | 5, vs, _ => vs = [.pointer (some ⟨s, 4, none⟩)]
  | 6, vs, _ => vs = [.slice (some ⟨g, 0, none⟩) n cap]
  | 7, vs, _ => vs = [.int .i64 k]
  | 8, vs, _ => vs = [.pointer (some ⟨g, k * 7, none⟩)]
  | 9, vs, _ => vs = [.pointer (some ⟨g, k * 7 + (1 + 2 * m), none⟩)]
  | 10, vs, _ => vs = [.pointer (some ⟨g, k * 7 + (1 + 2 * m), none⟩)]
  | _, _, _ => True
theorem ToF.below (s g n cap k m : Nat) {w w' : World} (hb : Below w.heap.size w w') (i : Nat) (vs : List Value) (h : ToF s g n cap k m i vs w) : ToF s g n cap k m i vs w' := by
  unfold ToF at h ⊢
  split
  all_goals simp only at h
  all_goals first
    | exact h
    | (obtain ⟨q, h1, h2⟩ := h; exact ⟨q, h1, by rw [hb.block _ (Array.getElem?_eq_some_iff.1 h2).1]; exact h2⟩)
    | trivial
def comU (a b x y : Int) : Int := if max a x ≤ min b y then max a x else 0
def comV (a b x y : Int) : Int := if max a x ≤ min b y then min b y else 0
def comT (a b x y : Int) : Bool := decide (max a x ≤ min b y)
theorem SaysCommon.eq {a b x y : Int} {w w' : World} {e : Ending} (h : SaysCommon a b x y w e w') : e = .returned (.tuple #[spanV (comU a b x y) (comV a b x y), .bool (comT a b x y)]) ∧ Below w.heap.size w w' := by
  obtain ⟨hb, ⟨h, rfl⟩ | ⟨h, rfl⟩⟩ := h
  · exact ⟨by simp only [comU, comV, comT, if_pos h, decide_eq_true h], hb⟩
  · exact ⟨by simp only [comU, comV, comT, if_neg h, decide_eq_false h], hb⟩
def ComF (g P lo : Nat) (a b x y : Int) : Nat → List Value → World → Prop
  | 0, vs, _ => vs = [.pointer (some ⟨g, P, none⟩)]
  | 1, vs, _ => vs = [.pointer (some ⟨g, P, none⟩)]
  | 2, vs, _ => vs = [spanV a b]
  | 3, vs, _ => vs = [spanV x y]
  | 4, vs, _ => vs = [.tuple #[spanV (comU a b x y) (comV a b x y), .bool (comT a b x y)]]
  | 5, vs, _ => vs = [.tuple #[spanV (comU a b x y) (comV a b x y), .bool (comT a b x y)]]
  | 6, vs, _ => vs = [spanV (comU a b x y) (comV a b x y)]
  | 7, vs, _ => vs = [.bool (comT a b x y)]
  | 8, vs, w => ∃ p : Nat, vs = [.pointer (some ⟨p, 0, none⟩)] ∧ lo ≤ p ∧ ∃ u v, SpanAt w p u v
  | 9, vs, w => ∃ p : Nat, vs = [.pointer (some ⟨p, 0, none⟩)] ∧ lo ≤ p ∧ SpanAt w p (comU a b x y) (comV a b x y)
  | 10, vs, _ => vs = [.bool (comT a b x y)]
  | _, _, _ => True
theorem ComF.below (g P lo : Nat) (a b x y : Int) {w w' : World} (hb : Below w.heap.size w w') (i : Nat) (vs : List Value) (h : ComF g P lo a b x y i vs w) : ComF g P lo a b x y i vs w' := by
  unfold ComF at h ⊢
  split
  all_goals simp only at h
  all_goals first
    | exact h
    | (obtain ⟨p, h1, h2, u, v, h3⟩ := h; exact ⟨p, h1, h2, u, v, h3.below hb⟩)
    | (obtain ⟨p, h1, h2, h3⟩ := h; exact ⟨p, h1, h2, h3.below hb⟩)
    | trivial
theorem ComF.store (g P lo : Nat) (a b x y : Int) {w : World} {p : Nat} {u v : Int} (hp : SpanAt w p u v) (i : Nat) (hi : i ≠ 9) {vs : List Value} (hv : i = 8 → vs = [.pointer (some ⟨p, 0, none⟩)]) (s t : Int) (h : ComF g P lo a b x y i vs w) : ComF g P lo a b x y i vs ((w.setCell ⟨p, 0, none⟩ (.int .i64 s)).setCell ⟨p, 1, none⟩ (.int .i64 t)) := by
  unfold ComF at h ⊢
  split
  all_goals simp only at h
  all_goals first
    | exact h
    | exact absurd rfl hi
    | (obtain ⟨p', h1, h2, u, v, h3⟩ := h
       have e := hv rfl
       rw [h1] at e
       simp only [List.cons.injEq, Value.pointer.injEq, Option.some.injEq, Addr.mk.injEq, and_true] at e
       subst e
       exact ⟨p', h1, h2, s, t, hp.set s t⟩)
    | trivial
end Go.Proofs.YtpdmgecbapmgdaaGreat
end
section
namespace Go.Proofs.YtpdmgecbapmgdaaGreat
open Go.RowKit
def limZ (n l m : Int) : Int := if l ≤ n ∧ n ≤ m then 0 else 1
theorem limits1_any (n l m : Int) (p q r : Nat) (w : World) (hp : w.cell? ⟨p, 0, none⟩ = some (.int .i64 n)) (hq : w.cell? ⟨q, 0, none⟩ = some (.int .i64 l)) (hr : w.cell? ⟨r, 0, none⟩ = some (.int .i64 m)) :
    CallsIn Fc 0 Tryz.prog 124 #[ptr p, ptr q, ptr r] w (SaysInt (limZ n l m) w) := by
  unfold limZ
  gi_enter Tryz.func124, Tryz.ntmps124
  by_cases h1 : n < l
  · rw [if_neg (by omega)]
    gi_wp2
    go_ret
    exact ⟨rfl, Below.refl _ _⟩
  · by_cases h3 : n > m
    · rw [if_neg (by omega)]
      gi_wp2
      go_ret
      exact ⟨rfl, Below.refl _ _⟩
    · rw [if_pos (by omega)]
      gi_wp2
      go_ret
      exact ⟨rfl, Below.refl _ _⟩
theorem Lim.exact {w : World} {v : Value} {n l m : Int} (h : Lim v n l m w) : CheckIs v (limZ n l m) w := by
  obtain ⟨p, q, r, rfl, hp, hq, hr⟩ := h
  exact .inr (.inr (.inl ⟨p, q, r, rfl, fun w' hb => limits1_any n l m p q r w' (Below.old hb hp.cell) (Below.old hb hq.cell) (Below.old hb hr.cell)⟩))
theorem checkCount_any (rs rl rw many : Int) (A : Option Addr) (n c : Nat) (W : World) (hn : n ≤ 20) :
    CallsIn Fc 0 Tryz.prog 97 #[stockV rs rl rw many A n c] W (SaysInt (if n ≤ 9 then 0 else 2) W) := by
  gi_enter Tryz.func97, Tryz.ntmps97
  by_cases h : n ≤ 9
  · rw [if_pos h]
    gi_wp2
    go_ret
    exact ⟨rfl, (Below.refl _ _).alloc (Nat.le_refl _) _⟩
  · rw [if_neg h]
    have h' : (9 : Int) < n := by omega
    gi_wp2
    go_ret
    exact ⟨rfl, (Below.refl _ _).alloc (Nat.le_refl _) _⟩
def SaysIf (p : Prop) (w : World) (e : Ending) (w' : World) : Prop := ∃ b : Bool, e = .returned (.bool b) ∧ (b = true ↔ p) ∧ w = w'
theorem isName2_any (s : ByteArray) (w : World) (hs : s.size ≤ 200) : CallsIn Fc 0 Tryz.prog 159 #[.string s] w (SaysIf (NameOk s) w) := by
  by_cases hsz : 1 ≤ s.size ∧ s.size ≤ 12
  · obtain ⟨hb1, hb2⟩ := hsz
    gi_enter Tryz.func159, Tryz.ntmps159
    gi_wp2
    gi_loop [16] (fun i => ∃ k : Nat, k ≤ s.size ∧ i = .int .i64 k ∧ ∀ (j : Nat) (h : j < s.size), j < k → letterB s[j] = true ∨ (j ≠ 0 ∧ digitB s[j] = true)) (fun i => s.size - (intOf i).toNat)
    case atStart => exact ⟨0, Nat.zero_le _, rfl, fun j _ h => by omega⟩
    case round =>
      obtain ⟨k, hk, rfl, hall⟩ := hrel
      have HA := Lib.hid hall
      clear hall
      by_cases hlt : k < s.size
      · by_cases hl : letterB s[k] = true
        · have hl' := letter_int hl
          obtain ⟨hl1, hl2⟩ := hl'
          have HL := Lib.hid hl
          clear hl
          by_cases hd1 : 48 ≤ (s[k].toNat : Int)
          · by_cases hd2 : (s[k].toNat : Int) ≤ 57
            · omega
            · gi_wp2
              go_round
              case rel => exact ⟨k + 1, by omega, by go_num, fun j h hj => by
                rcases Nat.lt_succ_iff_lt_or_eq.1 hj with hj | rfl
                · exact HA.out j h hj
                · exact .inl HL.out⟩
              case measure => simp [intOf]; omega
          · omega
        · have hl' : ¬ (97 ≤ (s[k].toNat : Int) ∧ (s[k].toNat : Int) ≤ 122) := fun h => hl (by simpa [letterB] using h)
          have HL := Lib.hid hl
          clear hl
          by_cases hd : digitB s[k] = true
          · have hd' := digit_int hd
            obtain ⟨hd1, hd2⟩ := hd'
            have HD := Lib.hid hd
            clear hd hl'
            have hl1 : ¬ 97 ≤ (s[k].toNat : Int) := by omega
            by_cases h0 : k = 0
            · subst h0
              have hno : ¬ NameOk s := fun h => HL.out (h.first hlt)
              have HN := Lib.hid hno
              clear hno
              gi_wp2
              go_ret
              exact ⟨false, rfl, ⟨fun h => absurd h (by decide), fun h => absurd h HN.out⟩, rfl⟩
            · have hk0 : ((k : Int) == 0) = false := by simp; omega
              gi_wp2
              go_round
              case rel => exact ⟨k + 1, by omega, by go_num, fun j h hj => by
                rcases Nat.lt_succ_iff_lt_or_eq.1 hj with hj | rfl
                · exact HA.out j h hj
                · exact .inr ⟨h0, HD.out⟩⟩
              case measure => simp [intOf]; omega
          · have hd' : ¬ (48 ≤ (s[k].toNat : Int) ∧ (s[k].toNat : Int) ≤ 57) := fun h => hd (by simpa [digitB] using h)
            have hno : ¬ NameOk s := fun h => by
              rcases h.rest k hlt with h | h
              · exact HL.out h
              · exact hd h
            have HN := Lib.hid hno
            clear hno hd
            by_cases hl1 : 97 ≤ (s[k].toNat : Int)
            · have hl2 : ¬ (s[k].toNat : Int) ≤ 122 := fun h => hl' ⟨hl1, h⟩
              have hd1 : 48 ≤ (s[k].toNat : Int) := by omega
              have hd2 : ¬ (s[k].toNat : Int) ≤ 57 := by omega
              clear hl' hd'
              gi_wp2
              all_goals
                go_ret
                exact ⟨false, rfl, ⟨fun h => absurd h (by decide), fun h => absurd h HN.out⟩, rfl⟩
            · by_cases hd1 : 48 ≤ (s[k].toNat : Int)
              · have hd2 : ¬ (s[k].toNat : Int) ≤ 57 := fun h => hd' ⟨hd1, h⟩
                clear hl' hd'
                gi_wp2
                all_goals
                  go_ret
                  exact ⟨false, rfl, ⟨fun h => absurd h (by decide), fun h => absurd h HN.out⟩, rfl⟩
              · clear hl' hd'
                gi_wp2
                all_goals
                  go_ret
                  exact ⟨false, rfl, ⟨fun h => absurd h (by decide), fun h => absurd h HN.out⟩, rfl⟩
      · gi_wp2
        go_ret
        exact ⟨true, rfl, ⟨fun _ => ⟨hb1, hb2, fun h => by
          rcases HA.out 0 h (by omega) with h | h
          · exact h
          · exact absurd rfl h.1, fun i h => by
          rcases HA.out i h (by omega) with h | h
          · exact .inl h
          · exact .inr h.2⟩, fun _ => rfl⟩, rfl⟩
  · have hno : ¬ NameOk s := fun h => hsz ⟨h.least, h.most⟩
    have HN := Lib.hid hno
    clear hno
    gi_enter Tryz.func159, Tryz.ntmps159
    by_cases h1 : s.size < 1
    · gi_wp2
      go_ret
      exact ⟨false, rfl, ⟨fun h => absurd h (by decide), fun h => absurd h HN.out⟩, rfl⟩
    · have h2 : 12 < s.size := by omega
      gi_wp2
      go_ret
      exact ⟨false, rfl, ⟨fun h => absurd h (by decide), fun h => absurd h HN.out⟩, rfl⟩
end Go.Proofs.YtpdmgecbapmgdaaGreat
end
section
namespace Go.Proofs.YtpdmgecbapmgdaaGreat
open Go.RowKit
def ruleF (rs rl rw many : Int) (j : Nat) : Int := if j = 3 then limZ many 2 4 else limZ (allowOf rs rl rw j) 0 9999
def ruleZ (rs rl rw many : Int) : Int := firstZ (ruleF rs rl rw many) 4
theorem limZ_zero {n l m : Int} : limZ n l m = 0 ↔ l ≤ n ∧ n ≤ m := by
  unfold limZ
  split
  · next h => exact ⟨fun _ => h, fun _ => rfl⟩
  · next h => exact ⟨fun h' => absurd h' (by decide), fun h' => absurd h' h⟩
theorem ruleZ_zero {rs rl rw many : Int} : ruleZ rs rl rw many = 0 ↔ RuleOk rs rl rw many := by
  unfold ruleZ
  rw [firstZ_zero]
  constructor
  · intro h
    have h0 := limZ_zero.1 (h 0 (by omega))
    have h1 := limZ_zero.1 (h 1 (by omega))
    have h2 := limZ_zero.1 (h 2 (by omega))
    have h3 := limZ_zero.1 (h 3 (by omega))
    exact ⟨h0.1, h0.2, h1.1, h1.2, h2.1, h2.2, h3.1, h3.2⟩
  · intro h k hk
    have h4 : k = 0 ∨ k = 1 ∨ k = 2 ∨ k = 3 := by omega
    rcases h4 with rfl | rfl | rfl | rfl
    · exact limZ_zero.2 ⟨h.s0, h.s1⟩
    · exact limZ_zero.2 ⟨h.l0, h.l1⟩
    · exact limZ_zero.2 ⟨h.w0, h.w1⟩
    · exact limZ_zero.2 ⟨h.m0, h.m1⟩
theorem limZ_one (n l m : Int) : limZ n l m = 0 ∨ limZ n l m = 1 := by
  unfold limZ
  split
  · exact .inl rfl
  · exact .inr rfl
theorem firstZ_one {F : Nat → Int} (h : ∀ k, F k = 0 ∨ F k = 1) : ∀ n, firstZ F n = 0 ∨ firstZ F n = 1
  | 0 => .inl rfl
  | n + 1 => by
    simp only [firstZ]
    split
    · exact h n
    · exact firstZ_one h n
theorem ruleZ_one (rs rl rw many : Int) : ruleZ rs rl rw many = 0 ∨ ruleZ rs rl rw many = 1 := firstZ_one (fun k => by unfold ruleF; split <;> exact limZ_one ..) 4
theorem checkRule_any (rs rl rw many : Int) (A : Option Addr) (n c : Nat) (W : World) :
    CallsIn Fc 0 Tryz.prog 96 #[.agg #[.int .i64 rs, .int .i64 rl, .int .i64 rw, .int .i64 many, .slice A n c]] W (SaysInt (ruleZ rs rl rw many) W) := by
  obtain ⟨i0, hi, hz0, hz1, hz2⟩ := info_parts i101
  have HI := Lib.hid hi
  have HZ0 := Lib.hid hz0
  have HZ1 := Lib.hid hz1
  have HZ2 := Lib.hid hz2
  clear hi hz0 hz1 hz2
  gi_enter Tryz.func96, Tryz.ntmps96
  gi_wp2_with (gi_at_call 65; refine (measures_any _).mono ?_; rintro e w' ⟨rfl, rfl⟩)
  gi_loopw [3, 8] (fun sl i wr => ∃ (k : Nat) (vs : List Value), k ≤ 3 ∧ i = .int .i64 k ∧ wr.ownsRow (W.heap.size + 2) 101 1 sl k vs ∧ (∀ j, j < k → ∃ v, vs[j]? = some v ∧ Lim v (allowOf rs rl rw j) 0 9999 wr) ∧
      Below (W.heap.size + 2) ((W.alloc (.cells #[.int .i64 rs, .int .i64 rl, .int .i64 rw, .int .i64 many, .slice A n c] 99)).alloc (.cells measuresV 119)) wr) (fun _ i _ => 3 - (intOf i).toNat)
  case atStart => exact ⟨0, [], by omega, rfl, ⟨rfl, .inl ⟨rfl, rfl⟩⟩, (fun j h => absurd h (by omega)), Below.refl _ _⟩
  case round =>
    obtain ⟨k, vs, hk, rfl, hown, hvs, hb⟩ := hrel
    have c0 : wr.cell? ⟨W.heap.size, 0, none⟩ = some (.int .i64 rs) := by rw [hb.cell (by simp)]; go_simp
    have c1 : wr.cell? ⟨W.heap.size, 1, none⟩ = some (.int .i64 rl) := by rw [hb.cell (by simp)]; go_simp
    have c2 : wr.cell? ⟨W.heap.size, 2, none⟩ = some (.int .i64 rw) := by rw [hb.cell (by simp)]; go_simp
    have c3 : wr.cell? ⟨W.heap.size, 3, none⟩ = some (.int .i64 many) := by rw [hb.cell (by simp)]; go_simp
    have m0 : wr.cell? ⟨W.heap.size + 1, 0, none⟩ = some (.func (.func 105) #[] #[]) := by rw [hb.cell (by simp)]; simp [measuresV]
    have m1 : wr.cell? ⟨W.heap.size + 1, 1, none⟩ = some (.func (.func 106) #[] #[]) := by rw [hb.cell (by simp)]; simp [measuresV]
    have m2 : wr.cell? ⟨W.heap.size + 1, 2, none⟩ = some (.func (.func 107) #[] #[]) := by rw [hb.cell (by simp)]; simp [measuresV]
    have m3 : wr.cell? ⟨W.heap.size + 1, 3, none⟩ = some (.func (.func 108) #[] #[]) := by rw [hb.cell (by simp)]; simp [measuresV]
    have m4 : wr.cell? ⟨W.heap.size + 1, 4, none⟩ = some (.func (.func 109) #[] #[]) := by rw [hb.cell (by simp)]; simp [measuresV]
    have m5 : wr.cell? ⟨W.heap.size + 1, 5, none⟩ = some (.func (.func 110) #[] #[]) := by rw [hb.cell (by simp)]; simp [measuresV]
    have hz1 : W.heap.size + 1 < wr.heap.size := by have := hb.size; simp at this; omega
    have hz0 : W.heap.size < wr.heap.size := by omega
    have HB := Lib.hid hb
    have HV := Lib.hid hvs
    have HO := Lib.hid hown
    clear hb hvs hown
    by_cases hlt : k < 3
    · have h3 : k = 0 ∨ k = 1 ∨ k = 2 := by omega
      rcases h3 with rfl | rfl | rfl
      · gi_wp2_with (first
            | (gi_at_call 106; refine (allow0_any _ _ _ _ _).mono ?_; rintro e w2 ⟨rfl, hb2⟩)
            | (gi_at_call 108; refine (allow1_any _ _ _ _ _).mono ?_; rintro e w2 ⟨rfl, hb2⟩)
            | (gi_at_call 110; refine (allow2_any _ _ _ _ _).mono ?_; rintro e w2 ⟨rfl, hb2⟩)
            | (gi_at_call 77; refine (limits_any _ _ _ _).mono ?_; rintro e w3 ⟨lv, rfl, ⟨p, q, r, rfl, hp, hq, hr3⟩, hb3⟩)
            | (gi_at_builtin; refine wpListIn_append_own _ rfl _ _ 151 rfl (W.heap.size + 2) 101 i0 .nilFunc 1 8 u151 HI.out HZ0.out HZ1.out HZ2.out rfl (by decide) _ _ _ rfl ((own_below (own_below ((HO.out).alloc _) hb2) hb3).alloc _) ⟨w3.heap.size, 0, none⟩ 1 1 [.func (.func 124) #[] #[ptr p, ptr q, ptr r]] rfl rfl (cell_one_new _ _ _) (by simp [Value.oneCell']) (by simp [maxLen]) (by decide) (by have := hb2.size; have := hb3.size; simp at *; omega) ?_; intro v' w4 hown4 hg4 hnil4))
        have hx := (own_below (own_below ((HO.out).alloc (.cells #[.func (.func 105) #[] #[], .func (.func 106) #[] #[]] 119)) hb2) hb3).alloc (.cells #[.func (.func 124) #[] #[ptr p, ptr q, ptr r]] 101)
        have hs2 := hb2.size
        have hs3 := hb3.size
        simp at hs2 hs3
        go_roundw
        case rel =>
          refine ⟨0 + 1, vs ++ [.func (.func 124) #[] #[ptr p, ptr q, ptr r]], by omega, by first | rfl | go_num, hown4, vs_step HO.out.1 (fun j hj => ?_) ?_, ?_⟩
          · obtain ⟨v, h1, h2⟩ := HV.out j hj
            exact ⟨v, h1, ((((h2.alloc _).below hb2).below hb3).alloc _).grown hg4 (own_elem hx)⟩
          · exact (Lim.alloc ⟨p, q, r, rfl, hp, hq, hr3⟩ _).grown hg4 (own_elem hx)
          · exact (((((HB.out.alloc (by omega) _).trans (hb2.mono (by simp; omega))).trans (hb3.mono (by omega))).alloc (by omega) _).grown hg4 (by simp; omega) (fun g hg => (hx.lt g hg).1))
        case measure => simp [intOf]
      · gi_wp2_with (first
            | (gi_at_call 106; refine (allow0_any _ _ _ _ _).mono ?_; rintro e w2 ⟨rfl, hb2⟩)
            | (gi_at_call 108; refine (allow1_any _ _ _ _ _).mono ?_; rintro e w2 ⟨rfl, hb2⟩)
            | (gi_at_call 110; refine (allow2_any _ _ _ _ _).mono ?_; rintro e w2 ⟨rfl, hb2⟩)
            | (gi_at_call 77; refine (limits_any _ _ _ _).mono ?_; rintro e w3 ⟨lv, rfl, ⟨p, q, r, rfl, hp, hq, hr3⟩, hb3⟩)
            | (gi_at_builtin; refine wpListIn_append_own _ rfl _ _ 151 rfl (W.heap.size + 2) 101 i0 .nilFunc 1 8 u151 HI.out HZ0.out HZ1.out HZ2.out rfl (by decide) _ _ _ rfl ((own_below (own_below ((HO.out).alloc _) hb2) hb3).alloc _) ⟨w3.heap.size, 0, none⟩ 1 1 [.func (.func 124) #[] #[ptr p, ptr q, ptr r]] rfl rfl (cell_one_new _ _ _) (by simp [Value.oneCell']) (by simp [maxLen]) (by decide) (by have := hb2.size; have := hb3.size; simp at *; omega) ?_; intro v' w4 hown4 hg4 hnil4))
        have hx := (own_below (own_below ((HO.out).alloc (.cells #[.func (.func 107) #[] #[], .func (.func 108) #[] #[]] 119)) hb2) hb3).alloc (.cells #[.func (.func 124) #[] #[ptr p, ptr q, ptr r]] 101)
        have hs2 := hb2.size
        have hs3 := hb3.size
        simp at hs2 hs3
        go_roundw
        case rel =>
          refine ⟨1 + 1, vs ++ [.func (.func 124) #[] #[ptr p, ptr q, ptr r]], by omega, by first | rfl | go_num, hown4, vs_step HO.out.1 (fun j hj => ?_) ?_, ?_⟩
          · obtain ⟨v, h1, h2⟩ := HV.out j hj
            exact ⟨v, h1, ((((h2.alloc _).below hb2).below hb3).alloc _).grown hg4 (own_elem hx)⟩
          · exact (Lim.alloc ⟨p, q, r, rfl, hp, hq, hr3⟩ _).grown hg4 (own_elem hx)
          · exact (((((HB.out.alloc (by omega) _).trans (hb2.mono (by simp; omega))).trans (hb3.mono (by omega))).alloc (by omega) _).grown hg4 (by simp; omega) (fun g hg => (hx.lt g hg).1))
        case measure => simp [intOf]
      · gi_wp2_with (first
            | (gi_at_call 106; refine (allow0_any _ _ _ _ _).mono ?_; rintro e w2 ⟨rfl, hb2⟩)
            | (gi_at_call 108; refine (allow1_any _ _ _ _ _).mono ?_; rintro e w2 ⟨rfl, hb2⟩)
            | (gi_at_call 110; refine (allow2_any _ _ _ _ _).mono ?_; rintro e w2 ⟨rfl, hb2⟩)
            | (gi_at_call 77; refine (limits_any _ _ _ _).mono ?_; rintro e w3 ⟨lv, rfl, ⟨p, q, r, rfl, hp, hq, hr3⟩, hb3⟩)
            | (gi_at_builtin; refine wpListIn_append_own _ rfl _ _ 151 rfl (W.heap.size + 2) 101 i0 .nilFunc 1 8 u151 HI.out HZ0.out HZ1.out HZ2.out rfl (by decide) _ _ _ rfl ((own_below (own_below ((HO.out).alloc _) hb2) hb3).alloc _) ⟨w3.heap.size, 0, none⟩ 1 1 [.func (.func 124) #[] #[ptr p, ptr q, ptr r]] rfl rfl (cell_one_new _ _ _) (by simp [Value.oneCell']) (by simp [maxLen]) (by decide) (by have := hb2.size; have := hb3.size; simp at *; omega) ?_; intro v' w4 hown4 hg4 hnil4))
        have hx := (own_below (own_below ((HO.out).alloc (.cells #[.func (.func 109) #[] #[], .func (.func 110) #[] #[]] 119)) hb2) hb3).alloc (.cells #[.func (.func 124) #[] #[ptr p, ptr q, ptr r]] 101)
        have hs2 := hb2.size
        have hs3 := hb3.size
        simp at hs2 hs3
        go_roundw
        case rel =>
          refine ⟨2 + 1, vs ++ [.func (.func 124) #[] #[ptr p, ptr q, ptr r]], by omega, by first | rfl | go_num, hown4, vs_step HO.out.1 (fun j hj => ?_) ?_, ?_⟩
          · obtain ⟨v, h1, h2⟩ := HV.out j hj
            exact ⟨v, h1, ((((h2.alloc _).below hb2).below hb3).alloc _).grown hg4 (own_elem hx)⟩
          · exact (Lim.alloc ⟨p, q, r, rfl, hp, hq, hr3⟩ _).grown hg4 (own_elem hx)
          · exact (((((HB.out.alloc (by omega) _).trans (hb2.mono (by simp; omega))).trans (hb3.mono (by omega))).alloc (by omega) _).grown hg4 (by simp; omega) (fun g hg => (hx.lt g hg).1))
        case measure => simp [intOf]
    · obtain rfl : k = 3 := by omega
      gi_wp2_with (first
        | (gi_at_call 77; refine (limits_any _ _ _ _).mono ?_; rintro e w3 ⟨lv, rfl, ⟨p, q, r, rfl, hp, hq, hr3⟩, hb3⟩)
        | (gi_at_builtin; refine wpListIn_append_own _ rfl _ _ 151 rfl (W.heap.size + 2) 101 i0 .nilFunc 1 8 u151 HI.out HZ0.out HZ1.out HZ2.out rfl (by decide) _ _ _ rfl ((own_below (HO.out) hb3).alloc _) ⟨w3.heap.size, 0, none⟩ 1 1 [.func (.func 124) #[] #[ptr p, ptr q, ptr r]] rfl rfl (cell_one_new _ _ _) (by simp [Value.oneCell']) (by simp [maxLen]) (by decide) (by have := hb3.size; simp at *; omega) ?_; intro v' w4 hown4 hg4 hnil4)
        | fail)
      have hx := (own_below (HO.out) hb3).alloc (.cells #[.func (.func 124) #[] #[ptr p, ptr q, ptr r]] 101)
      have hs3 := hb3.size
      obtain ⟨g, cap, rfl, hg1, hg2⟩ := hown4.form (by omega)
      have hlims : ∀ j, j < 3 + 1 → ∃ v, (vs ++ [.func (.func 124) #[] #[ptr p, ptr q, ptr r]])[j]? = some v ∧ CheckIs v (ruleF rs rl rw many j) w4 :=
        vs_step HO.out.1 (fun j hj => by
          obtain ⟨v, h1, h2⟩ := HV.out j hj
          refine ⟨v, h1, ?_⟩
          rw [show ruleF rs rl rw many j = limZ (allowOf rs rl rw j) 0 9999 from if_neg (by omega)]
          exact (((h2.below hb3).alloc _).grown hg4 (own_elem hx)).exact)
          ((Lim.alloc ⟨p, q, r, rfl, hp, hq, hr3⟩ _).grown hg4 (own_elem hx)).exact
      have hB4 : Below W.heap.size W w4 :=
        (((((Below.refl W.heap.size W).alloc (Nat.le_refl _) _).alloc (by simp) _).trans (HB.out.mono (by omega))).trans (hb3.mono (by omega))).alloc (by omega) _ |>.grown hg4 (by simp; omega) (fun g hg => by have := (hx.lt g hg).1; omega)
      refine (firstFoul_any g (3 + 1) cap (ruleF rs rl rw many) w4 (by omega) (Lib.hid fun j hj => ?_)).mono ?_
      · obtain ⟨v, h1, h2⟩ := hlims j hj
        exact ⟨v, by rw [hown4.cellAt j (by omega)]; exact h1, h2⟩
      · rintro e w5 ⟨f, rfl, hf, hb5⟩
        subst hf
        gi_wp2
        go_ret
        exact ⟨rfl, hB4.trans (hb5.mono hB4.size)⟩
end Go.Proofs.YtpdmgecbapmgdaaGreat
end
