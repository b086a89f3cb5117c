/- A part of the proof that ArrowAnyOrder returns true for every input: no further condition. -/
import Derived.Test.YtpdmgecbapmgdaaGreatGp5
import Derived.Test.YtpdmgecbapmgdaaGreatGp3
set_option linter.unusedSimpArgs false
set_option linter.unusedVariables false
set_option maxHeartbeats 4000000
set_option maxRecDepth 100000
namespace Go.Proofs.YtpdmgecbapmgdaaGreat
section
open Go.RowKit
def geL (E C : List (List Nat)) : Prop := C.length < E.length ∨ (C.length = E.length ∧ cmpLL E C ≤ 0)
theorem cmpL_refl : ∀ x : List Nat, cmpL x x = 0
 | [] => rfl
 | a :: x => by simp [cmpL, cmpL_refl x]
theorem yia : ∀ x y : List Nat, cmpL x y = 0 → x = y
 | [], [], _ => rfl
 | [], _ :: _, h => by simp [cmpL] at h
 | _ :: _, [], h => by simp [cmpL] at h
 | a :: x, b :: y, h => by
  simp only [cmpL] at h; split at h
  ·omega
  ·split at h
   ·omega
   ·obtain rfl : a = b := by omega
    rw [yia x y h]
theorem yja : ∀ x y : List Nat, cmpL y x = - cmpL x y
 | [], [] => rfl
 | [], _ :: _ => rfl
 | _ :: _, [] => rfl
 | a :: x, b :: y => by
  simp only [cmpL]; by_cases h1 : a < b
  ·rw [if_neg (by omega : ¬ b < a), if_pos h1, if_pos h1]; rfl
  ·by_cases h2 : b < a
   ·rw [if_pos h2, if_neg h1, if_pos h2]
   ·rw [if_neg h2, if_neg h1, if_neg h1, if_neg h2, yja x y]
theorem yua : ∀ x y z : List Nat, cmpL x y ≤ 0 → cmpL y z ≤ 0 → cmpL x z ≤ 0
 | [], _, [], _, _ => by simp [cmpL]
 | [], _, _ :: _, _, _ => by simp [cmpL]
 | _ :: _, [], _, h, _ => by simp [cmpL] at h
 | _ :: _, _ :: _, [], _, h => by simp [cmpL] at h
 | a :: x, b :: y, c :: z, h1, h2 => by
  simp only [cmpL] at h1 h2 ⊢; by_cases e1 : a < b
  ·by_cases e2 : c < b
   ·rw [if_neg (by omega), if_pos e2] at h2; omega
   ·rw [if_pos (by omega)]; omega
  ·rw [if_neg e1] at h1; by_cases e3 : b < a
   ·rw [if_pos e3] at h1; omega
   ·rw [if_neg e3] at h1; obtain rfl : a = b := by omega
    by_cases e4 : a < c
    ·rw [if_pos e4]; omega
    ·rw [if_neg e4] at h2 ⊢; by_cases e5 : c < a
     ·rw [if_pos e5] at h2; omega
     ·rw [if_neg e5] at h2 ⊢; exact yua x y z h1 h2
theorem cmpL_less {x y z : List Nat} (h1 : cmpL x y < 0) (h2 : cmpL y z ≤ 0) : cmpL x z < 0 := by
 have h3 := yua x y z (by omega) h2; by_cases e : cmpL x z = 0
 ·rcases yia _ _ e with rfl; rw [yja x y] at h2; omega
 ·omega
theorem cmpLL_refl : ∀ x : List (List Nat), cmpLL x x = 0
 | [] => rfl
 | a :: x => by simp [cmpLL, cmpL_refl, cmpLL_refl x]
theorem yva : ∀ x y : List (List Nat), cmpLL y x = - cmpLL x y
 | [], [] => rfl
 | [], _ :: _ => rfl
 | _ :: _, [] => rfl
 | a :: x, b :: y => by
  simp only [cmpLL]; rw [yja a b]; by_cases h1 : cmpL a b = 0
  ·rw [if_neg (by omega), if_neg (by omega), yva x y]
  ·rw [if_pos (by omega), if_pos (by omega)]
theorem yka : ∀ x y z : List (List Nat), cmpLL x y ≤ 0 → cmpLL y z ≤ 0 → cmpLL x z ≤ 0
 | [], _, [], _, _ => by simp [cmpLL]
 | [], _, _ :: _, _, _ => by simp [cmpLL]
 | _ :: _, [], _, h, _ => by simp [cmpLL] at h
 | _ :: _, _ :: _, [], _, h => by simp [cmpLL] at h
 | a :: x, b :: y, c :: z, h1, h2 => by
  simp only [cmpLL] at h1 h2 ⊢; by_cases e1 : cmpL a b = 0
  ·rw [if_neg (by omega)] at h1; rcases yia _ _ e1 with rfl; by_cases e2 : cmpL a c = 0
   ·rw [if_neg (by omega)] at h2 ⊢; exact yka x y z h1 h2
   ·rw [if_pos e2] at h2 ⊢; exact h2
  ·rw [if_pos e1] at h1; have h3 : cmpL b c ≤ 0 := by
    by_cases e2 : cmpL b c = 0
    ·omega
    ·rw [if_pos e2] at h2; exact h2
   have := cmpL_less (by omega : cmpL a b < 0) h3; rw [if_pos (by omega)]; omega
theorem yz (E : List (List Nat)) : geL E E := .inr ⟨rfl, by rw [cmpLL_refl]; omega⟩
theorem yy {E C D : List (List Nat)} (h1 : geL E C) (h2 : geL C D) : geL E D := by
 rcases h1 with h1 | ⟨h1, h1'⟩
 ·rcases h2 with h2 | ⟨h2, h2'⟩
  ·exact .inl (by omega)
  ·exact .inl (by omega)
 ·rcases h2 with h2 | ⟨h2, h2'⟩
  ·exact .inl (by omega)
  ·exact .inr ⟨by omega, yka _ _ _ h1' h2'⟩
theorem geL_not {S B : List (List Nat)} (h : ztb S B = false) : geL B S := by
 unfold ztb at h; split at h
 ·next e => have := of_decide_eq_false h; refine .inr ⟨e, ?_⟩; rw [yva S B]; omega
 ·have := of_decide_eq_false h; exact .inl (by omega)
theorem geL_yes {S B : List (List Nat)} (h : ztb S B = true) : geL S B := by
 unfold ztb at h; split at h
 ·next e => have := of_decide_eq_true h; exact .inr ⟨e.symm, by omega⟩
 ·have := of_decide_eq_true h; exact .inl (by omega)
theorem ysb (S B : List (List Nat)) : geL (if ztb S B then S else B) S ∧ geL (if ztb S B then S else B) B := by
 cases h : ztb S B with
 | true => exact ⟨yz _, geL_yes h⟩
 | false => exact ⟨geL_not h, yz _⟩
def Split (R : List (List Nat)) : Prop := R.Pairwise fun x y => x.headD 0 < y.headD 0 ∧ ∀ a, a ∈ x → a ∉ y
def FreeR (M : List (List Nat)) (T : Nat → Bool) (R : List (List Nat)) : Prop := ∀ x, x ∈ R → x ∈ M ∧ ∀ a, a ∈ x → T a = false
structure yQa (n : Nat) (M : List (List Nat)) (O : Nat → List (List Nat)) : Prop where
 asc : ∀ x, x ∈ M → x.Pairwise (· < ·)
 some : ∀ x, x ∈ M → x ≠ []
 less : ∀ x, x ∈ M → ∀ a, a ∈ x → a < n
 of : ∀ s x, x ∈ O s ↔ x ∈ M ∧ s ∈ x
theorem updT_true {T : Nat → Bool} {s a : Nat} : updT T s a = true ↔ a = s ∨ T a = true := by
 unfold updT; by_cases h : a = s
 ·simp [h]
 ·simp [h]
theorem withT_true : ∀ (x : List Nat) (T : Nat → Bool) (a : Nat), withT T x a = true ↔ T a = true ∨ a ∈ x
 | [], T, a => by simp [withT]
 | s :: r, T, a => by
  simp only [withT]; rw [withT_true r, updT_true, List.mem_cons]; constructor
  ·rintro ((h | h) | h)
   ·exact .inr (.inl h)
   ·exact .inl h
   ·exact .inr (.inr h)
  ·rintro (h | h | h)
   ·exact .inl (.inr h)
   ·exact .inl (.inl h)
   ·exact .inr h
theorem yL : ∀ (x : List Nat) (T : Nat → Bool), x.Pairwise (· < ·) → (freeT T x = true ↔ ∀ a, a ∈ x → T a = false)
 | [], T, _ => by simp [freeT]
 | s :: r, T, hp => by
  simp only [freeT]; have hp' := List.pairwise_cons.1 hp; cases h : T s with
  | true =>
   simp only [if_true]; constructor
   ·intro e; cases e
   ·intro e; rw [e s (by simp)] at h; cases h
  | false =>
   simp only [Bool.false_eq_true, if_false]; rw [yL r _ hp'.2]; constructor
   ·intro e a ha; rcases List.mem_cons.1 ha with rfl | ha
    ·exact h
    ·have := e a ha; cases h2 : T a with
     | false => rfl
     | true => rw [updT_true.2 (.inr h2)] at this; cases this
   ·intro e a ha; cases h2 : updT T s a with
    | false => rfl
    | true =>
     rcases updT_true.1 h2 with rfl | h3
     ·have := hp'.1 a ha; omega
     ·rw [e a (by simp [ha])] at h3; cases h3
theorem yta {x : List Nat} (hp : x.Pairwise (· < ·)) {a : Nat} (ha : a ∈ x) : x.headD 0 ≤ a ∧ x.headD 0 ∈ x := by
 cases x with
 | nil => cases ha
 | cons b x =>
  simp only [List.headD_cons]; refine ⟨?_, by simp⟩; rcases List.mem_cons.1 ha with rfl | h
  ·omega
  ·have := (List.pairwise_cons.1 hp).1 a h; omega
section
variable {n : Nat} {M : List (List Nat)} {O : Nat → List (List Nat)} {T : Nat → Bool}
theorem FreeR.none (h : yQa n M O) (hT : ∀ a, a < n → T a = true) {R : List (List Nat)} (hR : FreeR M T R) : R = [] := by
 cases R with
 | nil => rfl
 | cons x R =>
  obtain ⟨h1, h2⟩ := hR x (by simp); cases x with
  | nil => exact absurd rfl (h.some _ h1)
  | cons a x => have h3 := h2 a (by simp); rw [hT a (h.less _ h1 a (by simp))] at h3; cases h3
theorem fold_best {d : Nat} (S : List (List Nat)) {X : List (List Nat)} (hX : ∀ x, x ∈ X → freeT T x = true → ∀ B, geL (tryE n O d (withT T x) (S ++ [x]) B) B ∧ ∀ R, FreeR M (withT T x) R → Split R → geL (tryE n O d (withT T x) (S ++ [x]) B) ((S ++ [x]) ++ R)) :
  ∀ B, geL (X.foldl (fun B x => if freeT T x then tryE n O d (withT T x) (S ++ [x]) B else B) B) B ∧ ∀ x, x ∈ X → freeT T x = true → ∀ R, FreeR M (withT T x) R → Split R → geL (X.foldl (fun B x => if freeT T x then tryE n O d (withT T x) (S ++ [x]) B else B) B) ((S ++ [x]) ++ R) := by
 induction X with
 | nil => intro B; exact ⟨yz _, fun x hx => by cases hx⟩
 | cons y X ih =>
  intro B; simp only [List.foldl_cons]; obtain ⟨i1, i2⟩ := ih (fun x hx => hX x (by simp [hx])) (if freeT T y then tryE n O d (withT T y) (S ++ [y]) B else B); have hy : geL (if freeT T y then tryE n O d (withT T y) (S ++ [y]) B else B) B := by
   split
   ·next e => exact (hX y (by simp) e B).1
   ·exact yz _
  refine ⟨yy i1 hy, fun x hx hf R hR hS => ?_⟩; rcases List.mem_cons.1 hx with rfl | hx
  ·refine yy i1 ?_; rw [if_pos hf]; exact (hX x (by simp) hf B).2 R hR hS
  ·exact i2 x hx hf R hR hS
theorem yX (h : yQa n M O) : ∀ (d : Nat), d ≤ n → ∀ (T : Nat → Bool) (S B : List (List Nat)), (∀ a, a < n - d → T a = true) →
  geL (tryE n O d T S B) B ∧ ∀ R, FreeR M T R → Split R → geL (tryE n O d T S B) (S ++ R)
 | 0, _, T, S, B, hT => by simp only [tryE]; refine ⟨(ysb S B).2, fun R hR _ => ?_⟩; rw [hR.none h (fun a ha => hT a (by omega)), List.append_nil]; exact (ysb S B).1
 | d + 1, hd, T, S, B, hT => by
  simp only [tryE]; obtain ⟨s, hs⟩ : ∃ s, n - (d + 1) = s := ⟨_, rfl⟩; rw [hs] at hT ⊢; have hX : ∀ x, x ∈ O s → freeT T x = true → ∀ B, geL (tryE n O d (withT T x) (S ++ [x]) B) B ∧ ∀ R, FreeR M (withT T x) R → Split R → geL (tryE n O d (withT T x) (S ++ [x]) B) ((S ++ [x]) ++ R) := fun x hx _ B =>
   yX h d (by omega) (withT T x) (S ++ [x]) B fun a ha => by
    rw [withT_true]; by_cases e : a = s
    ·subst e; exact .inr ((h.of a x).1 hx).2
    ·exact .inl (hT a (by omega))
  obtain ⟨f1, f2⟩ := fold_best S hX B; have hu : ∀ a, a < n - d → updT T s a = true := fun a ha => by
   rw [updT_true]; by_cases e : a = s
   ·exact .inl e
   ·exact .inr (hT a (by omega))
  obtain ⟨g1, g2⟩ := yX h d (by omega) (updT T s) S (if T s then B else (O s).foldl (fun B x => if freeT T x then tryE n O d (withT T x) (S ++ [x]) B else B) B) hu; have hB : geL (if T s then B else (O s).foldl (fun B x => if freeT T x then tryE n O d (withT T x) (S ++ [x]) B else B) B) B := by
   split
   ·exact yz _
   ·exact f1
  refine ⟨yy g1 hB, fun R hR hS => ?_⟩; by_cases hin : ∃ x, x ∈ R ∧ s ∈ x
  ·cases R with
   | nil => obtain ⟨x, hx, _⟩ := hin; cases hx
   | cons y R =>
    have hS' := List.pairwise_cons.1 hS; obtain ⟨y1, y2⟩ := hR y (by simp); have hyh : s ≤ y.headD 0 := by
     cases y with
     | nil => exact absurd rfl (h.some _ y1)
     | cons b y =>
      simp only [List.headD_cons]; by_cases e : b < s
      ·have := y2 b (by simp); rw [hT b e] at this; cases this
      ·omega
    have hsy : s ∈ y := by
     obtain ⟨x, hx, hsx⟩ := hin; rcases List.mem_cons.1 hx with rfl | hx
     ·exact hsx
     ·have h1 := (hS'.1 x hx).1; have h2 := (yta (h.asc x (hR x (by simp [hx])).1) hsx).1; omega
    have hfr : freeT T y = true := (yL y T (h.asc y y1)).2 y2; have hTs : T s = false := y2 s hsy; refine yy g1 ?_; rw [hTs, if_neg (by decide)]; have := f2 y ((h.of s y).2 ⟨y1, hsy⟩) hfr R (fun x hx => ⟨(hR x (by simp [hx])).1, fun a ha => by
     cases hw : withT T y a with
     | false => rfl
     | true =>
      rcases (withT_true y T a).1 hw with h1 | h1
      ·rw [(hR x (by simp [hx])).2 a ha] at h1; cases h1
      ·exact absurd ha ((hS'.1 x hx).2 a h1)⟩) hS'.2
    simpa using this
  ·refine g2 R (fun x hx => ⟨(hR x hx).1, fun a ha => ?_⟩) hS; cases hw : updT T s a with
   | false => rfl
   | true =>
    rcases updT_true.1 hw with rfl | h1
    ·exact absurd ⟨x, hx, ha⟩ hin
    ·rw [(hR x hx).2 a ha] at h1; cases h1
theorem yMa {p : List (List Nat) → Prop} {f : List (List Nat) → List Nat → List (List Nat)} : ∀ (X B : List (List Nat)), (∀ B x, x ∈ X → p B → p (f B x)) → p B → p (X.foldl f B)
 | [], _, _, h => h
 | x :: X, B, hf, h => yMa X (f B x) (fun B y hy => hf B y (by simp [hy])) (hf B x (by simp) h)
theorem yW (h : yQa n M O) (T0 : Nat → Bool) : ∀ (d : Nat), d ≤ n → ∀ (T : Nat → Bool) (S B : List (List Nat)), (∀ a, a < n - d → T a = true) → (∀ a, T0 a = true → T a = true) → (∀ x, x ∈ S → x.headD 0 < n - d ∧ ∀ a, a ∈ x → T a = true) →
  FreeR M T0 S ∧ Split S → FreeR M T0 B ∧ Split B → FreeR M T0 (tryE n O d T S B) ∧ Split (tryE n O d T S B)
 | 0, _, T, S, B, _, _, _, hS, hB => by
  simp only [tryE]; split
  ·exact hS
  ·exact hB
 | d + 1, hd, T, S, B, hT, h0, hST, hS, hB => by
  simp only [tryE]; obtain ⟨s, hs⟩ : ∃ s, n - (d + 1) = s := ⟨_, rfl⟩; rw [hs] at hT hST ⊢; refine yW h T0 d (by omega) (updT T s) S _ (fun a ha => ?_) (fun a ha => updT_true.2 (.inr (h0 a ha))) (fun x hx => ⟨by have := (hST x hx).1; omega, fun a ha => updT_true.2 (.inr ((hST x hx).2 a ha))⟩) hS ?_
  ·rw [updT_true]; by_cases e : a = s
   ·exact .inl e
   ·exact .inr (hT a (by omega))
  ·split
   ·exact hB
   ·refine yMa (p := fun B => FreeR M T0 B ∧ Split B) (O s) B (fun B x hx hB => ?_) hB; split
    ·next hf =>
     obtain ⟨x1, x2⟩ := (h.of s x).1 hx; have hfr := (yL x T (h.asc x x1)).1 hf; have hxs : x.headD 0 = s := by
      have := yta (h.asc x x1) x2; by_cases e : x.headD 0 < s
      ·have h3 := hfr _ this.2; rw [hT _ e] at h3; cases h3
      ·omega
     refine yW h T0 d (by omega) (withT T x) (S ++ [x]) B (fun a ha => ?_) (fun a ha => (withT_true x T a).2 (.inl (h0 a ha))) (fun y hy => ?_) ⟨fun y hy => ?_, ?_⟩ hB
     ·rw [withT_true]; by_cases e : a = s
      ·subst e; exact .inr x2
      ·exact .inl (hT a (by omega))
     ·rcases List.mem_append.1 hy with hy | hy
      ·exact ⟨by have := (hST y hy).1; omega, fun a ha => (withT_true x T a).2 (.inl ((hST y hy).2 a ha))⟩
      ·rcases List.mem_singleton.1 hy with rfl; exact ⟨by omega, fun a ha => (withT_true y T a).2 (.inr ha)⟩
     ·rcases List.mem_append.1 hy with hy | hy
      ·exact hS.1 y hy
      ·rcases List.mem_singleton.1 hy with rfl; refine ⟨x1, fun a ha => ?_⟩; cases e : T0 a with
       | false => rfl
       | true => have := hfr a ha; rw [h0 a e] at this; cases this
     ·unfold Split; rw [List.pairwise_append]; refine ⟨hS.2, List.pairwise_singleton _ _, fun y hy z hz => ?_⟩; rcases List.mem_singleton.1 hz with rfl; refine ⟨by rw [hxs]; exact (hST y hy).1, fun a ha hz => ?_⟩; have := (hST y hy).2 a ha; rw [hfr a hz] at this; cases this
    ·exact hB
end
theorem ywb {M : List (List Nat)} {s k : Nat} : (s, k) ∈ evs M M.length 0 ↔ k < M.length ∧ s ∈ M.getD k [] := by
 unfold evs; simp only [List.take_zero, List.map_nil, List.append_nil, List.mem_flatMap, List.mem_range, List.mem_map, Prod.mk.injEq]; constructor
 ·rintro ⟨j, hj, t, ht, rfl, rfl⟩; exact ⟨hj, ht⟩
 ·rintro ⟨hk, hs⟩; exact ⟨k, hk, s, hs, rfl, rfl⟩
theorem ofE_iff {M : List (List Nat)} {s : Nat} {x : List Nat} : x ∈ ofE M (evs M M.length 0) s ↔ x ∈ M ∧ s ∈ x := by
 unfold ofE; simp only [List.mem_map, List.mem_filter, beq_iff_eq]; constructor
 ·rintro ⟨⟨t, k⟩, ⟨h1, h2⟩, rfl⟩; obtain ⟨h3, h4⟩ := ywb.1 h1; have h2 : t = s := h2; subst h2; refine ⟨?_, h4⟩; rw [List.getD_eq_getElem?_getD, List.getElem?_eq_getElem h3]; exact List.getElem_mem h3
 ·rintro ⟨h1, h2⟩; obtain ⟨k, hk, rfl⟩ := List.getElem_of_mem h1; have e : M.getD k [] = M[k] := by rw [List.getD_eq_getElem?_getD, List.getElem?_eq_getElem hk]; rfl
  exact ⟨(s, k), ⟨ywb.2 ⟨hk, by rw [e]; exact h2⟩, rfl⟩, e⟩
theorem split_of {n : Nat} {M : List (List Nat)} {O : Nat → List (List Nat)} {T : Nat → Bool} (h : yQa n M O) {R : List (List Nat)} (hR : FreeR M T R) (hp : R.Pairwise fun x y => ∀ a, a ∈ x → a ∉ y) : ∃ R', R'.length = R.length ∧ FreeR M T R' ∧ Split R' := by
 have hperm := List.mergeSort_perm R (fun x y => decide (x.headD 0 ≤ y.headD 0)); have hso := List.pairwise_mergeSort (le := fun x y : List Nat => decide (x.headD 0 ≤ y.headD 0)) (fun a b c h1 h2 => by simp only [decide_eq_true_eq] at *; omega) (fun a b => by simp only [Bool.or_eq_true, decide_eq_true_eq]; omega) R; refine ⟨R.mergeSort (fun x y => decide (x.headD 0 ≤ y.headD 0)), hperm.length_eq, fun x hx => hR x (hperm.mem_iff.1 hx), ?_⟩; have hp' : (R.mergeSort (fun x y => decide (x.headD 0 ≤ y.headD 0))).Pairwise fun x y => ∀ a, a ∈ x → a ∉ y := (hperm.pairwise_iff (fun {x y} (h : ∀ a, a ∈ x → a ∉ y) a ha hb => h a hb ha)).2 hp
 refine (hso.and hp').imp_of_mem fun {x y} hx hy hxy => ⟨?_, hxy.2⟩
 have h1 : x.headD 0 ≤ y.headD 0 := of_decide_eq_true hxy.1; have mem : ∀ z, z ∈ M → z.headD 0 ∈ z := fun z hz => by
  cases z with
  | nil => exact absurd rfl (h.some _ hz)
  | cons a z => simp
 by_cases e : x.headD 0 = y.headD 0
 ·have := hxy.2 _ (mem x (hR x (hperm.mem_iff.1 hx)).1); rw [e] at this; exact absurd (mem y (hR y (hperm.mem_iff.1 hy)).1) this
 ·omega
end
section
open Go.RowKit
section
variable {rs rl rw rs' rl' rw' : Int} {sh sh' : Nat → Shaft} {n n' m : Nat} {T T' : Nat → Bool}
theorem yza (rs rl rw : Int) (sh : Nat → Shaft) (n : Nat) (hm : 0 < m) : yQa n (setsX rs rl rw sh n m) fun s => ofE (setsX rs rl rw sh n m) (evs (setsX rs rl rw sh n m) (setsX rs rl rw sh n m).length 0) s where
 asc := fun x hx => (setsX_iff.1 hx).1
 some := fun x hx e => by have := (setsX_iff.1 hx).2.2.1; rw [e] at this; simp at this; omega
 less := fun x hx => (setsX_iff.1 hx).2.1
 of := fun s x => ofE_iff
theorem shareX_good (hm : 0 < m) (T : Nat → Bool) : FreeR (setsX rs rl rw sh n m) T (zgc rs rl rw sh n m T) ∧ Split (zgc rs rl rw sh n m T) :=
 yW (yza rs rl rw sh n hm) T n (Nat.le_refl _) T [] [] (fun a ha => by omega) (fun a h => h) (fun x hx => by cases hx) ⟨fun x hx => (by cases hx), List.Pairwise.nil⟩ ⟨fun x hx => (by cases hx), List.Pairwise.nil⟩
theorem shareX_best (hm : 0 < m) {R : List (List Nat)} (hR : FreeR (setsX rs rl rw sh n m) T R) (hS : Split R) : geL (zgc rs rl rw sh n m T) R := by have := (yX (yza rs rl rw sh n hm) n (Nat.le_refl _) T [] [] (fun a ha => by omega)).2 R hR hS; rw [List.nil_append] at this; exact this
theorem geL_len {E C : List (List Nat)} (h : geL E C) : C.length ≤ E.length := by
 rcases h with h | h
 ·omega
 ·exact Nat.le_of_eq h.1
theorem shareX_max (hm : 0 < m) {R : List (List Nat)} (hR : FreeR (setsX rs rl rw sh n m) T R) (hp : R.Pairwise fun x y => ∀ a, a ∈ x → a ∉ y) : R.length ≤ (zgc rs rl rw sh n m T).length := by obtain ⟨R', h1, h2, h3⟩ := split_of (yza rs rl rw sh n hm) hR hp; rw [← h1]; exact geL_len (shareX_best hm h2 h3)
theorem nearOf_symm (x y : Shaft) (w : Nat) (h : yT rs rl rw x y w = 1) : yT rs rl rw y x w = 1 := by unfold yT at h ⊢; rw [nearZ_one] at h ⊢; exact ⟨h.2, h.1⟩
theorem pairZ_symm (x y : Shaft) (h : pairZ rs rl rw x y = 1) : pairZ rs rl rw y x = 1 := by rw [pairZ_one] at h ⊢; exact fun w hw => nearOf_symm _ _ _ (h w hw)
theorem matchZ_pairs {x : List Nat} : zoc rs rl rw sh (fun k => x.getD k 0) x.length = 1 ↔ x.Pairwise fun a b => pairZ rs rl rw (sh a) (sh b) = 1 := by
 unfold zoc; rw [listZ_one, List.pairwise_iff_getElem]; have e : ∀ (i : Nat) (hi : i < x.length), x.getD i 0 = x[i] := fun i hi => by rw [List.getD_eq_getElem?_getD, List.getElem?_eq_getElem hi]; rfl
 constructor
 ·intro h j i hj hi hji; have := h j i hji hi; rwa [e j hj, e i hi] at this
 ·intro h j i hji hi; have hj : j < x.length := by omega
  rw [e j hj, e i hi]; exact h j i hj hi hji
theorem yg {x : List Nat} : x ∈ setsX rs rl rw sh n m ↔ x.Pairwise (· < ·) ∧ (∀ k, k ∈ x → k < n) ∧ x.length = m ∧ x.Pairwise fun a b => pairZ rs rl rw (sh a) (sh b) = 1 := by rw [setsX_iff, matchZ_pairs]
def sortN (x : List Nat) : List Nat := x.mergeSort fun a b => decide (a ≤ b)
theorem yl (x : List Nat) : (sortN x).Perm x := List.mergeSort_perm _ _
theorem sortN_le (x : List Nat) : (sortN x).Pairwise (· ≤ ·) := by have := List.pairwise_mergeSort (le := fun a b : Nat => decide (a ≤ b)) (fun a b c h1 h2 => by simp only [decide_eq_true_eq] at *; omega) (fun a b => by simp only [Bool.or_eq_true, decide_eq_true_eq]; omega) x; exact this.imp fun {a b} h => of_decide_eq_true h
theorem sortN_lt {x : List Nat} (h : x.Pairwise (· ≠ ·)) : (sortN x).Pairwise (· < ·) := by have h1 : (sortN x).Pairwise (· ≠ ·) := ((yl x).pairwise_iff (fun {a b} (h : a ≠ b) => h.symm)).2 h; exact ((sortN_le x).and h1).imp fun {a b} h => by have := h.1; have := h.2; omega
theorem yJa (hm : 0 < m) {φ : Nat → Nat} (hφ : ∀ a, a < n → T a = false → φ a < n' ∧ T' (φ a) = false) (inj : ∀ a b, a < n → b < n → T a = false → T b = false → φ a = φ b → a = b)
  (hp : ∀ a b, a < n → b < n → a ≠ b → T a = false → T b = false → pairZ rs rl rw (sh a) (sh b) = 1 → pairZ rs' rl' rw' (sh' (φ a)) (sh' (φ b)) = 1) : (zgc rs rl rw sh n m T).length ≤ (zgc rs' rl' rw' sh' n' m T').length := by
 obtain ⟨h1, h2⟩ := shareX_good (rs := rs) (rl := rl) (rw := rw) (sh := sh) (n := n) hm T; generalize zgc rs rl rw sh n m T = R at h1 h2; have e : R.length = (R.map fun x => sortN (x.map φ)).length := by simp
 rw [e]; have hmem : ∀ (x : List Nat) b, b ∈ sortN (x.map φ) ↔ ∃ a, a ∈ x ∧ φ a = b := fun x b => by rw [(yl _).mem_iff, List.mem_map]
 refine shareX_max hm (fun y hy => ?_) ?_
 ·obtain ⟨x, hx, rfl⟩ := List.mem_map.1 hy; obtain ⟨x1, x2⟩ := h1 x hx; obtain ⟨p1, p2, p3, p4⟩ := yg.1 x1; refine ⟨yg.2 ⟨sortN_lt ?_, fun k hk => ?_, by rw [(yl _).length_eq, List.length_map, p3], ?_⟩, fun b hb => ?_⟩
  ·rw [List.pairwise_map]; exact p1.imp_of_mem fun {a b} ha hb hab e => by have := inj a b (p2 a ha) (p2 b hb) (x2 a ha) (x2 b hb) e; omega
  ·obtain ⟨a, ha, rfl⟩ := (hmem x k).1 hk; exact (hφ a (p2 a ha) (x2 a ha)).1
  ·refine ((yl _).pairwise_iff (fun {a b} h => pairZ_symm _ _ h)).2 ?_; rw [List.pairwise_map]; exact (p1.and p4).imp_of_mem fun {a b} ha hb hab => hp a b (p2 a ha) (p2 b hb) (by have := hab.1; omega) (x2 a ha) (x2 b hb) hab.2
  ·obtain ⟨a, ha, rfl⟩ := (hmem x b).1 hb; exact (hφ a (p2 a ha) (x2 a ha)).2
 ·rw [List.pairwise_map]; refine h2.imp_of_mem fun {x y} hx hy hxy b hb hb' => ?_
  obtain ⟨a, ha, rfl⟩ := (hmem x b).1 hb; obtain ⟨a', ha', e'⟩ := (hmem y _).1 hb'; obtain ⟨x1, x2⟩ := h1 x hx; obtain ⟨y1, y2⟩ := h1 y hy; have := inj a' a ((yg.1 y1).2.1 a' ha') ((yg.1 x1).2.1 a ha) (y2 a' ha') (x2 a ha) e'; subst this; exact hxy.2 _ ha ha'
end
end
section
open Go.RowKit
def rotS (sh : Nat → Shaft) (n d : Nat) (k : Nat) : Shaft := sh ((k + d) % n)
section
variable {rs rl rw many : Int} {sh : Nat → Shaft} {n d : Nat}
theorem ypa {k : Nat} (h : k < n) : (k + d) % n < n := Nat.mod_lt _ (by omega)
theorem ySa {j k : Nat} (hj : j < n) (hk : k < n) (h : (j + d) % n = (k + d) % n) : j = k := by
 have e1 := Nat.div_add_mod (j + d) n; have e2 := Nat.div_add_mod (k + d) n; rw [h] at e1; have e3 : n * ((j + d) / n) + k = n * ((k + d) / n) + j := by omega
 have : (j + d) / n = (k + d) / n := by
  have h1 : ∀ a b x y : Nat, x < n → y < n → n * a + y = n * b + x → a = b := fun a b x y hx hy h => by
   rcases Nat.lt_trichotomy a b with h2 | h2 | h2
   ·have := Nat.mul_le_mul_left n (show a + 1 ≤ b by omega); rw [Nat.mul_add, Nat.mul_one] at this; omega
   ·exact h2
   ·have := Nat.mul_le_mul_left n (show b + 1 ≤ a by omega); rw [Nat.mul_add, Nat.mul_one] at this; omega
  exact h1 _ _ _ _ hj hk e3
 rw [this] at e3; omega
theorem yD {a : Nat} (h : a < n) : (a + (n - d % n)) % n < n ∧ ((a + (n - d % n)) % n + d) % n = a := by
 refine ⟨Nat.mod_lt _ (by omega), ?_⟩; have h1 := Nat.mod_lt d (show 0 < n by omega); have h2 := Nat.div_add_mod d n; rw [Nat.mod_add_mod]; have e : a + (n - d % n) + d = a + n * (d / n + 1) := by rw [Nat.mul_add, Nat.mul_one]; omega
 rw [e, Nat.add_mul_mod_self_left, Nat.mod_eq_of_lt h]
theorem zxa.rot (h : zxa rs rl rw many n sh) : zxa rs rl rw many n (rotS sh n d) where
 rule := h.rule
 count := h.count
 each := fun k hk => h.each _ (ypa hk)
 once := fun j k hjk hk => by
  have h1 := ypa (d := d) (show j < n by omega); have h2 := ypa (d := d) hk; have hne : (j + d) % n ≠ (k + d) % n := fun e => by have := ySa (by omega) hk e; omega
  unfold rotS; rcases Nat.lt_or_gt_of_ne hne with hlt | hlt
  ·exact h.once _ _ hlt h2
  ·rw [Bool.eq_false_iff]; intro e; have h3 := h.once _ _ hlt h1; rw [beq_iff_eq] at e; rw [e] at h3; simp at h3
theorem nearOf_comm (x y : Shaft) (w : Nat) : yT rs rl rw x y w = yT rs rl rw y x w := by unfold yT nearZ; rw [Int.max_comm (spanB x w - spanA y w), Int.max_comm (spanA x w - spanB y w)]
theorem pairZ_comm (x y : Shaft) : pairZ rs rl rw x y = pairZ rs rl rw y x := by unfold pairZ; simp only [upTo, nearOf_comm x y]
theorem yk {x : List Nat} : zoc rs rl rw sh (fun k => x.getD k 0) x.length ≠ 2 ↔ x.Pairwise fun a b => pairZ rs rl rw (sh a) (sh b) ≠ 2 := by
 unfold zoc; rw [Ne, listZ_two, List.pairwise_iff_getElem]; have e : ∀ (i : Nat) (hi : i < x.length), x.getD i 0 = x[i] := fun i hi => by rw [List.getD_eq_getElem?_getD, List.getElem?_eq_getElem hi]; rfl
 constructor
 ·intro h j i hj hi hji h2; exact h ⟨j, i, hji, hi, by rw [e j hj, e i hi]; exact h2⟩
 ·rintro h ⟨j, i, hji, hi, h2⟩; have hj : j < x.length := by omega
  rw [e j hj, e i hi] at h2; exact h j i hj hi hji h2
theorem match_perm {sh' : Nat → Shaft} {φ : Nat → Nat} {xs ks : List Nat} (hp : (ks.map φ).Perm xs) (hs : ∀ k, k ∈ ks → sh' k = sh (φ k)) : zoc rs rl rw sh' (fun k => ks.getD k 0) ks.length = zoc rs rl rw sh (fun k => xs.getD k 0) xs.length := by
 have key : ∀ Q : Int → Prop, (xs.Pairwise fun a b => Q (pairZ rs rl rw (sh a) (sh b))) ↔ ks.Pairwise fun a b => Q (pairZ rs rl rw (sh' a) (sh' b)) := fun Q => by
  rw [← hp.pairwise_iff (fun {a b} h => by rw [pairZ_comm]; exact h), List.pairwise_map]; constructor
  ·intro h; exact h.imp_of_mem fun {a b} ha hb h => by rw [hs a ha, hs b hb]; exact h
  ·intro h; exact h.imp_of_mem fun {a b} ha hb h => by rw [← hs a ha, ← hs b hb]; exact h
 have h1 := key fun z => z = 1
 have h2 := key fun z => z ≠ 2
 rw [← matchZ_pairs, ← matchZ_pairs] at h1; rw [← yk, ← yk] at h2; have r1 := yU rs rl rw sh (fun k => xs.getD k 0) xs.length; have r2 := yU rs rl rw sh' (fun k => ks.getD k 0) ks.length; generalize zoc rs rl rw sh (fun k => xs.getD k 0) xs.length = u at *; generalize zoc rs rl rw sh' (fun k => ks.getD k 0) ks.length = v at *; omega
def rotL (xs : List Nat) (n d i : Nat) : List Nat := (List.range i).filter fun k => decide ((k + d) % n ∈ xs)
theorem rotL_next (xs : List Nat) (n d i : Nat) : rotL xs n d (i + 1) = if (i + d) % n ∈ xs then rotL xs n d i ++ [i] else rotL xs n d i := by
 unfold rotL; rw [List.range_succ, List.filter_append]; by_cases h : (i + d) % n ∈ xs
 ·simp [h]
 ·simp [h]
theorem yfb (xs : List Nat) (n d i : Nat) : (rotL xs n d i).length ≤ i := Nat.le_trans (List.length_filter_le _ _) (by simp)
theorem ygb (xs : List Nat) (n d i : Nat) : (rotL xs n d i).Pairwise (· < ·) := List.pairwise_lt_range.filter _
theorem yTa {xs : List Nat} {n d i k : Nat} (h : k ∈ rotL xs n d i) : k < i := List.mem_range.1 (List.mem_filter.1 h).1
theorem rotL_perm {xs : List Nat} (hasc : xs.Pairwise (· < ·)) (hlt : ∀ k, k ∈ xs → k < n) : ((rotL xs n d n).map fun k => (k + d) % n).Perm xs := by
 have n1 : ((rotL xs n d n).map fun k => (k + d) % n).Nodup := by unfold List.Nodup; rw [List.pairwise_map]; exact (ygb xs n d n).imp_of_mem fun {a b} ha hb hab e => by have := ySa (yTa ha) (yTa hb) e; omega
 have n2 : xs.Nodup := hasc.imp fun {a b} h => by omega
 refine (List.perm_ext_iff_of_nodup n1 n2).2 fun a => ?_
 rw [List.mem_map]; constructor
 ·rintro ⟨k, hk, rfl⟩; exact of_decide_eq_true (List.mem_filter.1 hk).2
 ·intro ha; obtain ⟨h1, h2⟩ := yD (d := d) (hlt a ha); exact ⟨_, List.mem_filter.2 ⟨List.mem_range.2 h1, decide_eq_true (by rw [h2]; exact ha)⟩, h2⟩
theorem rot_match {xs : List Nat} (hasc : xs.Pairwise (· < ·)) (hlt : ∀ k, k ∈ xs → k < n) : zoc rs rl rw (rotS sh n d) (fun k => (rotL xs n d n).getD k 0) (rotL xs n d n).length = zoc rs rl rw sh (fun k => xs.getD k 0) xs.length :=
 match_perm (rotL_perm hasc hlt) fun k hk => rfl
theorem rot_share {m : Nat} (hm : 0 < m) : (zgc rs rl rw (rotS sh n d) n m fun _ => false).length = (zgc rs rl rw sh n m fun _ => false).length := by
 refine Nat.le_antisymm ?_ ?_
 ·exact yJa (φ := fun k => (k + d) % n) hm (fun a ha _ => ⟨ypa ha, rfl⟩) (fun a b ha hb _ _ e => ySa ha hb e) fun a b ha hb hab _ _ h => h
 ·refine yJa (φ := fun a => (a + (n - d % n)) % n) hm (fun a ha _ => ⟨(yD ha).1, rfl⟩) (fun a b ha hb _ _ e => ?_) fun a b ha hb hab _ _ h => ?_
  ·rw [← (yD (d := d) ha).2, ← (yD (d := d) hb).2, e]
  ·unfold rotS; rw [(yD ha).2, (yD hb).2]; exact h
end
end
section
open Go.RowKit
theorem yib (rs rl rw : Int) (m : Nat) (A : Option Addr) (n c : Nat) (sh : Nat → Shaft) (W : World) (hc : n ≤ c) (hsh : Hid (zA W A n sh)) (hst : zxa rs rl rw m n sh) :
  CallsIn Fc 0 Tryz.prog 45 #[zga rs rl rw m A n c] W (yzb ((zgc rs rl rw sh n m fun _ => false).length : Nat) W) := by
 have hB1 : ∀ X, Below W.heap.size W (W.alloc X) := fun X => (Below.refl _ _).alloc (Nat.le_refl _) _
 have HB1 := Lib.hid hB1; have hfill := fun w (hb : Below W.heap.size W w) => Fill_fair rs rl rw m A n c sh w hc (Lib.hid (hsh.out.below hb)) hst
 have HFILL := Lib.hid hfill; clear hfill hst hB1; gi_enter Tryz.func45, Tryz.ntmps45
 gi_wp2_with (gi_at_call 25; refine (HFILL.out _ (HB1.out _)).mono ?_; rintro e w2 ⟨v, u, rfl, hl, hu, hb2⟩; obtain ⟨LA, lc, rfl, hlc, _⟩ := hl.read; have HB2 := Lib.hid ((HB1.out _).trans (hb2.mono (HB1.out _).size)); clear hb2 hl hu)
 go_ret; exact ⟨rfl, HB2.out⟩
end
section
open Go.RowKit Go.Cx Go.Conc
def yma (P : Program) (o : Op) : Prop := ∃ (f : FuncId) (args : Array Operand) (ats : Array TypeId) (fn : Func), o = .call { callee := .value (.func f), args, argTypes := ats } ∧ P.funcs[f]? = some fn ∧ (fn.name == "runtime.NumGoroutine") = false ∧ fn.body.isNone = false
section
variable {F : Fence} {n : Nat} {P : Program} {Post : Act → World → Prop} {a : Act} {w : World} {b : Frame} {k : List Item} {cs : List Frame}
theorem comes_call {ops : Array Oper} {i : Nat} {l : List Nat} {o : Oper} {S : FuncId} {args : Array Value} {w1 : World} {next : Act → World → Prop} (ho : ops[i]? = some o) (hw : Region.wanted o (yielded ops a.tmps) = true) (hro : b.roundOf = F.round) (hb : F.fn b.fn) (hr : F.room (cs.length + 1 + n))
  (hrun : (o.semAt F.round a.eval).run P w = .ok (.enter S args) w1) (h : o.wpIn F n P a w next (zJb Post)) :
  ∃ v w2, next (a.put o.dst v) w2 ∧ Comes F P b cs a (.inRegion ops (i :: l) :: k) w (a.put o.dst v) (.inRegion ops l :: k) w2 := by
 obtain ⟨hab, h⟩ := h; rw [hrun] at h; simp only [Oper.uponIn] at h; obtain ⟨hn, hF, h⟩ := h; have h0 : (lone (b.atR a (.inRegion ops (i :: l) :: k)) cs w).fenced P F := fenced_oper hb hr ho hab; have hg := stepGR_op (P := P) (b := b) (k := k) (cs := cs) (w := w) (rest := l) ho hw; rw [hro] at hg; have hroom : F.room ((b.atR a (.inRegion ops (i :: l) :: k) :: cs).length + 1 + (n - 1)) := Fence.room_enter hr hn; obtain ⟨e, w2, fr, hR, hsteps, hfn, hleave⟩ := h (b.atR a (.inRegion ops (i :: l) :: k) :: cs) hroom; have henter : step P (lone (b.atR a (.inRegion ops (i :: l) :: k)) cs w) = .next (lone (Frame.enter P S args .normal) (b.atR a (.inRegion ops (i :: l) :: k) :: cs) w1) :=
  step_lone_go (by rw [hg]; simp [stepG.apply, hrun, Frame.atR])
 cases e with
 | returned v =>
  refine ⟨v, w2, hR, .head h0 henter (StepsIn.trans hsteps (.one (fenced_leaving (hfn ▸ hF) hroom hleave) ?_))⟩; have hfin : (b.atR a (.inRegion ops (i :: l) :: k)).finish v = b.atR (a.put o.dst v) (.inRegion ops l :: k) := by rw [Frame.finish_atR, ho]; rfl
  rw [← hfin]; exact step_leave_returned hleave
 | panicked chain => exact hR.elim
 | outgrown => obtain ⟨_, _, hq⟩ := hR; exact hq.elim
theorem comes_list {ops : Array Oper} (l : List Oper) : ∀ (i : Nat) (rest : List Nat) (a : Act) (w : World), (∀ j, j < l.length → ops[i + j]? = l[j]?) → (∀ o ∈ l, reckons o.op = true ∨ yma P o.op) →
  wpListIn F n P ops (zJb Post) l a w → b.roundOf = F.round → F.fn b.fn → F.room (cs.length + 1 + n) →
  ∃ a' w', Post a' w' ∧ Comes F P b cs a (.inRegion ops (List.range' i l.length ++ rest) :: k) w a' (.inRegion ops rest :: k) w' := by
 induction l with
 | nil => exact fun i rest a w _ _ h _ _ _ => ⟨a, w, h, .refl _⟩
 | cons o l ih =>
  intro i rest a w hops hall h hro hb hr; have ho : ops[i]? = some o := by simpa using hops 0 (by simp)
  have hops' : ∀ j, j < l.length → ops[i + 1 + j]? = l[j]? := fun j hj => by have := hops (j + 1) (by simp; omega); simpa [Nat.add_assoc, Nat.add_comm 1 j] using this
  have hall' : ∀ o ∈ l, reckons o.op = true ∨ yma P o.op := fun o ho => hall o (List.mem_cons_of_mem _ ho)
  rw [List.length_cons, List.range'_succ, List.cons_append]; simp only [wpListIn] at h; by_cases hw : Region.wanted o (yielded ops a.tmps) = true
  ·rw [if_pos hw] at h; rcases hall o (List.mem_cons_self ..) with hrk | ⟨f, args, ats, fn, hop, hf, hname, hbody⟩
   ·have h1 : wpListIn F n P ops (zJb fun a w => wpListIn F n P ops (zJb Post) l a w) [o] a w := by
     simp only [wpListIn]; rw [if_pos hw]; refine ⟨h.1, ?_⟩; have h2 := h.2
     revert h2
     have hsem : o.semAt F.round a.eval = execOp a.eval o := Oper.semAt_eq _ _ _ fun c hc => by rw [hc] at hrk; exact absurd hrk (by simp [reckons])
     rw [hsem]; rcases yY hrk P w a.eval with ⟨v, w1, hrun⟩ | ⟨x, w1, hrun⟩
     ·rw [hrun]; exact fun h => h
     ·rw [hrun]; cases x <;> exact fun h => h
    obtain ⟨a1, w1, h2, h3⟩ := comes_pre (b := b) (cs := cs) (k := k) (ops := ops) [o] i (List.range' (i + 1) l.length ++ rest) a w (fun j hj => by simp at hj; subst hj; simpa using ho) (by simpa using hrk) h1 hro hb hr; obtain ⟨a', w', hp, hs⟩ := ih (i + 1) rest a1 w1 hops' hall' h2 hro hb hr; exact ⟨a', w', hp, StepsIn.trans (by simpa using h3) hs⟩
   ·have hsem : o.semAt F.round a.eval = execOp a.eval o := Oper.semAt_eq _ _ _ fun c hc => by rw [hop] at hc; cases hc
    obtain ⟨v, w2, h2, h3⟩ := comes_call (l := List.range' (i + 1) l.length ++ rest) ho hw hro hb hr (by rw [hsem]; exact run_call_body hop hf hname hbody) h; obtain ⟨a', w', hp, hs⟩ := ih (i + 1) rest _ w2 hops' hall' h2 hro hb hr; exact ⟨a', w', hp, StepsIn.trans h3 hs⟩
  ·rw [if_neg hw] at h; obtain ⟨a', w', hp, hs⟩ := ih (i + 1) rest _ _ hops' hall' h.2 hro hb hr; have hk := stepR_op_skip (P := P) (b := b) (a := a) (k := k) (cs := cs) (w := w) (ops := ops) (i := i) (rest := List.range' (i + 1) l.length ++ rest) (by simp [ho]; simpa using hw); simp only [ho, Option.bind_some] at hk; exact ⟨a', w', hp, .head (fenced_oper hb hr ho h.1) hk hs⟩
end
end
section
open Go.RowKit Go.Cx Go.Conc
section
variable {F : Fence} {n : Nat} {P : Program} {ops : Array Oper} {b : Frame} {k : List Item} {cs : List Frame} {S : Act → List Item → World → Prop} {a : Act} {w : World}
theorem comes_one {K : Act → World → Prop} {i : Nat} {l : List Nat} {o : Oper} (ho : ops[i]? = some o) (hr1 : reckons o.op = true ∨ yma P o.op) (h : wpOpIn F n P ops (zJb K) i K a w) (hro : b.roundOf = F.round) (hb : F.fn b.fn) (hr : F.room (cs.length + 1 + n)) :
  ∃ a' w', K a' w' ∧ Comes F P b cs a (.inRegion ops (i :: l) :: k) w a' (.inRegion ops l :: k) w' := by
 have h1 : wpListIn F n P ops (zJb K) [o] a w := by unfold wpOpIn at h; rw [ho] at h; exact h
 have := comes_list (b := b) (cs := cs) (k := k) (P := P) (F := F) (n := n) [o] i l a w (fun j hj => by simp at hj; subst hj; simpa using ho) (by simpa using hr1) h1 hro hb hr; simpa using this
theorem yhb {listed : Array Bool} {i : Nat} (h : i ∈ Region.ready .any ops listed) : i < ops.size ∧ listed.getD i false = false ∧ ∀ j, depB ops i j = true → listed.getD j false = true :=
 ⟨by obtain ⟨_, o, h3, _⟩ := mem_ready.1 h; exact (Array.getElem?_eq_some_iff.1 h3).1, yAa h, fun j hj => dep h hj⟩
def lastB (ops : Array Oper) (t : Nat) : Bool := ops.size == t + 3 && depB ops (t + 1) t && depB ops (t + 2) (t + 1) && (List.range t).all fun j => yPa ops j t
theorem yE {listed : Array Bool} {e t : Nat} (hs : ops.size = t + 3) (hb : backB .any ops = true) (hl : listed.size = ops.size) (he : t ≤ e) (hlt : e < t + 3) (hlo : ∀ i, i < e → listed.getD i false = true) (hhi : ∀ i, e ≤ i → i < t + 3 → listed.getD i false = false) (hd1 : depB ops (t + 1) t = true) (hd2 : depB ops (t + 2) (t + 1) = true) : Region.ready .any ops listed = [e] := by
 have hne : Region.ready .any ops listed ≠ [] := fun h => by have h1 := yZ hb h e (by omega); have h2 := hhi e (Nat.le_refl _) hlt; rw [Array.getD_eq_getD_getElem?, Array.getElem?_eq_getElem (by omega)] at h1 h2; simp at h1 h2; rw [h1] at h2; cases h2
 have hall : ∀ i, i ∈ Region.ready .any ops listed → i = e := fun i hi => by
  obtain ⟨h1, h2, h3⟩ := yhb hi; by_cases c1 : i < e
  ·rw [hlo i c1] at h2; cases h2
  ·by_cases c2 : i = e
   ·exact c2
   ·exfalso; by_cases c3 : i = t + 1
    ·subst c3; have := h3 t hd1; rw [hhi t (by omega) (by omega)] at this; cases this
    ·obtain rfl : i = t + 2 := by omega
     have := h3 (t + 1) hd2; rw [hhi (t + 1) (by omega) (by omega)] at this; cases this
 have hnd : (Region.ready .any ops listed).Nodup := List.Nodup.sublist (List.filter_sublist ..) List.nodup_range; cases hr : Region.ready .any ops listed with
 | nil => exact absurd hr hne
 | cons x l =>
  rw [hr] at hall hnd; rcases hall x (by simp) with rfl; cases l with
  | nil => rfl
  | cons y l => have := hall y (by simp); subst this; simp at hnd
theorem yDa {fuel t : Nat} {listed : Array Bool} {i : Nat} (h : (Region.ready .any ops listed)[t % (Region.ready .any ops listed).length]? = some i) : Region.linearise.go .any ops (fuel + 1) t listed [] = i :: Region.linearise.go .any ops fuel (t / (Region.ready .any ops listed).length) (listed.setIfInBounds i true) [] := by
 simp only [Region.linearise.go]; change (match (Region.ready .any ops listed)[t % (Region.ready .any ops listed).length]? with
  | some i => Region.linearise.go .any ops fuel (t / (Region.ready .any ops listed).length) (listed.setIfInBounds i true) [i]
  | none => [].reverse) = _
 rw [h]; simp only; rw [linearise_go_acc, List.reverse_singleton, List.singleton_append]
theorem go_last {fuel t tt : Nat} {listed : Array Bool} (hs : ops.size = t + 3) (hb : backB .any ops = true) (hl : listed.size = ops.size) (hlo : ∀ i, i < t → listed.getD i false = true) (hhi : ∀ i, t ≤ i → i < t + 3 → listed.getD i false = false) (hd1 : depB ops (t + 1) t = true) (hd2 : depB ops (t + 2) (t + 1) = true) :
  Region.linearise.go .any ops 3 tt listed [] = [t, t + 1, t + 2] := by
 have gs : ∀ (l : Array Bool) (e i : Nat), e < l.size → (l.setIfInBounds e true).getD i false = if i = e then true else l.getD i false := fun l e i he => by
  rw [Array.getD_eq_getD_getElem?, Array.getD_eq_getD_getElem?, Array.getElem?_setIfInBounds]; by_cases h : e = i
  ·subst h; simp [he]
  ·rw [if_neg h, if_neg (fun h' => h h'.symm)]
 have r0 := yE (e := t) hs hb hl (by omega) (by omega) hlo hhi hd1 hd2; have l1 : (listed.setIfInBounds t true).size = ops.size := by simpa using hl
 have r1 := yE (e := t + 1) hs hb l1 (by omega) (by omega) (fun i hi => by rw [gs _ _ _ (by omega)]; split; rfl; exact hlo i (by omega)) (fun i h1 h2 => by rw [gs _ _ _ (by omega), if_neg (by omega)]; exact hhi i (by omega) h2) hd1 hd2; have l2 : ((listed.setIfInBounds t true).setIfInBounds (t + 1) true).size = ops.size := by simpa using hl
 have r2 := yE (e := t + 2) hs hb l2 (by omega) (by omega) (fun i hi => by
   rw [gs _ _ _ (by omega)]; split
   ·rfl
   ·rw [gs _ _ _ (by omega)]; split
    ·rfl
    ·exact hlo i (by omega)) (fun i h1 h2 => by rw [gs _ _ _ (by omega), if_neg (by omega), gs _ _ _ (by omega), if_neg (by omega)]; exact hhi i (by omega) h2) hd1 hd2
 rw [yDa (i := t) (by rw [r0]; simp [Nat.mod_one]), yDa (i := t + 1) (by rw [r1]; simp [Nat.mod_one]), yDa (i := t + 2) (by rw [r2]; simp [Nat.mod_one])]; rfl
theorem reach_go {J : Array Bool → Act → World → Prop} {t : Nat} (hb : backB .any ops = true) (hlast : lastB ops t = true) (hall : ∀ o ∈ ops.toList.take t, reckons o.op = true ∨ yma P o.op) (hro : b.roundOf = F.round) (hbn : F.fn b.fn) (hr : F.room (cs.length + 1 + n))
  (hJ : ∀ Q listed a w i, J listed a w → i ∈ Region.ready .any ops listed → i < t → wpOpIn F n P ops Q i (J (listed.setIfInBounds i true)) a w)
  (hC : ∀ listed a w, J listed a w → ∀ i, listed.getD i false = true → ∀ j, depB ops i j = true → listed.getD j false = true)
  (hE : ∀ listed a w, J listed a w → (∀ i, i < t → listed.getD i false = true) → Reach F P b cs S a (.inRegion ops [t, t + 1, t + 2] :: k) w) :
  ∀ (fuel tt : Nat) (listed : Array Bool) (a : Act) (w : World), listed.size = ops.size → ((List.range t).filter fun i => !listed.getD i false).length + 3 = fuel → (∀ i, t ≤ i → i < t + 3 → listed.getD i false = false) → J listed a w →
   Reach F P b cs S a (.inRegion ops (Region.linearise.go .any ops fuel tt listed []) :: k) w := by
 unfold lastB at hlast; simp only [Bool.and_eq_true, beq_iff_eq] at hlast; obtain ⟨⟨⟨hs, hd1⟩, hd2⟩, hah⟩ := hlast; intro fuel
 induction fuel with
 | zero => intro tt listed a w hl hn; omega
 | succ fuel ih =>
  intro tt listed a w hl hn hhi hj; by_cases hdone : ∀ i, i < t → listed.getD i false = true
  ·have h0 : (List.range t).filter (fun i => !listed.getD i false) = [] := List.filter_eq_nil_iff.2 fun i hi => by simp [hdone i (List.mem_range.1 hi)]
   rw [h0, List.length_nil] at hn; obtain rfl : fuel = 2 := by omega
   rw [go_last (fuel := 0) hs hb hl hdone hhi hd1 hd2]; exact hE _ _ _ hj hdone
  ·cases hi : (Region.ready .any ops listed)[tt % (Region.ready .any ops listed).length]? with
   | none =>
    exfalso; have hnil : Region.ready .any ops listed = [] := by
     cases hr' : Region.ready .any ops listed with
     | nil => rfl
     | cons x xs => rw [hr'] at hi; have hlt : tt % (x :: xs).length < (x :: xs).length := Nat.mod_lt _ (by simp); simp at hi; simp at hlt; omega
    have h1 := yZ hb hnil t (by omega); have h2 := hhi t (Nat.le_refl _) (by omega); rw [Array.getD_eq_getD_getElem?, Array.getElem?_eq_getElem (by omega)] at h1 h2; simp at h1 h2; rw [h1] at h2; cases h2
   | some i =>
    have him := List.mem_of_getElem? hi; obtain ⟨q1, q2, q3⟩ := yhb him; have hit : i < t := by
     rcases Nat.lt_or_ge i t with h | h
     ·exact h
     ·exfalso; by_cases c1 : i = t + 1
      ·subst c1; have := q3 t hd1; rw [hhi t (by omega) (by omega)] at this; cases this
      ·by_cases c2 : i = t + 2
       ·subst c2; have := q3 (t + 1) hd2; rw [hhi (t + 1) (by omega) (by omega)] at this; cases this
       ·obtain rfl : i = t := by omega
        refine hdone fun j hjt => ?_
        have hab := List.all_eq_true.1 hah j (List.mem_range.2 hjt); unfold yPa at hab; simp only [Bool.and_eq_true, decide_eq_true_eq, List.contains_iff_mem] at hab; rcases yp (k := i) (hC _ _ _ hj) q3 (i + 1) [i] (fun x hx => by rcases List.mem_singleton.1 hx with rfl; exact .inl rfl) j hab.2 with h2 | h2
        ·exact absurd h2.symm hab.1
        ·exact h2
    rw [yDa hi]; have ho : ops[i]? = some ops[i] := by simp [q1]
    obtain ⟨a', w', h1, h2⟩ := comes_one (b := b) (cs := cs) (k := k) (l := Region.linearise.go .any ops fuel (tt / (Region.ready .any ops listed).length) (listed.setIfInBounds i true) []) ho (hall _ (by rw [List.mem_take_iff_getElem]; exact ⟨i, by simp; omega, by simp⟩)) (hJ _ listed a w i hj him hit) hro hbn hr; have key : ∀ (l : List Nat), l.Nodup → i ∈ l → (l.filter fun j => !(listed.setIfInBounds i true).getD j false).length + 1 = (l.filter fun j => !listed.getD j false).length := by
      intro l
      induction l with
      | nil => intro _ h; cases h
      | cons x l ihl =>
       intro hnd him'; have hnd' := List.nodup_cons.1 hnd; by_cases e : x = i
       ·subst e; have same : l.filter (fun j => !(listed.setIfInBounds x true).getD j false) = l.filter (fun j => !listed.getD j false) := List.filter_congr fun j hj => by
         have : x ≠ j := fun e => hnd'.1 (e ▸ hj)
         rw [Array.getD_eq_getD_getElem?, Array.getD_eq_getD_getElem?, Array.getElem?_setIfInBounds, if_neg this]
        have hxl : x < listed.size := by omega
        rw [List.filter_cons_of_neg (by rw [Array.getD_eq_getD_getElem?, Array.getElem?_setIfInBounds, if_pos rfl, if_pos hxl]; simp), List.filter_cons_of_pos (by rw [q2]; rfl), same]; rfl
       ·have hin : i ∈ l := by
         rcases List.mem_cons.1 him' with h | h
         ·exact absurd h.symm e
         ·exact h
        have same : (listed.setIfInBounds i true).getD x false = listed.getD x false := by rw [Array.getD_eq_getD_getElem?, Array.getD_eq_getD_getElem?, Array.getElem?_setIfInBounds, if_neg (fun h => e h.symm)]
        have := ihl hnd'.2 hin; by_cases c : listed.getD x false = true
        ·rw [List.filter_cons_of_neg (by rw [same, c]; simp), List.filter_cons_of_neg (by rw [c]; simp)]; exact this
        ·rw [List.filter_cons_of_pos (by rw [same]; simpa using c), List.filter_cons_of_pos (by simpa using c), List.length_cons, List.length_cons]; omega
    have hn1 : ((List.range t).filter fun j => !(listed.setIfInBounds i true).getD j false).length + 3 = fuel := by have := key (List.range t) List.nodup_range (List.mem_range.2 hit); omega
    have hh1 : ∀ j, t ≤ j → j < t + 3 → (listed.setIfInBounds i true).getD j false = false := fun j h1 h2 => by rw [Array.getD_eq_getD_getElem?, Array.getElem?_setIfInBounds, if_neg (by omega), ← Array.getD_eq_getD_getElem?]; exact hhi j h1 h2
    obtain ⟨a'', k', w'', h3, h4⟩ := ih (tt / (Region.ready .any ops listed).length) (listed.setIfInBounds i true) a' w' (by simpa using hl) hn1 hh1 h1; exact ⟨a'', k', w'', h3, h2.trans h4⟩
theorem drawn_at {id : Nat} (hm : P.follows .mixedOrders = true) (hb : F.fn b.fn) (hr : F.room (cs.length + 1 + n)) : ∃ tt, Comes F P b cs a (.code (.region id ops true) :: k) w a (.inRegion ops (Region.linearise.go .any ops ops.size tt (Array.replicate ops.size false) []) :: k) { w with drawn := w.drawn + 1 } :=
 ⟨_, .one (fenced_calm hb hr rfl) (by rw [stepR_region_draw]; simp only [Region.schedule, hm, Bool.true_or, if_true]; rfl)⟩
theorem reach_region_H (R : List RoleG) {I : (Nat → Bool) → (Nat → Value) → World → Prop} {z t : Nat} {id : Nat} (hm : P.follows .mixedOrders = true) (hb : backB .any ops = true) (hlast : lastB ops t = true) (hall : ∀ o ∈ ops.toList.take t, reckons o.op = true ∨ yma P o.op) (hro : b.roundOf = F.round) (hbn : F.fn b.fn) (hr : F.room (cs.length + 1 + n))
  (hlen : R.length = ops.size) (hst : (R.drop t).all (fun ρ => ρ.slot.isNone) = true) (hnd : yKa (R.map RoleG.slot) z z z = true) (hd : a.defers = []) (hz : a.tmps.size = z) (h0 : I (fun _ => false) (slotV R a) { w with drawn := w.drawn + 1 })
  (hJ : ∀ Q, StepH F n P ops Q R I z a t)
  (hE : ∀ L V w', (∀ i, i < t → nvG R i = true → L i = true) → I L V w' → Reach F P b cs S { tmps := (outsG V R 0).foldl (fun t x => t.setIfInBounds x.1 x.2) a.tmps, defers := [] } (.inRegion ops [t, t + 1, t + 2] :: k) w') : Reach F P b cs S a (.code (.region id ops true) :: k) w := by
 have hs : ops.size = t + 3 := by unfold lastB at hlast; simp only [Bool.and_eq_true, beq_iff_eq] at hlast; exact hlast.1.1.1
 obtain ⟨tt, htt⟩ := drawn_at (b := b) (cs := cs) (k := k) (a := a) (w := w) (ops := ops) (id := id) hm hbn hr; have hrep : ∀ i, (Array.replicate ops.size false).getD i false = false := fun i => by rw [Array.getD_eq_getD_getElem?]; rcases Nat.lt_or_ge i ops.size with h | h <;> simp [h]
 obtain ⟨a', k', w', h1, h2⟩ := reach_go (b := b) (cs := cs) (k := k) (S := S) (J := RH ops R I z a) hb hlast hall hro hbn hr (fun Q listed a' w' i hj hi hit => hj.step hlen hnd (hJ Q) hi hit) (fun listed a' w' hj => hj.closed)
  (fun listed a' w' hj hdone => by
   obtain ⟨L, V, g1, g2, rfl⟩ := hj.done (T := t) hz (fun q ρ h hq => by have := List.all_eq_true.1 hst ρ (List.mem_iff_getElem?.2 ⟨q - t, by rw [List.getElem?_drop]; rw [show t + (q - t) = q by omega]; exact h⟩); simpa using this) hdone; exact hE L V w' g1 g2) ops.size tt (Array.replicate ops.size false) a { w with drawn := w.drawn + 1 } (by simp) (by
    have e : (List.range t).filter (fun i => !(Array.replicate ops.size false).getD i false) = List.range t := List.filter_eq_self.2 fun i _ => by rw [hrep i]; rfl
    rw [e, List.length_range, hs]) (fun i _ _ => hrep i) (RH.start hd hz h0)
 exact ⟨a', k', w', h1, htt.trans h2⟩
end
end
section
open Go.RowKit Go.Cx Go.Conc
def BoxO (rs rl rw many : Int) (w : World) (p : Nat) (v : Value) : Prop := w.heap[p]? = some (.cells #[.int .i64 rs, .int .i64 rl, .int .i64 rw, .int .i64 many, v] 26 (0, 0))
section
variable {rs rl rw many : Int} {w : World} {p : Nat} {v : Value}
theorem BoxO.lt (h : BoxO rs rl rw many w p v) : p < w.heap.size := (Array.getElem?_eq_some_iff.1 h).1
theorem BoxO.below {w' : World} (h : BoxO rs rl rw many w p v) (hb : Below w.heap.size w w') : BoxO rs rl rw many w' p v := (hb.block p h.lt).trans h
theorem BoxO.alloc (h : BoxO rs rl rw many w p v) (o : Obj) : BoxO rs rl rw many (w.alloc o) p v := h.below ((Below.refl _ _).alloc (Nat.le_refl _) _)
theorem BoxO.grown {w' : World} {row : Option Nat} (h : BoxO rs rl rw many w p v) (hg : w.grownBy w' row) (hr : some p ≠ row) : BoxO rs rl rw many w' p v := (hg.block p h.lt hr).trans h
theorem BoxO.cells (h : BoxO rs rl rw many w p v) : w.cell? ⟨p, 0, none⟩ = some (.int .i64 rs) ∧ w.cell? ⟨p, 1, none⟩ = some (.int .i64 rl) ∧ w.cell? ⟨p, 2, none⟩ = some (.int .i64 rw) ∧ w.cell? ⟨p, 3, none⟩ = some (.int .i64 many) ∧ w.cell? ⟨p, 4, none⟩ = some v := by unfold BoxO at h; refine ⟨?_, ?_, ?_, ?_, ?_⟩ <;> simp [World.cell?, h]
theorem BoxO.frozen (h : BoxO rs rl rw many w p v) (j : Nat) : w.frozen? ⟨p, j, none⟩ = false := frozen_no h j
theorem BoxO.far (h : BoxO rs rl rw many w p v) {q : Nat} (hq : q ≠ p) (j : Nat) (x : Value) : BoxO rs rl rw many (w.setCell ⟨q, j, none⟩ x) p v := by unfold BoxO at h ⊢; simp [World.setCell, Array.getElem?_modify, hq, h]
theorem BoxO.set4 (h : BoxO rs rl rw many w p v) (x : Value) : BoxO rs rl rw many (w.setCell ⟨p, 4, none⟩ x) p x := by unfold BoxO at h ⊢; simp [World.setCell, Array.getElem?_modify, h]
theorem own_far {base size m q : Nat} {e : TypeId} {u : Value} {xs : List Value} (h : w.ownsRow base e size u m xs) (hq : q < base) (j : Nat) (x : Value) : (w.setCell ⟨q, j, none⟩ x).ownsRow base e size u m xs := zja h fun g hg => by have := (zfb h hg).1; simp [World.setCell, Array.getElem?_modify, show q ≠ g by omega]
theorem yu {base size m : Nat} {e : TypeId} {u : Value} {xs : List Value} (h : w.ownsRow base e size u m xs) (o : Obj) : (w.alloc o).ownsRow base e size u m xs := zu h ((Below.refl _ _).alloc (Nat.le_refl _) o)
theorem one_shaft {z : Nat} (x : Shaft) (hz : z ≤ w.heap.size) : (w.alloc (.cells (shaftCs x).toArray 65)).ownsRow z 65 7 (.slice (some ⟨w.heap.size, 0, none⟩) 1 1) 1 (shaftCs x) :=
 ⟨rfl, .inr ⟨w.heap.size, 1, _, rfl, hz, heap_alloc_new _ _, by omega, by simp [maxLen], rfl, by simp [shaftCs]⟩⟩
theorem yra {base n : Nat} {u : Value} {sh : Nat → Shaft} (h : w.ownsRow base 65 7 u n (shVs sh n)) : ∃ OA oc, u = .slice OA n oc ∧ n ≤ oc ∧ zA w OA n sh := by
 obtain ⟨_, ⟨rfl, rfl⟩ | ⟨g, cap, cur, rfl, hg0, hgb, hcap, hmx, hcs, htk⟩⟩ := h
 ·exact ⟨none, 0, rfl, Nat.le_refl _, fun k hk => absurd hk (by omega)⟩
 ·exact ⟨_, cap, rfl, hcap, shafts_row hgb (by simpa using htk)⟩
end
noncomputable def A12 : Code := match Tryz.f12.body with
 | some c => c
 | none => .skip
theorem fin12 : Fc.fn (lawFr 12).fn := by show (12 : FuncId) ∈ _; simp
theorem ya : Fc.room (([] : List Frame).length + 1 + 0) := fun d hd => by cases hd
abbrev SeekO (W : World) (a : Act) (k : List Item) (w : World) : Prop := zLb 14 6 110 a k ∧ Below W.heap.size W w
theorem order_walk (rs rl rw many : Int) (A : Option Addr) (n c : Nat) (sh : Nat → Shaft) (d : Nat) (bits : Int) (W : World) (hd : d ≤ 255) (hc : n ≤ c) (hsh : Hid (zA W A n sh)) :
    Reach Fc Tryz.prog (lawFr 12) [] (SeekO W) { tmps := #[zga rs rl rw many A n c, .int .u8 d, .int .u16 bits] ++ Array.replicate 107 undef, defers := [] } [.code A12] W := by
  have hB1 : ∀ x, Below W.heap.size W (W.alloc x) := fun x => (Below.refl _ _).alloc (Nat.le_refl _) _
  have HB1 := Lib.hid hB1; clear hB1; generalize hS : SeekO W = S; have HS := Lib.hid hS; clear hS; simp only [A12, Tryz.f12]; simp only [List.size_toArray, List.length_cons, List.length_nil, Nat.reduceAdd, Nat.reduceSub, Array.replicate_succ, Array.replicate_zero, List.push_toArray, List.append_toArray, List.nil_append, List.cons_append]; refine zK fin12 ya ?_; refine zO (n := 0) rfl fin12 ya fun R hR => ?_
  have HR := Lib.hid hR; clear hR; gi_wp2; change R _ _; refine HR.out _ _ ?_; clear HR; refine zK fin12 ya (zK fin12 ya ?_); refine zO (n := 0) rfl fin12 ya fun R hR => ?_
  have HR := Lib.hid hR; clear hR; by_cases hn0 : n = 0
  · subst hn0
    gi_wp2_with (first
      | (gi_at_call 33; refine (yCb _ _ _ _ _ _ _ sh _ hc (Lib.hid (hsh.out.below (HB1.out _)))).mono ?_; rintro e w2 ⟨fit, rfl, hfit, hb2⟩
         have e4 : w2.cell? ⟨W.heap.size, 4, none⟩ = some (.slice A (0 : Nat) c) := Below.old hb2 (by go_simp); have HB2 := Lib.hid ((HB1.out _).trans (hb2.mono (HB1.out _).size)); clear hb2; cases fit))
    all_goals
      change R _ _; refine HR.out _ _ ?_; clear HR; refine yF true rfl fin12 ya ?_; simp only [if_true]; refine zK fin12 ya (yS fin12 ya (Reach.here ?_)); rw [← HS.out]; exact ⟨.early _ _ _ 0 1 26 ⟨⟨_, rfl, rfl, rfl, rfl⟩, ⟨_, rfl, rfl, rfl, rfl⟩⟩ (by omega) rfl rfl, HB2.out⟩
  have hn0' : ¬ (n : Int) = 0 := by omega
  gi_wp2_with (first
    | (gi_at_call 33; refine (yCb _ _ _ _ _ _ _ sh _ hc (Lib.hid (hsh.out.below (HB1.out _)))).mono ?_; rintro e w2 ⟨fit, rfl, hfit, hb2⟩
       have e0 : w2.cell? ⟨W.heap.size, 0, none⟩ = some (.int .i64 rs) := Below.old hb2 (by go_simp); have e1 : w2.cell? ⟨W.heap.size, 1, none⟩ = some (.int .i64 rl) := Below.old hb2 (by go_simp); have e2 : w2.cell? ⟨W.heap.size, 2, none⟩ = some (.int .i64 rw) := Below.old hb2 (by go_simp); have e3 : w2.cell? ⟨W.heap.size, 3, none⟩ = some (.int .i64 many) := Below.old hb2 (by go_simp); have e4 : w2.cell? ⟨W.heap.size, 4, none⟩ = some (.slice A n c) := Below.old hb2 (by go_simp); have HB2 := Lib.hid ((HB1.out _).trans (hb2.mono (HB1.out _).size)); have hx0 : BoxO rs rl rw many w2 W.heap.size (.slice A n c) := (hb2.block _ (by simp)).trans (heap_alloc_new _ _); have hw0 : W.heap.size < w2.heap.size := by have := hb2.size; simp at this; omega
       clear hb2; cases fit))
  · change R _ _; refine HR.out _ _ ?_; clear HR; refine yF true rfl fin12 ya ?_; simp only [if_true]; refine zK fin12 ya (yS fin12 ya (Reach.here ?_)); rw [← HS.out]; exact ⟨.early _ _ _ 0 1 26 ⟨⟨_, rfl, rfl, rfl, rfl⟩, ⟨_, rfl, rfl, rfl, rfl⟩⟩ (by omega) rfl rfl, HB2.out⟩
  change R _ _; refine HR.out _ _ ?_; clear HR; rw [show ((n : Int) == 0) = false from beq_eq_false_iff_ne.2 hn0']; refine yF false rfl fin12 ya ?_; simp only [Bool.false_eq_true, if_false]; refine reach_skip (n := 0) fin12 ya rfl ?_; have hst := Lib.hid (hfit trivial); clear hfit; have hn := hst.out.count; have hmany : 2 ≤ many := hst.out.rule.m0; have hmany4 : many ≤ 4 := hst.out.rule.m1; obtain ⟨mm, rfl⟩ : ∃ mm : Nat, many = (mm : Int) := ⟨many.toNat, by omega⟩; refine zK fin12 ya ?_; refine zO (n := 0) rfl fin12 ya fun R hR => ?_
  have HR := Lib.hid hR; clear hR; gi_wp2; change R _ _; refine HR.out _ _ ?_; clear HR; refine zK fin12 ya ?_; refine zO (n := 0) rfl fin12 ya fun R hR => ?_
  have HR := Lib.hid hR; clear hR; gi_wp2; change R _ _; refine HR.out _ _ ?_; clear HR; refine zK fin12 ya ?_; refine zO (n := 0) rfl fin12 ya fun R hR => ?_
  have HR := Lib.hid hR; clear hR; gi_wp2; change R _ _; refine HR.out _ _ ?_; clear HR; refine zK fin12 ya (zK fin12 ya ?_); refine zO (n := 0) rfl fin12 ya fun R hR => ?_
  have HR := Lib.hid hR; clear hR; gi_wp2; change R _ _; refine HR.out _ _ ?_; clear HR; obtain ⟨BO, hBO⟩ : ∃ k, w2.heap.size = k := ⟨_, rfl⟩; rw [hBO]; obtain ⟨w3, hw3⟩ : ∃ w, w = w2.alloc (.cells #[.int .i64 rs, .int .i64 rl, .int .i64 rw, .int .i64 mm, .slice none 0 0] 26) := ⟨_, rfl⟩; rw [← hw3]; have hB3 : Below W.heap.size W w3 := by rw [hw3]; exact HB2.out.alloc HB2.out.size _
  have hbo : BoxO rs rl rw mm w3 BO (.slice none 0 0) := by rw [hw3, ← hBO]; exact heap_alloc_new _ _
  have hx3 : BoxO rs rl rw mm w3 W.heap.size (.slice A n c) := by rw [hw3]; exact hx0.alloc _
  rw [hBO] at hw0; have HB3 := Lib.hid hB3; have HBO := Lib.hid hbo; have HX3 := Lib.hid hx3; clear hw3 hB3 hbo hx3 hx0 HB2 e0 e1 e2 e3 e4 hBO; obtain ⟨i0, hi, hz0, hz1, hz2⟩ := info_parts it65; have HI0 := Lib.hid hi; have HZ0 := Lib.hid hz0; have HZ1 := Lib.hid hz1; have HZ2 := Lib.hid hz2; clear hi hz0 hz1 hz2; refine zO (n := 0) rfl fin12 ya fun R hR => ?_
  have HR := Lib.hid hR; clear hR; gi_wp2
  gi_loopw [9] (fun y wr => ∃ i : Nat, i ≤ n ∧ y = .int .i64 i ∧ Below W.heap.size W wr ∧ BoxO rs rl rw mm wr W.heap.size (.slice A n c) ∧ ∃ OV, BoxO rs rl rw mm wr BO OV ∧ wr.ownsRow (BO + 1) 65 7 OV i (shVs (rotS sh n d) i)) (fun y _ => n - (intOf y).toNat)
  case atStart => exact ⟨0, by omega, rfl, HB3.out, HX3.out, _, HBO.out, World.ownsRow_nil _ _ _ _⟩
  case round =>
    obtain ⟨i, hi, rfl, hbw, hxw, OV, hbo, hown⟩ := hrel; have HBW := Lib.hid hbw; have HXW := Lib.hid hxw; have HBO := Lib.hid hbo; have HOW := Lib.hid hown; clear hbw hxw hbo hown; by_cases hlt : i < n
    · obtain ⟨q, hq⟩ : ∃ q, (i + d) % n = q := ⟨_, rfl⟩; have hqn : q < n := by rw [← hq]; exact ypa hlt
      obtain ⟨b, o, rfl, hxa⟩ := hsh.out q hqn; have HQ := Lib.hid hq; have HXA := Lib.hid hxa; have HW0 := Lib.hid hw0; have htm : ((i : Int) + (d : Int)).tmod (n : Int) = (q : Int) := by rw [Int.tmod_eq_emod_of_nonneg (by omega), ← hq]; simp
      have hwd : IntKind.wrap .i64 (d : Int) = d := yxa (by omega) (by omega); have hwi : IntKind.wrap .i64 ((i : Int) + (d : Int)) = (i : Int) + d := yxa (by omega) (by omega); have hq0 : (0 : Int) ≤ (q : Int) := by omega
      have hqI : (q : Int) < (n : Int) := by omega
      clear hq hxa hw0; gi_wp2; refine zsa (R := [.val 37 (.pointer (some ⟨BO, 4, none⟩)), .val 38 (OV), .val 39 (.pointer (some ⟨W.heap.size, 4, none⟩)), .val 40 (.slice (some ⟨b, o, none⟩) n c), .val 41 (.int .i64 i), .val 42 (.int .u8 d), .val 43 (.int .i64 d), .val 44 (.int .i64 ((i : Int) + d)), .val 45 (.int .i64 n), .val 46 (.int .i64 q), .val 47 (.pointer (some ⟨b, o + q * 7, none⟩)), .val 48 (yFb (sh q)), .any 49, .any 50, .val 51 (.pointer (some ⟨BO, 4, none⟩)), .st])
        (I := fun L V w => Below W.heap.size W w ∧ BoxO rs rl rw mm w W.heap.size (.slice (some ⟨b, o, none⟩) n c) ∧ BoxO rs rl rw mm w BO (if L 15 = true then V 13 else OV) ∧ (L 13 = false → w.ownsRow (BO + 1) 65 7 OV i (shVs (rotS sh n d) i)) ∧ (L 12 = true → L 13 = false → w.ownsRow (BO + 1) 65 7 (V 12) 1 (shaftCs (sh q))) ∧ (L 13 = true → w.ownsRow (BO + 1) 65 7 (V 13) (i + 1) (shVs (rotS sh n d) (i + 1))) ∧ BO + 1 ≤ w.heap.size) (z := 110) (by kernel_rfl) (by kernel_rfl) rfl (by kernel_rfl) rfl rfl ⟨HBW.out.trans (Below.refl _ _).drew, HXW.out, HBO.out, fun _ => HOW.out, (fun h => by cases h), (fun h => by cases h), HBO.out.lt⟩ ?_ ?_
      · intro j L V a w hj hno hdep hah hd0 hz hold hv hV hI; have HI := Lib.hid hI; have s1 := zc hz (hold 1 (by kernel_rfl)) (by omega); have s3 := zc hz (hold 3 (by kernel_rfl)) (by omega); have s7 := zc hz (hold 7 (by kernel_rfl)) (by omega); have s8 := zc hz (hold 8 (by kernel_rfl)) (by omega); have s9 := zc hz (hold 9 (by kernel_rfl)) (by omega); clear hold; have hjs : j = 0 ∨ j = 1 ∨ j = 2 ∨ j = 3 ∨ j = 4 ∨ j = 5 ∨ j = 6 ∨ j = 7 ∨ j = 8 ∨ j = 9 ∨ j = 10 ∨ j = 11 ∨ j = 12 ∨ j = 13 ∨ j = 14 ∨ j = 15 := by have : j < 16 := hj; omega
        rcases hjs with rfl | rfl | rfl | rfl | rfl | rfl | rfl | rfl | rfl | rfl | rfl | rfl | rfl | rfl | rfl | rfl
        · clear hdep hah hv hV hno hI; refine wpOpIn_step rfl fun K hK => ?_
          go_simp; exact hK _ _ ⟨rfl, rfl, HI.out⟩
        · have f37 := zc hz (hv 0 37 _ (by kernel_rfl) rfl) (by omega); have h15 := hah 15 (by kernel_rfl) rfl; have hbx := HI.out.2.2.1; rw [if_neg (by rw [h15]; decide)] at hbx; have y4 := hbx.cells.2.2.2.2; clear hdep hah hv hV hno hI; refine wpOpIn_step rfl fun K hK => ?_
          go_simp; exact hK _ _ ⟨rfl, rfl, HI.out⟩
        · clear hdep hah hv hV hno hI; refine wpOpIn_step rfl fun K hK => ?_
          go_simp; exact hK _ _ ⟨rfl, rfl, HI.out⟩
        · have f39 := zc hz (hv 2 39 _ (by kernel_rfl) rfl) (by omega); have y4 := HI.out.2.1.cells.2.2.2.2; clear hdep hah hv hV hno hI; refine wpOpIn_step rfl fun K hK => ?_
          go_simp; exact hK _ _ ⟨rfl, rfl, HI.out⟩
        · clear hdep hah hv hV hno hI; refine wpOpIn_step rfl fun K hK => ?_
          go_simp; exact hK _ _ ⟨rfl, rfl, HI.out⟩
        · clear hdep hah hv hV hno hI; refine wpOpIn_step rfl fun K hK => ?_
          go_simp; exact hK _ _ ⟨rfl, rfl, HI.out⟩
        · have f42 := zc hz (hv 5 42 _ (by kernel_rfl) rfl) (by omega); clear hdep hah hv hV hno hI; refine wpOpIn_step rfl fun K hK => ?_
          go_simp; exact hK _ _ ⟨rfl, rfl, HI.out⟩
        · have f41 := zc hz (hv 4 41 _ (by kernel_rfl) rfl) (by omega); have f43 := zc hz (hv 6 43 _ (by kernel_rfl) rfl) (by omega); clear hdep hah hv hV hno hI; refine wpOpIn_step rfl fun K hK => ?_
          go_simp; exact hK _ _ ⟨rfl, rfl, HI.out⟩
        · clear hdep hah hv hV hno hI; refine wpOpIn_step rfl fun K hK => ?_
          go_simp; exact hK _ _ ⟨rfl, rfl, HI.out⟩
        · have f44 := zc hz (hv 7 44 _ (by kernel_rfl) rfl) (by omega); have f45 := zc hz (hv 8 45 _ (by kernel_rfl) rfl) (by omega); clear hdep hah hv hV hno hI; refine wpOpIn_step rfl fun K hK => ?_
          go_simp; exact hK _ _ ⟨rfl, rfl, HI.out⟩
        · have f40 := zc hz (hv 3 40 _ (by kernel_rfl) rfl) (by omega); have f46 := zc hz (hv 9 46 _ (by kernel_rfl) rfl) (by omega); clear hdep hah hv hV hno hI; refine wpOpIn_step rfl fun K hK => ?_
          go_simp; exact hK _ _ ⟨rfl, rfl, HI.out⟩
        · have f47 := zc hz (hv 10 47 _ (by kernel_rfl) rfl) (by omega); obtain ⟨x0, x1, x2, x3, x4, x5, x6⟩ := HXA.out.below HI.out.1; clear hdep hah hv hV hno hI; refine wpOpIn_step rfl fun K hK => ?_
          go_simp; exact hK _ _ ⟨rfl, rfl, HI.out⟩
        · have f48 := zc hz (hv 11 48 _ (by kernel_rfl) rfl) (by omega); clear hdep hah hv hV hno hI; refine wpOpIn_step rfl fun K hK => ?_
          go_simp; exact hK _ _ ⟨rfl, _, rfl, ⟨HI.out.1.alloc HI.out.1.size _, HI.out.2.1.alloc _, HI.out.2.2.1.alloc _, fun h => yu (HI.out.2.2.2.1 h) _, fun _ _ => one_shaft (sh q) HI.out.2.2.2.2.2.2, fun h => yu (HI.out.2.2.2.2.2.1 h) _, Nat.le_trans HI.out.2.2.2.2.2.2 (by simp)⟩⟩
        · have f38 := zc hz (hv 1 38 _ (by kernel_rfl) rfl) (by omega); have k12 := hdep 12 (by kernel_rfl) rfl; have f49 := zc hz (hV 12 49 rfl) (by omega); have h15 := hah 15 (by kernel_rfl) rfl; have hl13 : L 13 = false := hno rfl; have ho := HI.out.2.2.2.1 hl13; have ho12 := HI.out.2.2.2.2.1 k12 hl13; have hbx := HI.out.2.2.1; have h15 := hah 15 (by kernel_rfl) rfl; rw [if_neg (by rw [h15]; decide)] at hbx; refine yc rfl rfl _ _ 24 rfl (BO + 1) 65 i0 _ 7 64 ut24 HI0.out HZ0.out HZ1.out HZ2.out rfl (by decide) OV i (shVs (rotS sh n d) i) (hv 1 38 _ (by kernel_rfl) rfl) ho (V 12) (BO + 1) 1 (shaftCs (sh q)) (hV 12 49 rfl) (by decide) ho12 (fun u hu => ycb (fun _ => sh q) 1 u (by simpa [shVs] using hu)) (by simp [maxLen]; omega) (by omega) HI.out.2.2.2.2.2.2 ?_; intro v' w' ho' _ hg' _; have hlo := fun g (hg : OV.ownBlock = some g) => (zfb ho hg).1
          have hw0 := HW0.out; exact ⟨hd0, _, rfl, HI.out.1.grown hg' HI.out.1.size (fun g hg => Nat.le_trans (by omega) (hlo g hg)), HI.out.2.1.grown hg' (fun e => by have := hlo _ e.symm; omega), (by show BoxO rs rl rw mm w' BO (if L 15 = true then _ else OV); rw [if_neg (by rw [h15]; decide)]; exact hbx.grown hg' (fun e => by have := hlo _ e.symm; omega)), fun h => (by cases h), fun _ h => (by cases h), fun _ => (by show w'.ownsRow (BO + 1) 65 7 v' (i + 1) (shVs (rotS sh n d) i ++ shaftCs (sh ((i + d) % n))); rw [HQ.out]; exact ho'), Nat.le_trans HI.out.2.2.2.2.2.2 hg'.size⟩
        · clear hdep hah hv hV hno hI; refine wpOpIn_step rfl fun K hK => ?_
          go_simp; exact hK _ _ ⟨rfl, rfl, HI.out⟩
        · have k13 := hdep 13 (by kernel_rfl) rfl; have f50 := zc hz (hV 13 50 rfl) (by omega); have f51 := zc hz (hv 14 51 _ (by kernel_rfl) rfl) (by omega); have h13 := HI.out.2.2.2.2.2.1 k13; obtain ⟨OA6, cap6, e6, _⟩ := yra h13; rw [e6] at f50; have z4 := HI.out.2.2.1.frozen 4; have y4 := HI.out.2.2.1.cells.2.2.2.2; have hw0 := HW0.out; have hWB : W.heap.size ≤ BO := by omega
          have hne : BO ≠ W.heap.size := by omega
          clear hdep hah hv hV hno hI; refine wpOpIn_step rfl fun K hK => ?_
          go_simp; exact hK _ _ ⟨hd0, rfl, ⟨HI.out.1.setCell hWB _, HI.out.2.1.far hne _ _, (by show BoxO rs rl rw mm _ BO (V 13); rw [e6]; exact HI.out.2.2.1.set4 _), fun h => absurd k13 (by rw [show L 13 = false from h]; decide), fun _ h => absurd k13 (by rw [show L 13 = false from h]; decide), fun h => own_far (HI.out.2.2.2.2.2.1 h) (Nat.lt_succ_self BO) _ _, (by simp only [World.setCell, Array.size_modify]; exact HI.out.2.2.2.2.2.2)⟩⟩
      intro L V w6 hL hI; obtain ⟨g1, g2, g3, -, -, g6, -⟩ := hI
      replace g6 := g6 (hL 13 rfl)
      rw [if_pos (hL 15 rfl)] at g3; simp only [outsG, Nat.zero_add, Nat.reduceAdd, List.foldl_cons, List.foldl_nil, List.setIfInBounds_toArray, List.set_cons_succ, List.set_cons_zero]; generalize V 12 = v49; generalize V 13 = v50 at g3 g6 ⊢; clear hL V L; gi_wp2; refine ⟨⟨i + 1, by omega, by first | rfl | go_num, g1, g2, _, g3, g6⟩, by simp [intOf]; omega⟩
    · obtain rfl : n = i := by omega
      gi_wp2; change R _ _; refine HR.out _ _ ?_; clear HR; obtain ⟨OA, oc, rfl, hoc, hso⟩ := yra HOW.out; have hgo := HBO.out.lt; obtain ⟨e0, e1, e2, e3, e4⟩ := HXW.out.cells; obtain ⟨o0, o1, o2, o3, o4⟩ := HBO.out.cells; have HSO := Lib.hid hso; clear hso HOW hw0 hgo; refine zK fin12 ya ?_; refine zO (n := 0) rfl fin12 ya fun R hR => ?_
      have HR := Lib.hid hR; clear hR
      gi_wp2_with (first
        | (gi_at_call 34; refine (Listed_any _ _ _ _ _ _ _ _ _ hn hc).mono ?_; rintro e w4 ⟨xs, LA, lc, rfl, h1, h2, h3, h4, h5, hb4⟩
           have e0 := Below.old hb4 e0; have e1 := Below.old hb4 e1; have e2 := Below.old hb4 e2; have e3 := Below.old hb4 e3; have e4 := Below.old hb4 e4; have o0 := Below.old hb4 o0; have o1 := Below.old hb4 o1; have o2 := Below.old hb4 o2; have o3 := Below.old hb4 o3; have o4 := Below.old hb4 o4; have HB4 := Lib.hid (HBW.out.trans (hb4.mono HBW.out.size)); have HS4 := Lib.hid (HSO.out.below hb4); have H3 := Lib.hid h3; have H4 := Lib.hid h4; have H5 := Lib.hid h5; clear hb4 h3 h4 h5))
      change R _ _; refine HR.out _ _ ?_; clear HR; refine zK fin12 ya ?_; refine zO (n := 0) rfl fin12 ya fun R hR => ?_
      have HR := Lib.hid hR; clear hR; gi_wp2; change R _ _; refine HR.out _ _ ?_; clear HR; refine zK fin12 ya (zK fin12 ya ?_); refine zO (n := 0) rfl fin12 ya fun R hR => ?_
      have HR := Lib.hid hR; clear hR; gi_wp2; change R _ _; refine HR.out _ _ ?_; clear HR; obtain ⟨i1, hi, hz0, hz1, hz2⟩ := info_parts i3; have HJ0 := Lib.hid hi; have HY0 := Lib.hid hz0; have HY1 := Lib.hid hz1; have HY2 := Lib.hid hz2; clear hi hz0 hz1 hz2 HI0 HZ0 HZ1 HZ2; refine zO (n := 0) rfl fin12 ya fun R hR => ?_
      have HR := Lib.hid hR; clear hR; gi_wp2
      gi_loopw [11, 12] (fun kv y wr2 => ∃ i : Nat, i ≤ n ∧ y = .int .i64 i ∧ ListAt wr2 w4.heap.size kv (rotL xs n d i) ∧ Below w4.heap.size w4 wr2) (fun _ y _ => n - (intOf y).toNat)
      case atStart => exact ⟨0, by omega, rfl, ListAt.nil _ _, Below.refl _ _⟩
      case round =>
        obtain ⟨i, hi, rfl, hl2, hb2⟩ := hrel; have HL2 := Lib.hid hl2; have HB2 := Lib.hid hb2; clear hl2 hb2; by_cases hlt : i < n
        · obtain ⟨q, hq⟩ : ∃ q, (i + d) % n = q := ⟨_, rfl⟩; have hqn : q < n := by rw [← hq]; exact ypa hlt
          have HQ := Lib.hid hq; have htm : ((i : Int) + (d : Int)).tmod (n : Int) = (q : Int) := by rw [Int.tmod_eq_emod_of_nonneg (by omega), ← hq]; simp
          have hwd : IntKind.wrap .i64 (d : Int) = d := yxa (by omega) (by omega); have hwi : IntKind.wrap .i64 ((i : Int) + (d : Int)) = (i : Int) + d := yxa (by omega) (by omega); have hlen := yfb xs n d i; obtain ⟨x, hx⟩ : ∃ x, rotL xs n d i = x := ⟨_, rfl⟩; have hnext := rotL_next xs n d i; rw [hx] at HL2 hlen hnext; rw [hq] at hnext; have HNEXT := Lib.hid hnext; have HX := Lib.hid hx; clear hq hnext hx; have HO2 := Lib.hid (show World.ownsRow wr w4.heap.size 3 1 _ x.length (x.map intV) from HL2.out); have h4s := HB2.out.size
          gi_wp2_with (first
            | (gi_at_call 40; refine (HasNum_any LA xs.length lc (fun k => xs.getD k 0) q _ (by omega) h1 (Lib.hid (H5.out.below HB2.out))).mono ?_; rintro e w5 ⟨g, rfl, hg, rfl⟩; have HG := Lib.hid hg; clear hg; cases g)
            | (gi_at_builtin; refine wpListIn_append_own _ rfl _ _ 27 rfl w4.heap.size 3 i1 (.int .i64 0) 1 8 ut27 HJ0.out HY0.out HY1.out HY2.out rfl (by decide) _ _ _ rfl (yu HO2.out _) ⟨wr.heap.size, 0, none⟩ 1 1 [intV i] rfl rfl (cell_one_new _ _ _) (by simp [Value.oneCell']) (by simp [maxLen]; omega) (by omega) (by simp; omega) ?_; intro v' w6 hown6 hg6 hnil6))
          · have hmem : q ∉ xs := fun h => by obtain ⟨j, hj, e⟩ := List.getElem_of_mem h; have := HG.out.2 ⟨j, hj, by rw [List.getD_eq_getElem?_getD, List.getElem?_eq_getElem hj]; exact e⟩; cases this
            refine ⟨⟨i + 1, by omega, by first | rfl | go_num, ?_, HB2.out⟩, by simp [intOf]; omega⟩; rw [HNEXT.out, if_neg hmem]; exact HL2.out
          · have hmem : q ∈ xs := by obtain ⟨j, hj, e⟩ := HG.out.1 (by first | rfl | trivial); rw [List.getD_eq_getElem?_getD, List.getElem?_eq_getElem hj] at e; rw [← e]; exact List.getElem_mem hj
            have hx4 := yu HO2.out (.cells #[intV i] 3); refine ⟨⟨i + 1, by omega, by first | rfl | go_num, ?_, (HB2.out.alloc (by omega) _).grown hg6 (by simp; omega) (fun g hg => (zfb hx4 hg).1)⟩, by simp [intOf]; omega⟩; rw [HNEXT.out, if_pos hmem]; show World.ownsRow w6 _ 3 1 _ (x ++ [i]).length ((x ++ [i]).map intV); simpa using hown6
        · obtain rfl : n = i := by omega
          gi_wp2; change R _ _; refine HR.out _ _ ?_; clear HR; obtain ⟨ks, hks⟩ : ∃ ks, rotL xs n d n = ks := ⟨_, rfl⟩; have hks9 : ks.length ≤ n := by rw [← hks]; exact yfb xs n d n
          have hksl : ∀ k, k ∈ ks → k < n := fun k hk => by rw [← hks] at hk; exact yTa hk
          have hksa : ks.Pairwise (· < ·) := by rw [← hks]; exact ygb xs n d n
          have hmz : zoc rs rl rw (rotS sh n d) (fun k => ks.getD k 0) ks.length = zoc rs rl rw sh (fun k => xs.getD k 0) xs.length := by rw [← hks]; exact rot_match H3.out H4.out
          rw [hks] at HL2; obtain ⟨LK, kc, rfl, hkc, hik⟩ := HL2.out.shape; have e0 := Below.old HB2.out e0; have e1 := Below.old HB2.out e1; have e2 := Below.old HB2.out e2; have e3 := Below.old HB2.out e3; have e4 := Below.old HB2.out e4; have o0 := Below.old HB2.out o0; have o1 := Below.old HB2.out o1; have o2 := Below.old HB2.out o2; have o3 := Below.old HB2.out o3; have o4 := Below.old HB2.out o4; have HB5 := Lib.hid (HB4.out.trans (HB2.out.mono HB4.out.size)); have HSO5 := Lib.hid (HS4.out.below HB2.out); have HK5 := Lib.hid hik; have H55 := Lib.hid (H5.out.below HB2.out); obtain ⟨mz, hmz1⟩ : ∃ mz, zoc rs rl rw sh (fun k => xs.getD k 0) xs.length = mz := ⟨_, rfl⟩; rw [hmz1] at hmz; have HL : Hid (∀ k, k < xs.length → xs.getD k 0 < n) := Lib.hid fun k hk => H4.out _ (by rw [List.getD_eq_getElem?_getD, List.getElem?_eq_getElem hk]; exact List.getElem_mem hk)
          have HA : Hid (∀ j k, j < k → k < xs.length → xs.getD j 0 < xs.getD k 0) := Lib.hid fun j k hj hk => yyb H3.out hj hk
          have HLK : Hid (∀ k, k < ks.length → ks.getD k 0 < n) := Lib.hid fun k hk => hksl _ (by rw [List.getD_eq_getElem?_getD, List.getElem?_eq_getElem hk]; exact List.getElem_mem hk)
          have HAK : Hid (∀ j k, j < k → k < ks.length → ks.getD j 0 < ks.getD k 0) := Lib.hid fun j k hj hk => yyb hksa hj hk
          have hmat1 := fun w (hb : Below W.heap.size W w) hi => yRa rs rl rw mm A n c sh LA xs.length lc (fun k => xs.getD k 0) w hc hst (Lib.hid (hsh.out.below hb)) (by omega) h1 HL HA hi
          have hmat2 := fun w (hs : Hid (zA w OA n (rotS sh n d))) hi => yRa rs rl rw mm OA n oc (rotS sh n d) LK ks.length kc (fun k => ks.getD k 0) w hoc (Lib.hid hst.out.rot) hs (by omega) hkc HLK HAK hi
          rw [hmz1] at hmat1; rw [hmz] at hmat2; have HMA1 := Lib.hid hmat1; have HMA2 := Lib.hid hmat2; have hshare := rot_share (rs := rs) (rl := rl) (rw := rw) (sh := sh) (n := n) (d := d) (m := mm) (by omega); obtain ⟨N, hN⟩ : ∃ N, (zgc rs rl rw sh n mm fun _ => false).length = N := ⟨_, rfl⟩; rw [hN] at hshare; have hm1 := fun w (hb : Below W.heap.size W w) => yib rs rl rw mm A n c sh w hc (Lib.hid (hsh.out.below hb)) hst.out
          have hm2 := fun w (hs : Hid (zA w OA n (rotS sh n d))) => yib rs rl rw mm OA n oc (rotS sh n d) w hoc hs (hst.out.rot (d := d))
          rw [hN] at hm1; rw [hshare] at hm2; have HMM1 := Lib.hid hm1; have HMM2 := Lib.hid hm2; clear hks hksl hksa hmz hmz1 HL HA HLK HAK hmat1 hmat2 hshare hN hm1 hm2 HL2 HB2 hik HS4 HSO HB4 HBW HXW HBO H3 H4 H5 HJ0 HY0 HY1 HY2; refine zK fin12 ya ?_; refine zO (n := 0) rfl fin12 ya fun R hR => ?_
          have HR := Lib.hid hR; clear hR
          gi_wp2_with (gi_at_call 15; refine (HMA1.out _ HB5.out H55).mono ?_; rintro e w6 ⟨rfl, hb6⟩
                       have e0 := Below.old hb6 e0; have e1 := Below.old hb6 e1; have e2 := Below.old hb6 e2; have e3 := Below.old hb6 e3; have e4 := Below.old hb6 e4; have o0 := Below.old hb6 o0; have o1 := Below.old hb6 o1; have o2 := Below.old hb6 o2; have o3 := Below.old hb6 o3; have o4 := Below.old hb6 o4; have HB6 := Lib.hid (HB5.out.trans (hb6.mono HB5.out.size)); have HSO6 := Lib.hid (HSO5.out.below hb6); have HK6 := Lib.hid (HK5.out.below hb6); clear hb6)
          change R _ _; refine HR.out _ _ ?_; clear HR; refine zK fin12 ya ?_; refine zO (n := 0) rfl fin12 ya fun R hR => ?_
          have HR := Lib.hid hR; clear hR
          gi_wp2_with (gi_at_call 15; refine (HMA2.out _ HSO6 HK6).mono ?_; rintro e w7 ⟨rfl, hb7⟩
                       have e0 := Below.old hb7 e0; have e1 := Below.old hb7 e1; have e2 := Below.old hb7 e2; have e3 := Below.old hb7 e3; have e4 := Below.old hb7 e4; have o0 := Below.old hb7 o0; have o1 := Below.old hb7 o1; have o2 := Below.old hb7 o2; have o3 := Below.old hb7 o3; have o4 := Below.old hb7 o4; have HB7 := Lib.hid (HB6.out.trans (hb7.mono HB6.out.size)); have HSO7 := Lib.hid (HSO6.out.below hb7); have HK7 := Lib.hid (HK6.out.below hb7); clear hb7)
          change R _ _; refine HR.out _ _ ?_; clear HR; have HM1 := Lib.hid fun w (hb : Below w7.heap.size w7 w) => HMM1.out w (HB7.out.trans (hb.mono HB7.out.size))
          have HM2 := Lib.hid fun w (hb : Below w7.heap.size w7 w) => HMM2.out w (Lib.hid (HSO7.out.below hb))
          have hN0 : (0 : Int) ≤ (N : Int) := by omega
          clear HMA1 HMA2 HMM1 HMM2 HSO5 HSO6 HSO7 HK5 HK6 HK7 HB5 HB6 H55; refine zK fin12 ya ?_; refine reach_region_H (F := Fc) (n := 0) (t := 24) [.val 84 (.int .i64 0), .val 85 (.bool true), .val 86 (.bool true), .val 87 (.int .i64 0), .val 88 (.bool true), .val 89 (.bool true), .val 90 (.bool true), .val 91 (.int .i64 mz), .val 92 (.int .i64 mz), .val 93 (.bool true), .val 94 (.bool true), .val 95 (.bool true), .val 96 (zga rs rl rw mm A n c), .val 97 (.int .i64 N), .val 98 (zga rs rl rw mm OA n oc), .val 99 (.int .i64 N), .val 100 (.bool true), .val 101 (.bool true), .val 102 (.bool true), .val 103 (zga rs rl rw mm A n c), .val 104 (.int .i64 N), .val 105 (.bool true), .val 106 (.bool true), .val 107 (.bool true), .st, .st, .st]
            (I := fun L V w => Below w7.heap.size w7 w) (z := 110) (by kernel_rfl) (by kernel_rfl) (by kernel_rfl) (fun o ho => ?_) rfl fin12 ya (by kernel_rfl) (by kernel_rfl) (by kernel_rfl) rfl rfl (Below.refl _ _).drew ?_ ?_
          · simp only [List.take_succ_cons, List.take_zero, List.mem_cons, List.not_mem_nil, or_false] at ho; rcases ho with rfl | rfl | rfl | rfl | rfl | rfl | rfl | rfl | rfl | rfl | rfl | rfl | rfl | rfl | rfl | rfl | rfl | rfl | rfl | rfl | rfl | rfl | rfl | rfl
            all_goals first
              | exact .inl rfl
              | exact .inr ⟨45, _, _, _, rfl, Tryz.func45, by kernel_rfl, by kernel_rfl⟩
          · intro Q j L V a w hj hno hdep hah hd0 hz hold hv hV hI; have HI := Lib.hid hI; have e0 := Below.old hI e0; have e1 := Below.old hI e1; have e2 := Below.old hI e2; have e3 := Below.old hI e3; have e4 := Below.old hI e4; have o0 := Below.old hI o0; have o1 := Below.old hI o1; have o2 := Below.old hI o2; have o3 := Below.old hI o3; have o4 := Below.old hI o4; have s3 := zc hz (hold 3 (by kernel_rfl)) (by omega); have s8 := zc hz (hold 8 (by kernel_rfl)) (by omega); have s13 := zc hz (hold 13 (by kernel_rfl)) (by omega); have s14 := zc hz (hold 14 (by kernel_rfl)) (by omega); have s15 := zc hz (hold 15 (by kernel_rfl)) (by omega); have s16 := zc hz (hold 16 (by kernel_rfl)) (by omega); clear hold
            have hjs : j = 0 ∨ j = 1 ∨ j = 2 ∨ j = 3 ∨ j = 4 ∨ j = 5 ∨ j = 6 ∨ j = 7 ∨ j = 8 ∨ j = 9 ∨ j = 10 ∨ j = 11 ∨ j = 12 ∨ j = 13 ∨ j = 14 ∨ j = 15 ∨ j = 16 ∨ j = 17 ∨ j = 18 ∨ j = 19 ∨ j = 20 ∨ j = 21 ∨ j = 22 ∨ j = 23 := by omega
            rcases hjs with rfl | rfl | rfl | rfl | rfl | rfl | rfl | rfl | rfl | rfl | rfl | rfl | rfl | rfl | rfl | rfl | rfl | rfl | rfl | rfl | rfl | rfl | rfl | rfl
            · clear hdep hah hv hV hno hI; refine wpOpIn_step rfl fun K hK => ?_
              go_simp
              first | exact hK _ _ ⟨rfl, rfl, HI.out⟩ | exact hK _ _ ⟨hd0, rfl, HI.out⟩
            · have f84 := zc hz (hv 0 84 _ (by kernel_rfl) rfl) (by omega); clear hdep hah hv hV hno hI; refine wpOpIn_step rfl fun K hK => ?_
              go_simp
              first | exact hK _ _ ⟨rfl, rfl, HI.out⟩ | exact hK _ _ ⟨hd0, rfl, HI.out⟩
            · have f85 := zc hz (hv 1 85 _ (by kernel_rfl) rfl) (by omega); clear hdep hah hv hV hno hI; refine wpOpIn_step rfl fun K hK => ?_
              go_simp
              first | exact hK _ _ ⟨rfl, rfl, HI.out⟩ | exact hK _ _ ⟨hd0, rfl, HI.out⟩
            · have f86 := zc hz (hv 2 86 _ (by kernel_rfl) rfl) (by omega); clear hdep hah hv hV hno hI; refine wpOpIn_step rfl fun K hK => ?_
              go_simp
              first | exact hK _ _ ⟨rfl, rfl, HI.out⟩ | exact hK _ _ ⟨hd0, rfl, HI.out⟩
            · have f86 := zc hz (hv 2 86 _ (by kernel_rfl) rfl) (by omega); have f87 := zc hz (hv 3 87 _ (by kernel_rfl) rfl) (by omega); clear hdep hah hv hV hno hI; refine wpOpIn_step rfl fun K hK => ?_
              go_simp
              first | exact hK _ _ ⟨rfl, rfl, HI.out⟩ | exact hK _ _ ⟨hd0, rfl, HI.out⟩
            · have f86 := zc hz (hv 2 86 _ (by kernel_rfl) rfl) (by omega); have f88 := zc hz (hv 4 88 _ (by kernel_rfl) rfl) (by omega); clear hdep hah hv hV hno hI; refine wpOpIn_step rfl fun K hK => ?_
              go_simp
              first | exact hK _ _ ⟨rfl, rfl, HI.out⟩ | exact hK _ _ ⟨hd0, rfl, HI.out⟩
            · have f89 := zc hz (hv 5 89 _ (by kernel_rfl) rfl) (by omega); clear hdep hah hv hV hno hI; refine wpOpIn_step rfl fun K hK => ?_
              go_simp
              first | exact hK _ _ ⟨rfl, rfl, HI.out⟩ | exact hK _ _ ⟨hd0, rfl, HI.out⟩
            · have f90 := zc hz (hv 6 90 _ (by kernel_rfl) rfl) (by omega); clear hdep hah hv hV hno hI; refine wpOpIn_step rfl fun K hK => ?_
              go_simp
              first | exact hK _ _ ⟨rfl, rfl, HI.out⟩ | exact hK _ _ ⟨hd0, rfl, HI.out⟩
            · have f90 := zc hz (hv 6 90 _ (by kernel_rfl) rfl) (by omega); clear hdep hah hv hV hno hI; refine wpOpIn_step rfl fun K hK => ?_
              go_simp
              first | exact hK _ _ ⟨rfl, rfl, HI.out⟩ | exact hK _ _ ⟨hd0, rfl, HI.out⟩
            · have f90 := zc hz (hv 6 90 _ (by kernel_rfl) rfl) (by omega); have f91 := zc hz (hv 7 91 _ (by kernel_rfl) rfl) (by omega); have f92 := zc hz (hv 8 92 _ (by kernel_rfl) rfl) (by omega); clear hdep hah hv hV hno hI; refine wpOpIn_step rfl fun K hK => ?_
              go_simp
              first | exact hK _ _ ⟨rfl, rfl, HI.out⟩ | exact hK _ _ ⟨hd0, rfl, HI.out⟩
            · have f90 := zc hz (hv 6 90 _ (by kernel_rfl) rfl) (by omega); have f93 := zc hz (hv 9 93 _ (by kernel_rfl) rfl) (by omega); clear hdep hah hv hV hno hI; refine wpOpIn_step rfl fun K hK => ?_
              go_simp
              first | exact hK _ _ ⟨rfl, rfl, HI.out⟩ | exact hK _ _ ⟨hd0, rfl, HI.out⟩
            · have f94 := zc hz (hv 10 94 _ (by kernel_rfl) rfl) (by omega); clear hdep hah hv hV hno hI; refine wpOpIn_step rfl fun K hK => ?_
              go_simp
              first | exact hK _ _ ⟨rfl, rfl, HI.out⟩ | exact hK _ _ ⟨hd0, rfl, HI.out⟩
            · have f95 := zc hz (hv 11 95 _ (by kernel_rfl) rfl) (by omega); clear hdep hah hv hV hno hI; refine wpOpIn_step rfl fun K hK => ?_
              go_simp
              first | exact hK _ _ ⟨rfl, rfl, HI.out⟩ | exact hK _ _ ⟨hd0, rfl, HI.out⟩
            · have f95 := zc hz (hv 11 95 _ (by kernel_rfl) rfl) (by omega); have f96 := zc hz (hv 12 96 _ (by kernel_rfl) rfl) (by omega); clear hdep hah hv hV hno hI; refine wpOpIn_step rfl fun K hK => ?_
              go_simp; refine (HM1.out _ HI.out).mono ?_; rintro e w' ⟨rfl, hb'⟩
              first | exact hK _ _ ⟨rfl, rfl, (HI.out : Below _ w7 w).trans (hb'.mono HI.out.size)⟩ | exact hK _ _ ⟨hd0, rfl, (HI.out : Below _ w7 w).trans (hb'.mono HI.out.size)⟩
            · have f95 := zc hz (hv 11 95 _ (by kernel_rfl) rfl) (by omega); clear hdep hah hv hV hno hI; refine wpOpIn_step rfl fun K hK => ?_
              go_simp
              first | exact hK _ _ ⟨rfl, rfl, HI.out⟩ | exact hK _ _ ⟨hd0, rfl, HI.out⟩
            · have f95 := zc hz (hv 11 95 _ (by kernel_rfl) rfl) (by omega); have f98 := zc hz (hv 14 98 _ (by kernel_rfl) rfl) (by omega); clear hdep hah hv hV hno hI; refine wpOpIn_step rfl fun K hK => ?_
              go_simp; refine (HM2.out _ HI.out).mono ?_; rintro e w' ⟨rfl, hb'⟩
              first | exact hK _ _ ⟨rfl, rfl, (HI.out : Below _ w7 w).trans (hb'.mono HI.out.size)⟩ | exact hK _ _ ⟨hd0, rfl, (HI.out : Below _ w7 w).trans (hb'.mono HI.out.size)⟩
            · have f95 := zc hz (hv 11 95 _ (by kernel_rfl) rfl) (by omega); have f97 := zc hz (hv 13 97 _ (by kernel_rfl) rfl) (by omega); have f99 := zc hz (hv 15 99 _ (by kernel_rfl) rfl) (by omega); clear hdep hah hv hV hno hI; refine wpOpIn_step rfl fun K hK => ?_
              go_simp
              first | exact hK _ _ ⟨rfl, rfl, HI.out⟩ | exact hK _ _ ⟨hd0, rfl, HI.out⟩
            · have f95 := zc hz (hv 11 95 _ (by kernel_rfl) rfl) (by omega); have f100 := zc hz (hv 16 100 _ (by kernel_rfl) rfl) (by omega); clear hdep hah hv hV hno hI; refine wpOpIn_step rfl fun K hK => ?_
              go_simp
              first | exact hK _ _ ⟨rfl, rfl, HI.out⟩ | exact hK _ _ ⟨hd0, rfl, HI.out⟩
            · have f101 := zc hz (hv 17 101 _ (by kernel_rfl) rfl) (by omega); clear hdep hah hv hV hno hI; refine wpOpIn_step rfl fun K hK => ?_
              go_simp
              first | exact hK _ _ ⟨rfl, rfl, HI.out⟩ | exact hK _ _ ⟨hd0, rfl, HI.out⟩
            · have f102 := zc hz (hv 18 102 _ (by kernel_rfl) rfl) (by omega); clear hdep hah hv hV hno hI; refine wpOpIn_step rfl fun K hK => ?_
              go_simp
              first | exact hK _ _ ⟨rfl, rfl, HI.out⟩ | exact hK _ _ ⟨hd0, rfl, HI.out⟩
            · have f102 := zc hz (hv 18 102 _ (by kernel_rfl) rfl) (by omega); have f103 := zc hz (hv 19 103 _ (by kernel_rfl) rfl) (by omega); clear hdep hah hv hV hno hI; refine wpOpIn_step rfl fun K hK => ?_
              go_simp; refine (HM1.out _ HI.out).mono ?_; rintro e w' ⟨rfl, hb'⟩
              first | exact hK _ _ ⟨rfl, rfl, (HI.out : Below _ w7 w).trans (hb'.mono HI.out.size)⟩ | exact hK _ _ ⟨hd0, rfl, (HI.out : Below _ w7 w).trans (hb'.mono HI.out.size)⟩
            · have f102 := zc hz (hv 18 102 _ (by kernel_rfl) rfl) (by omega); have f104 := zc hz (hv 20 104 _ (by kernel_rfl) rfl) (by omega); clear hdep hah hv hV hno hI; refine wpOpIn_step rfl fun K hK => ?_
              go_simp
              first | exact hK _ _ ⟨rfl, rfl, HI.out⟩ | exact hK _ _ ⟨hd0, rfl, HI.out⟩
            · have f102 := zc hz (hv 18 102 _ (by kernel_rfl) rfl) (by omega); have f105 := zc hz (hv 21 105 _ (by kernel_rfl) rfl) (by omega); clear hdep hah hv hV hno hI; refine wpOpIn_step rfl fun K hK => ?_
              go_simp
              first | exact hK _ _ ⟨rfl, rfl, HI.out⟩ | exact hK _ _ ⟨hd0, rfl, HI.out⟩
            · have f106 := zc hz (hv 22 106 _ (by kernel_rfl) rfl) (by omega); clear hdep hah hv hV hno hI; refine wpOpIn_step rfl fun K hK => ?_
              go_simp
              first | exact hK _ _ ⟨rfl, rfl, HI.out⟩ | exact hK _ _ ⟨hd0, rfl, HI.out⟩
          · intro L V w8 hL hI; have HI8 := Lib.hid (HB7.out.trans (hI.mono HB7.out.size)); clear hL hI; simp only [outsG, Nat.zero_add, Nat.reduceAdd, List.foldl_cons, List.foldl_nil, List.setIfInBounds_toArray, List.set_cons_succ, List.set_cons_zero]; refine Reach.here ?_; rw [← HS.out]; exact ⟨.late _ _ _ 24 25 26 23 107 108 109 ⟨⟨_, rfl, rfl, rfl, rfl⟩, rfl, ⟨_, rfl, rfl, rfl, rfl⟩, ⟨_, rfl, rfl, rfl, rfl⟩, by decide⟩ (by omega) (by omega) rfl rfl (by first | rfl | simp) (by omega), HI8.out⟩
end
section
open Go.RowKit Go.Cx Go.Conc
end
end Go.Proofs.YtpdmgecbapmgdaaGreat
