/- A part of the proof that ArrowListed returns true for every input: no further condition. -/
import Derived.Test.YtpdmgecbapmgdaaGreatGp4
import Derived.Test.YtpdmgecbapmgdaaGreatGp2
import Derived.Stop.RegionWithIn
import Derived.Laws.Rows
import Derived.Maps.OwnIn
import Derived.Lib.SliceRun
import Derived.Lib.AppendZeros
import Derived.Test.YtpdmgecbapmgdaaGreatCx9
import Derived.Conc.Own4
set_option linter.unusedSimpArgs false
set_option linter.unusedVariables false
set_option maxHeartbeats 4000000
set_option maxRecDepth 100000
namespace Go.Proofs.YtpdmgecbapmgdaaGreat
section
open Go.RowKit
theorem yka {n m : Nat} : ∀ (d : Nat) (x y : List Nat), d ≤ n → (∀ a, a ∈ x → a < n) → y ∈ loopE n m d x → ∀ a, a ∈ y → a < n
 | 0, x, y, _, _, h => by cases h
 | d + 1, x, y, hd, hx, h => by
  have hx1 : ∀ a, a ∈ x ++ [n - (d + 1)] → a < n := fun a ha => by
   rcases List.mem_append.1 ha with h | h
   ·exact hx a h
   ·rcases List.mem_singleton.1 h with rfl; omega
  rw [loopE, List.mem_append] at h; rcases h with h | h
  ·split at h
   ·rcases List.mem_singleton.1 h with rfl; exact hx1
   ·exact yka d _ y (by omega) hx1 h
  ·exact yka d x y (by omega) hx h
theorem yxa {n m : Nat} {y : List Nat} (h : y ∈ extE n m n []) : ∀ a, a ∈ y → a < n := by
 unfold extE at h; split at h
 ·rcases List.mem_singleton.1 h with rfl; intro a ha; cases ha
 ·exact yka n [] y (Nat.le_refl _) (fun a ha => by cases ha) h
theorem setsL_lt {P : Nat → Int} {n m : Nat} (hn : n ≤ 9) (k j : Nat) (hj : j < ((setsL P n m).getD k []).length) : ((setsL P n m).getD k []).getD j 0 < 9 := by
 obtain ⟨y, hy⟩ : ∃ y, (setsL P n m).getD k [] = y := ⟨_, rfl⟩; rw [hy] at hj ⊢; rw [List.getD_eq_getElem?_getD] at hy; cases h : (setsL P n m)[k]? with
 | none => rw [h] at hy; subst hy; simp at hj
 | some z => rw [h] at hy; have hyz : z = y := hy; subst hyz; have hm : z ∈ extE n m n [] := (List.mem_filter.1 (List.mem_of_getElem? h)).1; have : z[j] < n := yxa hm _ (List.getElem_mem hj); rw [List.getD_eq_getElem?_getD, List.getElem?_eq_getElem hj]; show z[j] < 9; omega
theorem yVa {p : List Nat → Prop} {M : List (List Nat)} {E : Evs} {s : Nat} (h0 : p []) (h : ∀ k, p (M.getD k [])) (k : Nat) : p ((ofE M E s).getD k []) := by
 rw [List.getD_eq_getElem?_getD]; cases e : (ofE M E s)[k]? with
 | none => exact h0
 | some y => obtain ⟨ev, _, rfl⟩ := List.mem_map.1 (List.mem_of_getElem? e); exact h _
def zab (P : Nat → Int) (n m : Nat) (s : Nat) : List (List Nat) := ofE (setsL P n m) (evs (setsL P n m) (setsL P n m).length 0) s
theorem setsOfL_few {P : Nat → Int} {n m : Nat} (hn : n ≤ 9) (s : Nat) : (zab P n m s).length ≤ 5000 ∧ (∀ k, ((zab P n m s).getD k []).length ≤ 9) ∧ ∀ k j, j < ((zab P n m s).getD k []).length → ((zab P n m s).getD k []).getD j 0 < 9 := by
 refine ⟨?_, ?_, ?_⟩
 ·have h1 := yya (M := setsL P n m) (N := 512) (B := 9) (zBb hn) (zcb hn) (setsL P n m).length; have h2 := yUa (setsL P n m) (evs (setsL P n m) (setsL P n m).length 0) s; have h3 := zBb (P := P) (m := m) hn; unfold zab; omega
 ·exact yVa (p := fun y => y.length ≤ 9) (by simp) (zcb hn)
 ·exact yVa (p := fun y => ∀ j, j < y.length → y.getD j 0 < 9) (by simp) (setsL_lt hn)
def zPb (P : Nat → Int) (n m : Nat) (T : Nat → Bool) : List (List Nat) := tryE n (zab P n m) n T [] []
def SaysShare (M : List (List Nat)) (W : World) (e : Ending) (w' : World) : Prop := ∃ v, e = .returned v ∧ zS w' W.heap.size W.heap.size v M ∧ Few M ∧ Below W.heap.size W w'
def shareW (w3 : World) (b0 r : Nat) : World := ((w3.alloc (.cells #[.map (some r)] 161)).alloc (.cells #[.slice none 0 0] 40)).alloc (.cells #[.func (.func 115) #[] #[ptr b0, ptr (w3.heap.size + 1), ptr w3.heap.size, ptr (w3.heap.size + 1 + 1)]] 163)
theorem few_nil : Few [] := ⟨by simp, fun k => by simp⟩
theorem share_call {rs rl rw : Int} {A : Option Addr} {n c r : Nat} {P : Nat → Int} {m b0 z : Nat} {T : Nat → Bool} {w3 : World} {l : Ents} (hn : n ≤ 9) (hck : w3.heap[b0]? = some (.cells (ckCells rs rl rw m A n c P) 106 (0, 0))) (hm : MapAt w3 r l) (hs : ∀ s, zS w3 z z (valAt l s) (zab P n m s)) :
  CallsIn Fc 0 Tryz.prog 115 #[.int .i64 0, .agg (tkCells T), .slice none 0 0, ptr b0, ptr (w3.heap.size + 1), ptr w3.heap.size, ptr (w3.heap.size + 1 + 1)] (shareW w3 b0 r) (zkc (shareW w3 b0 r) z (w3.heap.size + 1) (shareW w3 b0 r) (.slice none 0 0) [] (.slice none 0 0) (zPb P n m T)) := by
 have hsz : (shareW w3 b0 r).heap.size = w3.heap.size + 3 := by simp [shareW]
 have hb : Below w3.heap.size w3 (shareW w3 b0 r) := (((Below.refl _ _).alloc (Nat.le_refl _) _).alloc (by simp) _).alloc (by simp; omega) _; have hlt := (Array.getElem?_eq_some_iff.1 hck).1; have hbb : (shareW w3 b0 r).heap[w3.heap.size + 1]? = some (.cells #[.slice none 0 0] 40 (0, 0)) := zp (zG (by simp)); have hbo : (shareW w3 b0 r).heap[w3.heap.size]? = some (.cells #[.map (some r)] 161 (0, 0)) := zp (zp (zG rfl)); have hbt : (shareW w3 b0 r).heap[w3.heap.size + 1 + 1]? = some (.cells #[.func (.func 115) #[] #[ptr b0, ptr (w3.heap.size + 1), ptr w3.heap.size, ptr (w3.heap.size + 1 + 1)]] 163 (0, 0)) := zG (by simp); have hE : zbc (shareW w3 b0 r) z z b0 (w3.heap.size + 1) w3.heap.size (w3.heap.size + 1 + 1) r n c A l (zab P n m) := by
  refine ⟨zVa ((hb.block _ hlt).trans hck) (i := 4) (by decide), by simp [World.cell?, hbo], by simp [World.cell?, hbt], ⟨_, hbb⟩, ?_, fun s => ?_, setsOfL_few hn, by omega, by omega, by omega⟩
  ·obtain ⟨cl, h⟩ := hm; exact ⟨cl, (hb.block _ (Array.getElem?_eq_some_iff.1 h).1).trans h⟩
  ·exact (hs s).keep (fun g hg => hb.block _ ((hs s).own hg).2) fun k cs fz hc => hb.block _ (Array.getElem?_eq_some_iff.1 hc).1
 exact yTa hn (Lib.hid hE) (by omega) n 0 0 T _ _ [] [] _ rfl (by omega) (by omega) (by simp) ⟨Kept.refl _ _ _, ⟨hbb, Row.nil _ _ _⟩, ⟨few_nil, few_nil⟩, Row.nil _ _ _, fun g hg => by cases hg⟩
theorem share_any (rs rl rw : Int) (A : Option Addr) (n c : Nat) (P : Nat → Int) (m : Nat) (T : Nat → Bool) (W : World) (hn : n ≤ 9) :
  CallsIn Fc 0 Tryz.prog 71 #[.agg (ckCells rs rl rw m A n c P), .agg (tkCells T)] W (SaysShare (zPb P n m T) W) := by
 have hset := setsOf_any rs rl rw A n c P m ((W.alloc (.cells (ckCells rs rl rw m A n c P) 106)).alloc (.cells (tkCells T) 127)) hn; have hk0 : ((W.alloc (.cells (ckCells rs rl rw m A n c P) 106)).alloc (.cells (tkCells T) 127)).heap[W.heap.size]? = some (.cells (ckCells rs rl rw m A n c P) 106 (0, 0)) := zp (zG rfl); have hk1 : ((W.alloc (.cells (ckCells rs rl rw m A n c P) 106)).alloc (.cells (tkCells T) 127)).heap[W.heap.size + 1]? = some (.cells (tkCells T) 127 (0, 0)) := zG (by simp); have hb0 : Below W.heap.size W ((W.alloc (.cells (ckCells rs rl rw m A n c P) 106)).alloc (.cells (tkCells T) 127)) := ((Below.refl _ _).alloc (Nat.le_refl _) _).alloc (by simp) _; have hs0 : ((W.alloc (.cells (ckCells rs rl rw m A n c P) 106)).alloc (.cells (tkCells T) 127)).heap.size = W.heap.size + 2 := by simp
 have HSET := Lib.hid hset; have HK0 := Lib.hid hk0; have HK1 := Lib.hid hk1; have HB0 := Lib.hid hb0; have HS0 := Lib.hid hs0; clear hset hk0 hk1 hb0 hs0; gi_enter Tryz.func71, Tryz.ntmps71
 gi_wp2_with (first
  | (refine zW rfl _ rfl _ _ rfl HK0.out (ck_size _ _ _ _ _ _ _ _) ?_)
  | (refine zV rfl _ rfl _ _ rfl (HK5.out _ _ _) rfl ?_)
  | (gi_at_call 114; refine HSET.out.mono ?_; rintro e w3 ⟨r, l, rfl, h1, h2, h3⟩; have hk5 : ∀ X Y Z, (((w3.alloc X).alloc Y).alloc Z).heap[W.heap.size + 1]? = some (.cells (tkCells T) 127 (0, 0)) := fun X Y Z => zp (zp (zp ((h3.block _ (by rw [HS0.out]; omega)).trans HK1.out))); have HK5 := Lib.hid (fun X Y Z => hk5 X Y Z); have H1 := Lib.hid h1; have H2 := Lib.hid h2; have H3 := Lib.hid h3; clear h1 h2 h3 hk5))
 have hz3 := H3.out.size; rw [HS0.out] at hz3; have hcall := share_call (rs := rs) (rl := rl) (rw := rw) (A := A) (c := c) (T := T) (b0 := W.heap.size) hn ((H3.out.block _ (by rw [HS0.out]; omega)).trans HK0.out) H1.out H2.out; refine hcall.mono ?_; rintro e w9 ⟨rfl, h9⟩; obtain ⟨bv, ⟨hbest, hrow⟩, _⟩ := h9.best; obtain ⟨LB, kb, rfl⟩ := zeb hrow.choose_spec.1; have q9 : w9.cell? ⟨w3.heap.size + 1, 0, none⟩ = some (.slice LB (zPb P n m T).length kb) := by simp [World.cell?, hbest]
 have HROW := Lib.hid hrow; have H9 := Lib.hid h9; clear hbest hrow h9 hcall; gi_wp2; go_ret; have hk := H9.out.kept; have hb3 := H3.out; have hb0 := HB0.out; have hs0 := HS0.out; have hsz : (shareW w3 W.heap.size r).heap.size = w3.heap.size + 3 := by simp [shareW]
 have hb : Below w3.heap.size w3 (shareW w3 W.heap.size r) := (((Below.refl _ _).alloc (Nat.le_refl _) _).alloc (by simp) _).alloc (by simp; omega) _; have hbb : (shareW w3 W.heap.size r).heap[w3.heap.size + 1]? = some (.cells #[.slice none 0 0] 40 (0, 0)) := zp (zG (by simp)); refine ⟨_, rfl, ?_, H9.out.few, ?_⟩
 ·obtain ⟨vs, h1, h2⟩ := HROW.out; refine ⟨vs, ?_, fun k hk' => (Old.list (w0 := shareW w3 W.heap.size r) hk hbb (h2 k hk')).mono (by omega)⟩; obtain ⟨q1, q2 | ⟨g', c', r', e, q3, q4⟩⟩ := h1
  ·exact ⟨q1, .inl q2⟩
  ·exact ⟨q1, .inr ⟨g', c', r', e, by omega, q4⟩⟩
 ·have z1 := hk.size; refine ⟨hk.os.trans (hb.os.trans (hb3.os.trans hb0.os)), hk.tape.trans (hb.tape.trans (hb3.tape.trans hb0.tape)), hk.output.trans (hb.output.trans (hb3.output.trans hb0.output)), by omega, fun k hlt => ?_⟩; exact (hk.block k (by omega) (by simp; omega) (by intro e; cases e)).trans ((hb.block k (by omega)).trans ((hb3.block k (by omega)).trans (hb0.block k hlt)))
end
section
open Go.RowKit
def SaysStock (rs rl rw many : Int) (n : Nat) (sh : Nat → Shaft) (W : World) (e : Ending) (w' : World) : Prop := ∃ v : Int, e = .returned (.int .i64 v) ∧ (v = 0 → zxa rs rl rw many n sh) ∧ Below W.heap.size W w'
theorem CheckStock_any (rs rl rw many : Int) (A : Option Addr) (n c : Nat) (sh : Nat → Shaft) (W : World) (hc : n ≤ c) (hsh : Hid (zA W A n sh)) (hnm : Hid (∀ k, k < n → (sh k).name.size ≤ 100)) :
  CallsIn Fc 0 Tryz.prog 18 #[zga rs rl rw many A n c] W (SaysStock rs rl rw many n sh W) := by
 have hB2 : ∀ x y, Below W.heap.size W ((W.alloc x).alloc y) := fun x y => ((Below.refl _ _).alloc (Nat.le_refl _) _).alloc (by simp) _
 have HB2 := Lib.hid hB2; clear hB2; gi_enter Tryz.func18, Tryz.ntmps18; cases h1 : inB rs 0 9999 with
 | false =>
  gi_wp2_with (gi_at_call 62; refine (zYa _ _ _ _).mono ?_; rintro e w' ⟨rfl, rfl⟩)
  go_ret; exact ⟨1, rfl, fun h => by simp at h, HB2.out _ _⟩
 | true =>
 cases h2 : inB rl 0 9999 with
 | false =>
  gi_wp2_with (gi_at_call 62; refine (zYa _ _ _ _).mono ?_; rintro e w' ⟨rfl, rfl⟩)
  go_ret; exact ⟨1, rfl, fun h => by simp at h, HB2.out _ _⟩
 | true =>
 cases h3 : inB rw 0 9999 with
 | false =>
  gi_wp2_with (gi_at_call 62; refine (zYa _ _ _ _).mono ?_; rintro e w' ⟨rfl, rfl⟩)
  go_ret; exact ⟨1, rfl, fun h => by simp at h, HB2.out _ _⟩
 | true =>
 cases h4 : inB many 2 4 with
 | false =>
  gi_wp2_with (gi_at_call 62; refine (zYa _ _ _ _).mono ?_; rintro e w' ⟨rfl, rfl⟩)
  go_ret; exact ⟨1, rfl, fun h => by simp at h, HB2.out _ _⟩
 | true =>
 by_cases hn : (n : Int) > 9
 ·gi_wp2_with (gi_at_call 62; refine (zYa _ _ _ _).mono ?_; rintro e w' ⟨rfl, rfl⟩)
  go_ret; exact ⟨2, rfl, fun h => by simp at h, HB2.out _ _⟩
 ·have hn9 : n ≤ 9 := by omega
  have HRU : Hid (ycb rs rl rw many) := Lib.hid (by simp [inB] at h1 h2 h3 h4; exact ⟨h1.1, h1.2, h2.1, h2.2, h3.1, h3.2, h4.1, h4.2⟩)
  gi_wp2_with (gi_at_call 62; refine (zYa _ _ _ _).mono ?_; rintro e w' ⟨rfl, rfl⟩)
  clear h1 h2 h3 h4
  gi_loopw [4] (fun i wr => ∃ k : Nat, k ≤ n ∧ i = .int .i64 k ∧ wr.cell? ⟨W.heap.size, 4, none⟩ = some (.slice A n c) ∧ Below W.heap.size W wr ∧ (∀ j, j < k → yza (sh j)) ∧ ∀ j i, j < i → i < k → ((sh j).name.toList == (sh i).name.toList) = false) (fun i _ => n - (intOf i).toNat)
  case atStart => exact ⟨0, by omega, rfl, by go_simp, HB2.out _ _, fun j h => by omega, fun j i _ h => by omega⟩
  case round =>
   obtain ⟨k, hk, rfl, c4, hb, hok, hon⟩ := hrel
   rename World => wq
   have HB := Lib.hid hb; have HOK := Lib.hid hok; have HON := Lib.hid hon; have hs := hb.size; have hsz : W.heap.size < wq.heap.size := World.block_lt_of_cell? wq _ c4; clear hb hok hon; by_cases hlt : k < n
   ·obtain ⟨b, o, rfl, hx⟩ := hsh.out k hlt; obtain ⟨x0, x1, x2, x3, x4, x5, x6⟩ := hx.below HB.out; have hlb : b < wq.heap.size := World.block_lt_of_cell? wq _ x0
    gi_wp2_with (gi_at_call 63; refine (isName_any _ _ (by have := hnm.out k hlt; simp [maxLen]; omega)).mono ?_; rintro e w' ⟨nb, rfl, hnb, rfl⟩; cases nb)
    ·go_ret; exact ⟨4, rfl, fun h => by simp at h, HB.out.alloc (by omega) _⟩
    ·have HNK := Lib.hid (hnb trivial); clear hnb hx
     gi_loopw [6] (fun i wi => ∃ j : Nat, j ≤ k ∧ i = .int .i64 j ∧ Below (wq.heap.size + 1) (wq.alloc (.cells #[.string (sh k).name, .int .i64 (sh k).s0, .int .i64 (sh k).s1, .int .i64 (sh k).l0, .int .i64 (sh k).l1, .int .i64 (sh k).w0, .int .i64 (sh k).w1] 65)) wi ∧ ∀ t, t < j → ((sh t).name.toList == (sh k).name.toList) = false) (fun i _ => k - (intOf i).toNat)
     case atStart => exact ⟨0, by omega, rfl, Below.refl _ _, fun t h => by omega⟩
     case round =>
      clear x0 x1 x2 x3 x4 x5 x6; obtain ⟨j, hj, rfl, hbi, hne⟩ := hrel; have d4 : wr.cell? ⟨W.heap.size, 4, none⟩ = some (.slice (some ⟨b, o, none⟩) n c) := by rw [hbi.cell (by simp; omega)]; go_simp
      have y0 : wr.cell? ⟨wq.heap.size, 0, none⟩ = some (.string (sh k).name) := by rw [hbi.cell (by simp)]; go_simp
      have hsi := hbi.size; simp at hsi; have HNE := Lib.hid hne; have hbw : Below W.heap.size W wr := (HB.out.alloc (by omega) _).trans (hbi.mono (by omega)); have HBW := Lib.hid hbw; have HBI := Lib.hid hbi; clear hbi hbw hne c4; by_cases hlj : j < k
      ·obtain ⟨b', o', e', hxj⟩ := hsh.out j (by omega); cases e'; have z0 := (hxj.below HBW.out).h0; clear hxj; cases he : ((sh j).name.toList == (sh k).name.toList) with
       | true =>
        gi_wp2
        gi_region_with fail
        all_goals
         gi_wp2; go_ret; exact ⟨5, rfl, fun h => by simp at h, HBW.out.drew⟩
       | false =>
        gi_wp2
        gi_region_with fail
        all_goals
         gi_wp2; go_roundw
         case rel => exact ⟨j + 1, by omega, by go_num, HBI.out.drew, fun t ht => by
          rcases Nat.lt_succ_iff_lt_or_eq.1 ht with ht | rfl
          ·exact HNE.out t ht
          ·exact he⟩
         case measure => simp [intOf]; omega
      ·obtain rfl : j = k := by omega
       have y1 : wr.cell? ⟨wq.heap.size, 1, none⟩ = some (.int .i64 (sh j).s0) := by rw [HBI.out.cell (by simp)]; go_simp
       have y2 : wr.cell? ⟨wq.heap.size, 2, none⟩ = some (.int .i64 (sh j).s1) := by rw [HBI.out.cell (by simp)]; go_simp
       have y3 : wr.cell? ⟨wq.heap.size, 3, none⟩ = some (.int .i64 (sh j).l0) := by rw [HBI.out.cell (by simp)]; go_simp
       have y4 : wr.cell? ⟨wq.heap.size, 4, none⟩ = some (.int .i64 (sh j).l1) := by rw [HBI.out.cell (by simp)]; go_simp
       have y5 : wr.cell? ⟨wq.heap.size, 5, none⟩ = some (.int .i64 (sh j).w0) := by rw [HBI.out.cell (by simp)]; go_simp
       have y6 : wr.cell? ⟨wq.heap.size, 6, none⟩ = some (.int .i64 (sh j).w1) := by rw [HBI.out.cell (by simp)]; go_simp
       cases q1 : insideB (sh j).s0 (sh j).s1 0 9999 with
       | false =>
        gi_wp2_with (gi_at_call 64; refine (yn _ _ _ _ _).mono ?_; rintro e w2 ⟨rfl, hb2⟩; (have d4 := Below.old hb2 d4); (have y3 := Below.old hb2 y3); (have y4 := Below.old hb2 y4); (have y5 := Below.old hb2 y5); (have y6 := Below.old hb2 y6); have HBW := Lib.hid (HBW.out.trans (hb2.mono HBW.out.size)); clear hb2)
        go_ret; exact ⟨1, rfl, fun h => by simp at h, HBW.out⟩
       | true =>
       cases q2 : insideB (sh j).l0 (sh j).l1 0 9999 with
       | false =>
        gi_wp2_with (gi_at_call 64; refine (yn _ _ _ _ _).mono ?_; rintro e w2 ⟨rfl, hb2⟩; (have d4 := Below.old hb2 d4); (have y3 := Below.old hb2 y3); (have y4 := Below.old hb2 y4); (have y5 := Below.old hb2 y5); (have y6 := Below.old hb2 y6); have HBW := Lib.hid (HBW.out.trans (hb2.mono HBW.out.size)); clear hb2)
        go_ret; exact ⟨1, rfl, fun h => by simp at h, HBW.out⟩
       | true =>
       cases q3 : insideB (sh j).w0 (sh j).w1 0 9999 with
       | false =>
        gi_wp2_with (gi_at_call 64; refine (yn _ _ _ _ _).mono ?_; rintro e w2 ⟨rfl, hb2⟩; (have d4 := Below.old hb2 d4); (have y3 := Below.old hb2 y3); (have y4 := Below.old hb2 y4); (have y5 := Below.old hb2 y5); (have y6 := Below.old hb2 y6); have HBW := Lib.hid (HBW.out.trans (hb2.mono HBW.out.size)); clear hb2)
        go_ret; exact ⟨1, rfl, fun h => by simp at h, HBW.out⟩
       | true =>
        gi_wp2_with (gi_at_call 64; refine (yn _ _ _ _ _).mono ?_; rintro e w2 ⟨rfl, hb2⟩; (have d4 := Below.old hb2 d4); (have y3 := Below.old hb2 y3); (have y4 := Below.old hb2 y4); (have y5 := Below.old hb2 y5); (have y6 := Below.old hb2 y6); have HBW := Lib.hid (HBW.out.trans (hb2.mono HBW.out.size)); clear hb2)
        go_roundw
        case rel =>
         refine ⟨j + 1, by omega, by go_num, d4, HBW.out, fun t ht => ?_, fun t i h5 h6 => ?_⟩
         ·rcases Nat.lt_succ_iff_lt_or_eq.1 ht with ht | rfl
          ·exact HOK.out t ht
          ·simp [insideB, inB] at q1 q2 q3; exact ⟨HNK.out, by omega, by omega, by omega, by omega, by omega, by omega, by omega, by omega, by omega⟩
         ·rcases Nat.lt_succ_iff_lt_or_eq.1 h6 with h6 | rfl
          ·exact HON.out t i h5 h6
          ·exact HNE.out t h5
        case measure => simp [intOf]; omega
   ·obtain rfl : k = n := by omega
    gi_wp2; go_ret; exact ⟨0, rfl, fun _ => ⟨HRU.out, hn9, HOK.out, HON.out⟩, HB.out⟩
end
section
open Go.RowKit
def SaysFit (rs rl rw many : Int) (n : Nat) (sh : Nat → Shaft) (W : World) (e : Ending) (w' : World) : Prop := ∃ b : Bool, e = .returned (.bool b) ∧ (b = true → zxa rs rl rw many n sh) ∧ Below W.heap.size W w'
theorem Fit_any (rs rl rw many : Int) (A : Option Addr) (n c : Nat) (sh : Nat → Shaft) (W : World) (hc : n ≤ c) (hsh : Hid (zA W A n sh)) :
    CallsIn Fc 0 Tryz.prog 33 #[zga rs rl rw many A n c] W (SaysFit rs rl rw many n sh W) := by
  have hB1 : ∀ x, Below W.heap.size W (W.alloc x) := fun x => (Below.refl _ _).alloc (Nat.le_refl _) _
  have HB1 := Lib.hid hB1; clear hB1; gi_enter Tryz.func33, Tryz.ntmps33
  gi_wp2_with (first
    | (gi_at_call 13; refine (Great_any _ _ _ _ _ _ _ sh _ hc (Lib.hid (hsh.out.below (HB1.out _)))).mono ?_; rintro e w2 ⟨gb, rfl, hgb, hb2⟩
       have e0 : w2.cell? ⟨W.heap.size, 0, none⟩ = some (.int .i64 rs) := Below.old hb2 (by go_simp); have e1 : w2.cell? ⟨W.heap.size, 1, none⟩ = some (.int .i64 rl) := Below.old hb2 (by go_simp); have e2 : w2.cell? ⟨W.heap.size, 2, none⟩ = some (.int .i64 rw) := Below.old hb2 (by go_simp); have e3 : w2.cell? ⟨W.heap.size, 3, none⟩ = some (.int .i64 many) := Below.old hb2 (by go_simp); have e4 : w2.cell? ⟨W.heap.size, 4, none⟩ = some (.slice A n c) := Below.old hb2 (by go_simp); have HB2 := Lib.hid ((HB1.out _).trans (hb2.mono (HB1.out _).size)); have HGB := Lib.hid hgb; clear hb2 hgb; cases gb)
    | (gi_at_call 18; refine (CheckStock_any _ _ _ _ _ _ _ sh _ hc (Lib.hid (hsh.out.below HB2.out)) (Lib.hid (HGB.out trivial).2)).mono ?_; rintro e w3 ⟨v, rfl, hv, hb3⟩
       have HB3 := Lib.hid (HB2.out.trans (hb3.mono HB2.out.size)); have HV := Lib.hid hv; clear hb3 hv))
  · go_ret; exact ⟨v == 0, rfl, fun h => HV.out (by simpa using h), HB3.out⟩
  · go_ret; exact ⟨false, rfl, fun h => by simp at h, HB2.out⟩
end
section
open Go.RowKit
end
section
open Go.RowKit
section
variable {rs rl rw many : Int} {n m : Nat} {sh : Nat → Shaft} {l : Nat → Nat} {R : Nat → Nat → Int}
end
end
section
open Go.RowKit
end
section
open Go.RowKit
end
section
open Go.RowKit
end
section
open Go.RowKit
end
section
open Go.RowKit
section
variable (rs rl rw many : Int) (A : Option Addr) (n c k m : Nat) (x0 x1 : Int)
end
end
section
open Go.RowKit
end
section
open Go.RowKit
end
section
open Go.RowKit
end
section
open Go.RowKit
end
section
open Go.RowKit
theorem Index_any (LA : Option Addr) (lc : Nat) (x : List Nat) (s : Nat) (W : World) (hx : x.length ≤ 99) (hs : s ≤ 99) (hc : x.length ≤ lc) (ha : Hid (zca W LA x.length fun k => ((x.getD k 0 : Nat) : Int))) :
  CallsIn Fc 0 Tryz.prog 121 #[.slice LA x.length lc, .int .i64 s] W fun e w' => ∃ z : Int, e = .returned (.int .i64 z) ∧ (0 ≤ z ↔ s ∈ x) ∧ W = w' := by
 gi_enter Tryz.func121, Tryz.ntmps121; gi_wp2
 gi_loopw [8] (fun z wr => ∃ k : Nat, k ≤ x.length ∧ z = .int .i64 k ∧ wr = W ∧ ∀ j, j < k → x.getD j 0 ≠ s) (fun z _ => x.length - (intOf z).toNat)
 case atStart => exact ⟨0, by omega, rfl, rfl, fun j hj => by omega⟩
 case round =>
  obtain ⟨k, hkx, rfl, rfl, heq⟩ := hrel; have HEQ := Lib.hid heq; clear heq; by_cases hlt : k < x.length
  ·obtain ⟨b1, o1, rfl, q1⟩ := ha.out k hlt; obtain ⟨a, ha'⟩ : ∃ a, x.getD k 0 = a := ⟨_, rfl⟩
   replace q1 : wr.cell? ⟨b1, o1 + k, none⟩ = some (.int .i64 (a : Int)) := by rw [q1, ← ha']
   have hltI : (k : Int) < (x.length : Int) := by omega
   have h99 : k < 99 := by omega
   have HA := Lib.hid ha'; clear ha'; by_cases h1 : s = a
   ·have h1I : (s : Int) = (a : Int) := by omega
    have hm : s ∈ x := by
     have h := HA.out; rw [List.getD_eq_getElem?_getD, List.getElem?_eq_getElem hlt] at h; have : x[k] = s := by rw [h1]; exact h
     rw [← this]; exact List.getElem_mem hlt
    have HM := Lib.hid hm; clear hm h1; gi_wp2; go_ret; exact ⟨k, rfl, ⟨fun _ => HM.out, fun _ => by omega⟩, rfl⟩
   ·have h1I : ¬ (s : Int) = (a : Int) := by omega
    have H1 := Lib.hid h1; clear h1; gi_wp2; go_roundw
    case rel => exact ⟨k + 1, by omega, by go_num, trivial, fun j hj => by
     by_cases e : j = k
     ·subst e; rw [HA.out]; exact fun e => H1.out e.symm
     ·exact HEQ.out j (by omega)⟩
    case measure => simp [intOf]; omega
  ·obtain rfl : k = x.length := by omega
   gi_wp2; go_ret; refine ⟨-1, rfl, ⟨fun h => by omega, fun h => ?_⟩, rfl⟩; obtain ⟨j, hj, e⟩ := List.mem_iff_getElem.1 h; refine absurd ?_ (HEQ.out j hj); rw [List.getD_eq_getElem?_getD, List.getElem?_eq_getElem hj]; exact e
theorem Contains_any (LA : Option Addr) (lc : Nat) (x : List Nat) (s : Nat) (W : World) (hx : x.length ≤ 99) (hs : s ≤ 99) (hc : x.length ≤ lc) (ha : Hid (zca W LA x.length fun k => ((x.getD k 0 : Nat) : Int))) :
  CallsIn Fc 0 Tryz.prog 73 #[.slice LA x.length lc, .int .i64 s] W fun e w' => e = .returned (.bool (decide (s ∈ x))) ∧ W = w' := by
 gi_enter Tryz.func73, Tryz.ntmps73
 gi_wp2_with (gi_at_call 121; refine (Index_any LA lc x s _ hx hs hc ha).mono ?_; rintro e w' ⟨z, rfl, hz, rfl⟩; have HZ := Lib.hid hz; clear hz)
 go_ret; refine ⟨?_, rfl⟩; have h := HZ.out; simp [← h]
noncomputable def setsX (rs rl rw : Int) (sh : Nat → Shaft) (n m : Nat) : List (List Nat) := (extE n m n []).filter fun x => zoc rs rl rw sh (fun k => x.getD k 0) x.length == 1
theorem yT {n m : Nat} : ∀ (d : Nat) (x y : List Nat), d ≤ n → (∀ a, a ∈ x → a < n - d) → x.Pairwise (· < ·) → y ∈ loopE n m d x → y.Pairwise (· < ·)
 | 0, x, y, _, _, _, h => by cases h
 | d + 1, x, y, hd, hx, hp, h => by
  have hp1 : (x ++ [n - (d + 1)]).Pairwise (· < ·) := by rw [List.pairwise_append]; refine ⟨hp, List.pairwise_singleton _ _, fun a ha b hb => ?_⟩; rcases List.mem_singleton.1 hb with rfl; exact hx a ha
  rw [loopE, List.mem_append] at h; rcases h with h | h
  ·split at h
   ·rcases List.mem_singleton.1 h with rfl; exact hp1
   ·refine yT d _ y (by omega) (fun a ha => ?_) hp1 h; rcases List.mem_append.1 ha with h' | h'
    ·have := hx a h'; omega
    ·rcases List.mem_singleton.1 h' with rfl; omega
  ·exact yT d x y (by omega) (fun a ha => by have := hx a ha; omega) hp h
theorem yNa {n m : Nat} {y : List Nat} (h : y ∈ extE n m n []) : y.Pairwise (· < ·) := by
 unfold extE at h; split at h
 ·rcases List.mem_singleton.1 h with rfl; exact List.Pairwise.nil
 ·exact yT n [] y (Nat.le_refl _) (fun a ha => by cases ha) List.Pairwise.nil h
theorem yZa {x : List Nat} (h : x.Pairwise (· < ·)) {j i : Nat} (hji : j < i) (hi : i < x.length) : x.getD j 0 < x.getD i 0 := by have := List.pairwise_iff_getElem.1 h j i (by omega) hi hji; rw [List.getD_eq_getElem?_getD, List.getD_eq_getElem?_getD, List.getElem?_eq_getElem hi, List.getElem?_eq_getElem (show j < x.length by omega)]; exact this
theorem yEa {rs rl rw : Int} {sh : Nat → Shaft} {n m : Nat} {P : Nat → Int} (h : ∀ two one, one < two → two < n → P (one * 9 + two) = pairZ rs rl rw (sh one) (sh two)) : setsL P n m = setsX rs rl rw sh n m := by
 unfold setsL filt setsX; refine List.filter_congr fun x hx => ?_
 have e : yesZ P x = zoc rs rl rw sh (fun k => x.getD k 0) x.length := yo x.length fun j i h1 h2 => h _ _ (yZa (yNa hx) h1 h2) (by rw [List.getD_eq_getElem?_getD, List.getElem?_eq_getElem h2]; exact yxa hx _ (List.getElem_mem h2))
 rw [e]
def SaysLists (M : List (List Nat)) (z : Int) (W : World) (e : Ending) (w' : World) : Prop := ∃ v, e = .returned (.tuple #[v, .int .i64 z]) ∧ zS w' W.heap.size W.heap.size v M ∧ Below W.heap.size W w'
theorem Sets_fair (rs rl rw : Int) (m : Nat) (A : Option Addr) (n c : Nat) (sh : Nat → Shaft) (W : World) (hc : n ≤ c) (hsh : Hid (zA W A n sh)) (hst : zxa rs rl rw m n sh) :
    CallsIn Fc 0 Tryz.prog 22 #[zga rs rl rw m A n c] W (SaysLists (setsX rs rl rw sh n m) 0 W) := by
  have hB1 : ∀ X Y, Below W.heap.size W ((W.alloc X).alloc Y) := fun X Y => ((Below.refl _ _).alloc (Nat.le_refl _) _).alloc (by simp) _
  have HB1 := Lib.hid hB1; have hck := fun w (hb : Below W.heap.size W w) => yma rs rl rw m A n c sh w hc (Lib.hid hst) (Lib.hid (hsh.out.below hb))
  have hn9 := hst.count; have HCK := Lib.hid hck; have hcd := fun w (hb : Below W.heap.size W w) => yp rs rl rw m A n c sh w (Lib.hid hst) (Lib.hid (hsh.out.below hb))
  have HCD := Lib.hid hcd; clear hcd hck hst hB1; gi_enter Tryz.func22, Tryz.ntmps22
  gi_wp2_with (first
    | (gi_at_call 56; refine (HCK.out _ (HB1.out _ _)).mono ?_; rintro e w2 ⟨rfl, hb2⟩
       have e0 : w2.cell? ⟨W.heap.size + 1, 0, none⟩ = some (.int .i64 rs) := Below.old hb2 (by go_simp); have e1 : w2.cell? ⟨W.heap.size + 1, 1, none⟩ = some (.int .i64 rl) := Below.old hb2 (by go_simp); have e2 : w2.cell? ⟨W.heap.size + 1, 2, none⟩ = some (.int .i64 rw) := Below.old hb2 (by go_simp); have e3 : w2.cell? ⟨W.heap.size + 1, 3, none⟩ = some (.int .i64 m) := Below.old hb2 (by go_simp); have e4 : w2.cell? ⟨W.heap.size + 1, 4, none⟩ = some (.slice A n c) := Below.old hb2 (by go_simp); have HB2 := Lib.hid ((HB1.out _ _).trans (hb2.mono (HB1.out _ _).size)); clear hb2)
    | (gi_at_call 58; refine (HCD.out _ HB2.out).mono ?_; rintro e w7 ⟨P, rfl, hP, hb7⟩; have HB7 := Lib.hid (HB2.out.trans (hb7.mono HB2.out.size)); have HP := Lib.hid (yEa hP (m := m)); clear hb7 hP)
    | (gi_at_call 68; refine (yDa rs rl rw A n c P m _ hn9).mono ?_; rintro e w8 ⟨v, S, rfl, hl, hb8⟩; have HL := Lib.hid hl.p; have HB8 := Lib.hid (HB7.out.trans (hb8.mono HB7.out.size)); clear hb8 hl))
  go_ret2
  refine ⟨v, rfl, ?_, HB8.out⟩; rw [← HP.out]; have h : zS w8 w7.heap.size w7.heap.size v (setsL P n m) := HL.out; exact h.mono HB7.out.size HB7.out.size
end
section
open Go.RowKit
theorem u3i : Tryz.prog.underlying 3 = some (.int .i64) := by kernel_rfl
theorem wpListIn_append_eq {F : Fence} {ops : Array Oper} {rest : List Oper} {o : Oper} {a : Act} {w : World} {Q : Exit → Act → World → Prop} (hg : o.guard = none) (s x : Operand) (t tn : TypeId) (hop : o.op = .call { callee := .builtin .append, args := #[s, x], argTypes := #[t, tn] }) (vs vx : Value) (hs : a.eval s = vs) (hx : a.eval x = vx)
  (v' : Value) (w' : World) (hr : (Builtin.append_ #[t, tn] o.type #[vs, vx]).run Tryz.prog w = .ok v' w') (h : wpListIn F 0 Tryz.prog ops Q rest (a.put o.dst v') w') : wpListIn F 0 Tryz.prog ops Q (o :: rest) a w := by
 refine wpListIn_plain hg fun K hK => ?_
 unfold Oper.wpIn; refine ⟨?_, ?_⟩
 ·simp [Oper.about, hop, resolve, Target.leads, Sem.run_pure]
 ·rw [Oper.semAt_plain F _ _ (by rw [hop]; intro c hc'; cases hc')]; simp [execOp, hop, resolve, invoke, builtin, hs, hx, hr, Result.andThen]; exact hK _ _ h
theorem Grow_any (k : Nat) (W : World) (hk : k ≤ 99) : CallsIn Fc 0 Tryz.prog 120 #[.slice none 0 0, .int .i64 k] W (fun e w' => ∃ v, e = .returned v ∧ w'.ownsRow W.heap.size 3 1 v 0 [] ∧ Below W.heap.size W w') := by
 by_cases h0 : k = 0
 ·subst h0; gi_enter Tryz.func120, Tryz.ntmps120; gi_wp2; go_ret; exact ⟨_, rfl, World.ownsRow_nil _ _ _ _, Below.refl _ _⟩
 ·have hkI : (0 : Int) < (k : Int) := by omega
  obtain ⟨i0, hi0, hz0, hz1, hz2⟩ := info_parts it3; have hr := Lib.run_append_nil_zeros (P := Tryz.prog) W 27 3 27 3 i0 (.int .i64 0) .i64 .i64 ut27 u3i hi0 hz0 k (by omega) (by rw [hz1]; decide) (by omega) (by rw [hz2]; omega); have hge := grownCap_ge W k 0 3; have hle := grownCap_le_maxLen W k 0 3 (by simp only [maxLen]; omega); generalize grownCap W k 0 3 = gc at *; obtain ⟨w1, hw1⟩ : ∃ w1, w1 = W.drew.alloc (.cells (Builtin.zeroCells (Value.int .i64 0).cells k ++ Builtin.zeroCells (Value.int .i64 0).cells (gc - k)) 3) := ⟨_, rfl⟩; rw [← hw1] at hr; have hb1 : Below W.heap.size W w1 := by rw [hw1]; exact ((Below.refl _ _).drew).alloc (by simp) _
  have hh : w1.heap[W.heap.size]? = some (.cells (Builtin.zeroCells (Value.int .i64 0).cells k ++ Builtin.zeroCells (Value.int .i64 0).cells (gc - k)) 3 (0, 0)) := by rw [hw1]; exact zG (by simp)
  have HR := Lib.hid hr; have HB := Lib.hid hb1; have HH := Lib.hid hh; clear hr hb1 hh hw1 hi0 hz0 hz1 hz2; gi_enter Tryz.func120, Tryz.ntmps120
  gi_wp2_with (refine wpListIn_append_eq rfl _ _ 27 3 rfl _ _ rfl rfl _ _ HR.out ?_)
  go_ret; refine ⟨_, rfl, ⟨rfl, .inr ⟨W.heap.size, gc, _, rfl, Nat.le_refl _, HH.out, by omega, hle, ?_, by simp⟩⟩, HB.out⟩; have h1 : (Value.int .i64 0).cells.size = 1 := rfl; rw [Array.size_append, size_zeroCells, size_zeroCells, h1]; omega
theorem yqa {S : List (List Nat)} {k : Nat} (h : k < S.length) : S.take (k + 1) = S.take k ++ [S.getD k []] := by rw [List.take_succ_eq_append_getElem h, List.getD_eq_getElem?_getD, List.getElem?_eq_getElem h]; rfl
theorem yV {S : List (List Nat)} {k : Nat} (h : k < S.length) : (S.take (k + 1)).flatten = (S.take k).flatten ++ S.getD k [] := by rw [yqa h, List.flatten_append]; simp
theorem zWb {S : List (List Nat)} (h : Few S) : ∀ k, k ≤ S.length → (S.take k).flatten.length ≤ k * 9
 | 0, _ => by simp
 | k + 1, hk => by rw [yV (by omega), List.length_append]; have := zWb h k (by omega); have := h.2 k; omega
theorem ints_cells {w : World} {b o : Nat} {x : List Nat} (h : zca w (some ⟨b, o, none⟩) x.length (fun k => ((x.getD k 0 : Nat) : Int))) (j : Nat) (u : Value) (hj : (x.map intV)[j]? = some u) : w.cell? ((⟨b, o, none⟩ : Addr).add j) = some u := by
 have hlt : j < x.length := by have := (List.getElem?_eq_some_iff.1 hj).1; simpa using this
 obtain ⟨b', o', e, hc⟩ := h j hlt; cases e; rw [addr_add, hc]; rw [List.getElem?_map, List.getElem?_eq_getElem hlt] at hj; cases hj; simp [intV, List.getD_eq_getElem?_getD, List.getElem?_eq_getElem hlt]
theorem Concat_any (LA : Option Addr) (lc : Nat) (S : List (List Nat)) (W : World) (hf : Few S) (hpos : ∀ k, k < S.length → 0 < (S.getD k []).length) (hl : Hid (zlc W (.slice LA S.length lc) S)) :
    CallsIn Fc 0 Tryz.prog 72 #[.slice LA S.length lc] W (fun e w' => ∃ v, e = .returned v ∧ ListAt w' W.heap.size v S.flatten ∧ Below W.heap.size W w') := by
  obtain ⟨i0, hi0, hz0, hz1, hz2⟩ := info_parts it3; have HI0 := Lib.hid hi0; have HZ0 := Lib.hid hz0; have HZ1 := Lib.hid hz1; have HZ2 := Lib.hid hz2; clear hi0 hz0 hz1 hz2; obtain ⟨_, _, e, hlc, hr⟩ := hl.out; cases e; have HR := Lib.hid hr; have HF := Lib.hid hf; have HP := Lib.hid hpos; have h9 := hf.1; have hfl := zWb hf S.length (Nat.le_refl _); rw [List.take_length] at hfl; clear hr hl hf hpos; gi_enter Tryz.func72, Tryz.ntmps72; gi_wp2
  gi_loopw [3, 11] (fun t y wr => ∃ k : Nat, k ≤ S.length ∧ t = .int .i64 ((S.take k).flatten.length : Nat) ∧ y = .int .i64 k ∧ wr = W) (fun _ y _ => S.length - (intOf y).toNat)
  case atStart => exact ⟨0, by omega, by simp, rfl, rfl⟩
  case round =>
    obtain ⟨k, hk, rfl, rfl, hwr⟩ := hrel; have hwr' := hwr.symm; subst hwr'; have h81 := zWb HF.out k hk; obtain ⟨t, ht⟩ : ∃ t, (S.take k).flatten.length = t := ⟨_, rfl⟩; rw [ht] at h81 ⊢; have HT := Lib.hid ht; clear ht; by_cases hlt : k < S.length
    · obtain ⟨b1, o1, LX, kx, rfl, q1, hkx, hix⟩ := HR.out k hlt; obtain ⟨x, hx⟩ : ∃ x, S.getD k [] = x := ⟨_, rfl⟩; have hx9 := HF.out.2 k; rw [hx] at q1 hkx hx9; have HX := Lib.hid hx; have hltI : (k : Int) < (S.length : Int) := by omega
      have h99 : k < 99 := by omega
      clear hix hx; have ht81 : t ≤ 81 := by omega
      clear h81; gi_wp2; go_roundw
      case rel => exact ⟨k + 1, by omega, by rw [yV hlt, List.length_append, HT.out, HX.out]; go_num, by go_num, trivial⟩
      case measure => simp [intOf]; omega
    · obtain rfl : k = S.length := by omega
      have hT := HT.out; rw [List.take_length] at hT; have HTT := Lib.hid hT; have ht99 : t ≤ 99 := by omega
      have hltI : ¬ (S.length : Int) < (S.length : Int) := by omega
      clear hT HT h81
      gi_wp2_with (gi_at_call 120; refine (Grow_any t _ ht99).mono ?_; rintro e w1 ⟨v1, rfl, ho1, hb1⟩; have HO1 := Lib.hid ho1; have HB1 := Lib.hid hb1; clear ho1 hb1)
      gi_loopw [6, 27] (fun v y wr => ∃ k : Nat, k ≤ S.length ∧ y = .int .i64 k ∧ ListAt wr W.heap.size v (S.take k).flatten ∧ Below W.heap.size W wr) (fun _ y _ => S.length - (intOf y).toNat)
      case atStart => exact ⟨0, by omega, rfl, HO1.out, HB1.out⟩
      case round =>
        obtain ⟨k, hk, rfl, hla, hbw⟩ := hrel; have h81 := zWb HF.out k hk; have HLA := Lib.hid hla; have HBW := Lib.hid hbw; clear hla hbw; by_cases hlt : k < S.length
        · obtain ⟨b1, o1, LX, kx, rfl, q1, hkx, hix⟩ := HR.out k hlt; have hp := HP.out k hlt; have hfn := yV hlt; obtain ⟨x, hx⟩ : ∃ x, S.getD k [] = x := ⟨_, rfl⟩; have hx9 := HF.out.2 k; rw [hx] at q1 hkx hx9 hix hp hfn; have HFN := Lib.hid hfn; obtain ⟨b2, o2, rfl, _⟩ := hix 0 hp; have hcl := ints_cells (hix.below HBW.out); have HCL := Lib.hid hcl; have q1w := Below.old HBW.out q1; have hltI : (k : Int) < (S.length : Int) := by omega
          have h99 : k < 99 := by omega
          obtain ⟨M, hM⟩ : ∃ M, (S.take k).flatten = M := ⟨_, rfl⟩; have hla : wr.ownsRow W.heap.size 3 1 u6 M.length (M.map intV) := by rw [← hM]; exact HLA.out
          have hM81 : M.length ≤ 81 := by rw [← hM]; omega
          rw [hM] at HFN; have HLA2 := Lib.hid hla; clear hix hx hfn hcl hM h81 hla HLA q1
          gi_wp2_with
            (gi_at_builtin
             refine wpListIn_append_own _ rfl _ _ 27 rfl W.heap.size 3 i0 (.int .i64 0) 1 8 ut27 HI0.out HZ0.out HZ1.out HZ2.out rfl (by decide) u6 M.length (M.map intV) rfl HLA2.out ⟨b2, o2, none⟩ x.length kx (x.map intV) rfl (by simp) HCL.out (by intro u hu; obtain ⟨n, _, rfl⟩ := List.mem_map.1 hu; rfl) (by simp [maxLen]; omega) (by omega) (HBW.out.size) ?_; intro v' w4 hown4 hg4 hnil4; have HO := Lib.hid hown4; have HG := Lib.hid hg4; clear hg4 hnil4 hown4)
          refine ⟨⟨k + 1, by omega, rfl, ?_, HBW.out.grown HG.out HBW.out.size fun g hg => (zfb HLA2.out hg).1⟩, by show S.length - (intOf (Value.int IntKind.i64 ((k : Int) + 1))).toNat < S.length - (intOf (Value.int IntKind.i64 (k : Int))).toNat; simp only [intOf]; omega⟩; rw [HFN.out]; have h := HO.out; show w4.ownsRow W.heap.size 3 1 v' (M ++ x).length ((M ++ x).map intV); rw [List.map_append, List.length_append]; exact h
        · obtain rfl : k = S.length := by omega
          have hltI : ¬ (S.length : Int) < (S.length : Int) := by omega
          have hla := HLA.out; rw [List.take_length] at hla; obtain ⟨F, hF⟩ : ∃ F, S.flatten = F := ⟨_, rfl⟩; rw [hF] at hla; obtain ⟨LV, lv, rfl, hlv, _⟩ := hla.shape; have HLA2 := Lib.hid hla; have HF2 := Lib.hid hF; clear hla HLA h81 hF; gi_wp2; go_ret; rw [HF2.out]; exact ⟨_, rfl, HLA2.out, HBW.out⟩
end
section
open Go.RowKit
theorem yC {n m : Nat} : ∀ (d : Nat) (x y : List Nat), y ∈ loopE n m d x → y.length = m
 | 0, x, y, h => by cases h
 | d + 1, x, y, h => by
  rw [loopE, List.mem_append] at h; rcases h with h | h
  ·split at h
   ·next e => rcases List.mem_singleton.1 h with rfl; rw [List.length_append, List.length_singleton]; exact e
   ·exact yC d _ y h
  ·exact yC d x y h
theorem ysa {n m d : Nat} {x y : List Nat} (h : y ∈ extE n m d x) : y.length = m := by
 unfold extE at h; split at h
 ·next e => rcases List.mem_singleton.1 h with rfl; exact e
 ·exact yC d x y h
theorem yLa {p : List Nat → Prop} {f : List (List Nat) → List Nat → List (List Nat)} : ∀ (X B : List (List Nat)), (∀ B x, x ∈ X → (∀ y, y ∈ B → p y) → ∀ y, y ∈ f B x → p y) → (∀ y, y ∈ B → p y) → ∀ y, y ∈ X.foldl f B → p y
 | [], B, _, hB => hB
 | x :: X, B, hf, hB => yLa X (f B x) (fun B z hz => hf B z (List.mem_cons_of_mem _ hz)) (hf B x (List.mem_cons_self ..) hB)
theorem yM {p : List Nat → Prop} {n : Nat} {O : Nat → List (List Nat)} (hO : ∀ s x, x ∈ O s → p x) : ∀ (d : Nat) (T : Nat → Bool) (S B : List (List Nat)), (∀ y, y ∈ S → p y) → (∀ y, y ∈ B → p y) → ∀ y, y ∈ tryE n O d T S B → p y
 | 0, T, S, B, hS, hB => by
  rw [tryE]; split
  ·exact hS
  ·exact hB
 | d + 1, T, S, B, hS, hB => by
  rw [tryE]; refine yM hO d _ S _ hS ?_; split
  ·exact hB
  ·refine yLa _ B (fun B x hx hB => ?_) hB; split
   ·refine yM hO d _ _ B (fun y hy => ?_) hB; rcases List.mem_append.1 hy with h | h
    ·exact hS y h
    ·rcases List.mem_singleton.1 h with rfl; exact hO _ _ hx
   ·exact hB
theorem evs_fst {M : List (List Nat)} {ev : Nat × Nat} (h : ev ∈ evs M M.length 0) : ev.2 < M.length := by simp only [evs, List.take_zero, List.map_nil, List.append_nil, List.mem_flatMap, List.mem_range, List.mem_map] at h; obtain ⟨k, hk, s, _, rfl⟩ := h; exact hk
theorem yGa {M : List (List Nat)} {s : Nat} {x : List Nat} (h : x ∈ ofE M (evs M M.length 0) s) : x ∈ M := by obtain ⟨ev, he, rfl⟩ := List.mem_map.1 h; have hlt := evs_fst (List.mem_filter.1 he).1; rw [List.getD_eq_getElem?_getD, List.getElem?_eq_getElem hlt]; exact List.getElem_mem hlt
theorem shareL_mem {P : Nat → Int} {n m : Nat} {T : Nat → Bool} {x : List Nat} (h : x ∈ zPb P n m T) : x ∈ setsL P n m :=
 yM (p := fun x => x ∈ setsL P n m) (fun s x hx => yGa hx) n T [] [] (fun y hy => by cases hy) (fun y hy => by cases hy) x h
theorem setsL_mem {P : Nat → Int} {n m : Nat} {x : List Nat} (h : x ∈ setsL P n m) : x ∈ extE n m n [] := (List.mem_filter.1 h).1
theorem shareL_pos {P : Nat → Int} {n m : Nat} {T : Nat → Bool} (hm : 0 < m) (k : Nat) (hk : k < (zPb P n m T).length) : 0 < ((zPb P n m T).getD k []).length := by rw [List.getD_eq_getElem?_getD, List.getElem?_eq_getElem hk]; show 0 < ((zPb P n m T)[k]).length; rw [ysa (setsL_mem (shareL_mem (List.getElem_mem hk)))]; exact hm
noncomputable def zgc (rs rl rw : Int) (sh : Nat → Shaft) (n m : Nat) (T : Nat → Bool) : List (List Nat) := tryE n (fun s => ofE (setsX rs rl rw sh n m) (evs (setsX rs rl rw sh n m) (setsX rs rl rw sh n m).length 0) s) n T [] []
theorem shareL_eq {rs rl rw : Int} {sh : Nat → Shaft} {n m : Nat} {P : Nat → Int} (h : ∀ two one, one < two → two < n → P (one * 9 + two) = pairZ rs rl rw (sh one) (sh two)) (T : Nat → Bool) : zPb P n m T = zgc rs rl rw sh n m T := by
 unfold zPb zgc; have e : zab P n m = fun s => ofE (setsX rs rl rw sh n m) (evs (setsX rs rl rw sh n m) (setsX rs rl rw sh n m).length 0) s := by funext s; unfold zab; rw [yEa h]
 rw [e]
theorem zS.below {w w' : World} {b1 b2 : Nat} {v : Value} {M : List (List Nat)} (h : zS w b1 b2 v M) (hb : Below w.heap.size w w') : zS w' b1 b2 v M :=
 h.keep (fun g hg => hb.block g (h.own hg).2) fun k cs fz hk => hb.block k (Array.getElem?_eq_some_iff.1 hk).1
theorem zS.read {w : World} {b1 b2 : Nat} {v : Value} {S : List (List Nat)} (h : zS w b1 b2 v S) : zlc w v S := by
 obtain ⟨vs, h1, h2⟩ := h; obtain ⟨hl, ⟨rfl, h0⟩ | ⟨g, cap, cur, rfl, hbg, hg, hc, hm, hs, ht⟩⟩ := id h1
 ·refine ⟨none, 0, by rw [h0], by omega, fun k hk => by omega⟩
 ·refine ⟨_, cap, rfl, hc, fun k hk => ?_⟩; obtain ⟨LX, kx, e, q1, q2⟩ := (h2 k hk).shape; refine ⟨g, 0, LX, kx, rfl, ?_, q1, q2⟩; have hv : k < vs.length := by omega
  rw [Nat.zero_add, h1.cellAt k (by omega), ← e, List.getD_eq_getElem?_getD, List.getElem?_eq_getElem hv]; rfl
def leftL (n : Nat) (M : List (List Nat)) : List Nat := (List.range n).filter fun s => decide (s ∉ M.flatten)
def SaysFill (M : List (List Nat)) (L : List Nat) (z : Int) (W : World) (e : Ending) (w' : World) : Prop := ∃ v u, e = .returned (.tuple #[v, u, .int .i64 z]) ∧ zS w' W.heap.size W.heap.size v M ∧ ListAt w' W.heap.size u L ∧ Below W.heap.size W w'
theorem Fill_fair (rs rl rw : Int) (m : Nat) (A : Option Addr) (n c : Nat) (sh : Nat → Shaft) (W : World) (hc : n ≤ c) (hsh : Hid (zA W A n sh)) (hst : zxa rs rl rw m n sh) :
    CallsIn Fc 0 Tryz.prog 25 #[zga rs rl rw m A n c] W (SaysFill (zgc rs rl rw sh n m fun _ => false) (leftL n (zgc rs rl rw sh n m fun _ => false)) 0 W) := by
  obtain ⟨i0, hi0, hz0, hz1, hz2⟩ := info_parts it3; have HI0 := Lib.hid hi0; have HZ0 := Lib.hid hz0; have HZ1 := Lib.hid hz1; have HZ2 := Lib.hid hz2; clear hi0 hz0 hz1 hz2; have hn9 := hst.count; have hm2 := hst.rule.m0; have hB1 : ∀ X Y, Below W.heap.size W ((W.alloc X).alloc Y) := fun X Y => ((Below.refl _ _).alloc (Nat.le_refl _) _).alloc (by simp) _
  have HB1 := Lib.hid hB1; have hck := fun w (hb : Below W.heap.size W w) => yma rs rl rw m A n c sh w hc (Lib.hid hst) (Lib.hid (hsh.out.below hb))
  have HCK := Lib.hid hck; have hcd := fun w (hb : Below W.heap.size W w) => yp rs rl rw m A n c sh w (Lib.hid hst) (Lib.hid (hsh.out.below hb))
  have HCD := Lib.hid hcd; clear hcd hck hst hB1; gi_enter Tryz.func25, Tryz.ntmps25
  gi_wp2_with (first
    | (gi_at_call 56; refine (HCK.out _ (HB1.out _ _)).mono ?_; rintro e w2 ⟨rfl, hb2⟩
       have e0 : w2.cell? ⟨W.heap.size + 1, 0, none⟩ = some (.int .i64 rs) := Below.old hb2 (by go_simp); have e1 : w2.cell? ⟨W.heap.size + 1, 1, none⟩ = some (.int .i64 rl) := Below.old hb2 (by go_simp); have e2 : w2.cell? ⟨W.heap.size + 1, 2, none⟩ = some (.int .i64 rw) := Below.old hb2 (by go_simp); have e3 : w2.cell? ⟨W.heap.size + 1, 3, none⟩ = some (.int .i64 m) := Below.old hb2 (by go_simp); have e4 : w2.cell? ⟨W.heap.size + 1, 4, none⟩ = some (.slice A n c) := Below.old hb2 (by go_simp); have e5 : w2.cell? ⟨W.heap.size, 4, none⟩ = some (.slice A n c) := Below.old hb2 (by go_simp); have HB2 := Lib.hid ((HB1.out _ _).trans (hb2.mono (HB1.out _ _).size)); clear hb2)
    | (gi_at_call 58; refine (HCD.out _ HB2.out).mono ?_; rintro e w7 ⟨P, rfl, hP, hb7⟩; have e7 := Below.old (hb7.mono (Nat.le_refl _)) e5; have HB7 := Lib.hid (HB2.out.trans (hb7.mono HB2.out.size)); have HP := Lib.hid (shareL_eq hP (m := m) fun _ => false); clear hb7 hP e0 e1 e2 e3 e4 e5)
    | (gi_at_call 71; refine (share_any rs rl rw A n c P m (fun _ => false) _ hn9).mono ?_; rintro e w8 ⟨v, rfl, hl, hf, hb8⟩; have e8 := Below.old hb8 e7; have HL := Lib.hid hl; have HF := Lib.hid hf; have HB8 := Lib.hid (HB7.out.trans (hb8.mono HB7.out.size)); clear hb8 hl hf e7))
  have hpos := fun k hk => shareL_pos (P := P) (n := n) (m := m) (T := fun _ => false) (by omega) k hk
  obtain ⟨M, hM⟩ : ∃ M, zPb P n m (fun _ => false) = M := ⟨_, rfl⟩; have hrd := HL.out.read; rw [hM] at hpos hrd HP HL HF; obtain ⟨LA, lc, rfl, hlc, _⟩ := id hrd; have hfl : M.flatten.length ≤ 81 := by have := zWb HF.out M.length (Nat.le_refl _); rw [List.take_length] at this; have := HF.out.1; omega
  refine (Concat_any LA lc M w8 HF.out hpos (Lib.hid hrd)).mono ?_; rintro e w9 ⟨u, rfl, hu, hb9⟩; have e9 := Below.old hb9 e8; obtain ⟨LU, ku, rfl, hku, hiu⟩ := hu.shape; obtain ⟨F, hF⟩ : ∃ F, M.flatten = F := ⟨_, rfl⟩; rw [hF] at hu hku hiu hfl ⊢; have HU := Lib.hid hiu; have HL9 := Lib.hid (HL.out.below hb9); have HB9 := Lib.hid (HB8.out.trans (hb9.mono HB8.out.size)); have HB89 := Lib.hid hb9; have HF2 := Lib.hid hF; have k9 := World.block_lt_of_cell? w9 _ e9; have hcon := fun s (hs : s ≤ 99) w (hw : Below w9.heap.size w9 w) => Contains_any LU ku F s w (by omega) hs hku (Lib.hid (hiu.below hw))
  have HC := Lib.hid hcon; clear hpos hM hrd hu hiu hF hb9 hcon e8; gi_wp2
  gi_loopw [3, 25] (fun lv y wr => ∃ k : Nat, k ≤ n ∧ y = .int .i64 k ∧ ListAt wr w9.heap.size lv ((List.range k).filter fun s => decide (s ∉ F)) ∧ Below w9.heap.size w9 wr) (fun _ y _ => n - (intOf y).toNat)
  case atStart => exact ⟨0, by omega, rfl, ListAt.nil _ _, Below.refl _ _⟩
  case round =>
    obtain ⟨k, hk, rfl, hla, hbw⟩ := hrel; have HLA := Lib.hid hla; have HBW := Lib.hid hbw; clear hla hbw; by_cases hlt : k < n
    · have hltI : (k : Int) < (n : Int) := by omega
      have h99 : k < 9 := by omega
      have hck := HC.out k (by omega) wr HBW.out; have hnext : (List.range (k + 1)).filter (fun s => decide (s ∉ F)) = (List.range k).filter (fun s => decide (s ∉ F)) ++ if k ∈ F then [] else [k] := by rw [List.range_succ, List.filter_append]; by_cases h : k ∈ F <;> simp [h]
      have hlen : ((List.range k).filter fun s => decide (s ∉ F)).length ≤ 9 := Nat.le_trans (List.length_filter_le _ _) (by simp; omega); by_cases hin : k ∈ F
      · rw [show decide (k ∈ F) = true from decide_eq_true hin] at hck; rw [if_pos hin, List.append_nil] at hnext; have HN := Lib.hid hnext; have HCK := Lib.hid hck; clear hnext hck hin hlen
        gi_wp2_with (gi_at_call 73; refine HCK.out.mono ?_; rintro e w6 ⟨rfl, rfl⟩)
        exact ⟨⟨k + 1, by omega, rfl, by rw [HN.out]; exact HLA.out, HBW.out⟩, by show n - (intOf (Value.int IntKind.i64 ((k : Int) + 1))).toNat < n - (intOf (Value.int IntKind.i64 (k : Int))).toNat; simp only [intOf]; omega⟩
      · rw [show decide (k ∈ F) = false from decide_eq_false hin] at hck; rw [if_neg hin] at hnext; have HN := Lib.hid hnext; have HCK := Lib.hid hck; obtain ⟨L, hL⟩ : ∃ L, (List.range k).filter (fun s => decide (s ∉ F)) = L := ⟨_, rfl⟩; rw [hL] at hlen HN; have hla : ∀ X, (wr.alloc X).ownsRow w9.heap.size 3 1 u3 L.length (L.map intV) := fun X => by rw [← hL]; exact zu HLA.out ((Below.refl _ _).alloc (Nat.le_refl _) X)
        have HLA2 := Lib.hid hla; clear hnext hck hin hL hla
        gi_wp2_with (first
          | (gi_at_call 73; refine HCK.out.mono ?_; rintro e w6 ⟨rfl, rfl⟩)
          | (gi_at_builtin
             refine wpListIn_append_own _ rfl _ _ 27 rfl w9.heap.size 3 i0 (.int .i64 0) 1 8 ut27 HI0.out HZ0.out HZ1.out HZ2.out rfl (by decide) u3 L.length (L.map intV) rfl (HLA2.out _) ⟨_, 0, none⟩ 1 1 [.int .i64 (k : Int)] rfl rfl (cells_new _ _ _) (by intro u hu; rcases List.mem_singleton.1 hu with rfl; rfl) (by simp [maxLen]; omega) (by omega) (by have := HBW.out.size; simp; omega) ?_; intro v' w4 hown4 hg4 hnil4; have HO := Lib.hid hown4; have HG := Lib.hid hg4; clear hg4 hnil4 hown4))
        refine ⟨⟨k + 1, by omega, rfl, ?_, (HBW.out.alloc HBW.out.size _).grown HG.out (by have := HBW.out.size; simp; omega) fun g hg => (zfb (HLA2.out (.cells #[.int .i64 (k : Int)] 3)) hg).1⟩, by show n - (intOf (Value.int IntKind.i64 ((k : Int) + 1))).toNat < n - (intOf (Value.int IntKind.i64 (k : Int))).toNat; simp only [intOf]; omega⟩; rw [HN.out]; have h := HO.out; show w4.ownsRow w9.heap.size 3 1 v' (L ++ [k]).length ((L ++ [k]).map intV); rw [List.map_append, List.length_append]; exact h
    · obtain rfl : k = n := by omega
      have hltI : ¬ (k : Int) < (k : Int) := by omega
      gi_wp2; refine bodyPost_ret (results_tmp3 rfl _ _ _) rfl ?_; refine ⟨_, _, rfl, ?_, ?_, HB9.out.trans (HBW.out.mono HB9.out.size)⟩
      · rw [← HP.out]; exact (HL9.out.below HBW.out).mono HB7.out.size HB7.out.size
      · unfold leftL; rw [← HP.out, HF2.out]; exact HLA.out.mono HB9.out.size
end
section
open Go.RowKit
section
variable {rs rl rw many : Int} {n k : Nat} {sh : Nat → Shaft} {z : Int}
end
end
section
open Go.RowKit
end
section
open Go.RowKit
section
variable {F : Fence} {n : Nat} {P : Program} {Post : Act → World → Prop} {a : Act} {w : World} {b : Frame} {k : List Item} {cs : List Frame}
def zJb (Post : Act → World → Prop) : Exit → Act → World → Prop
 | .normal, a, w => Post a w
 | _, _, _ => False
abbrev Comes (F : Fence) (P : Program) (b : Frame) (cs : List Frame) (a : Act) (k : List Item) (w : World) (a' : Act) (k' : List Item) (w' : World) : Prop :=
 StepsIn (Machine.fenced P F) P (lone (b.atR a k) cs w) (lone (b.atR a' k') cs w')
theorem comes_code {c : Code} (h : c.wpIn F n P (zJb Post) a w) (hro : b.roundOf = F.round) (hb : F.fn b.fn) (hr : F.room (cs.length + 1 + n)) :
  ∃ a' w', Post a' w' ∧ Comes F P b cs a (.code c :: k) w a' k w' := by
 obtain ⟨e, a', w', hp, harr⟩ := h b k cs hro hb hr; cases e with
 | normal => exact ⟨a', w', hp, harr⟩
 | _ => exact hp.elim
theorem comes_seq {x y : Code} (hb : F.fn b.fn) (hr : F.room (cs.length + 1 + n)) : Comes F P b cs a (.code (.seq x y) :: k) w a (.code x :: .code y :: k) w :=
 .one (fenced_calm hb hr rfl) stepR_seq
theorem comes_cond {c : Operand} {x y : Code} {t : Bool} (hc : a.eval c = .bool t) (hb : F.fn b.fn) (hr : F.room (cs.length + 1 + n)) : Comes F P b cs a (.code (.cond c x y) :: k) w a (.code (if t then x else y) :: k) w :=
 .one (fenced_calm hb hr rfl) (stepR_cond hc)
theorem comes_region {id : Nat} {ops : Array Oper} (hb : F.fn b.fn) (hr : F.room (cs.length + 1 + n)) : Comes F P b cs a (.code (.region id ops false) :: k) w a (.inRegion ops (List.range ops.size) :: k) w :=
 .one (fenced_calm hb hr rfl) stepR_region
def reckons : Op → Bool
 | .move _ | .assign _ | .pick _ _ _ | .binOp _ _ _ _ _ | .load _ _ | .fieldAddr _ _ _ | .unOp _ _ _ => true
 | .call c => match c.callee with
  | .builtin .len => true
  | _ => false
 | _ => false
theorem reckons_about {o : Oper} (h : reckons o.op = true) (P : Program) (w : World) (ρ : Operand → Value) : o.about P w ρ = none := by
 unfold Oper.about; cases hop : o.op with
 | call c =>
  rw [hop] at h; simp only [reckons] at h; cases hc : c.callee with
  | builtin b => simp [resolve, hc, Target.leads, Sem.run_pure]
  | invoke x y => rw [hc] at h; cases h
  | value f => rw [hc] at h; cases h
 | _ => simp_all [reckons]
theorem zDb {s : Sem Value} {P : Program} {w : World} : (∃ v w', (do let v ← s; pure (Next.value v) : Sem Next).run P w = .ok (.value v) w') ∨ ∃ x w', (do let v ← s; pure (Next.value v) : Sem Next).run P w = .halt x w' := by
 rw [Sem.run_bind]; cases s.run P w with
 | ok v w' => exact .inl ⟨v, w', rfl⟩
 | halt x w' => exact .inr ⟨x, w', rfl⟩
theorem yQ {o : Oper} (h : reckons o.op = true) (P : Program) (w : World) (ρ : Operand → Value) : (∃ v w', (execOp ρ o).run P w = .ok (.value v) w') ∨ ∃ x w', (execOp ρ o).run P w = .halt x w' := by
 cases hop : o.op <;> simp only [hop, reckons] at h <;> try (cases h)
 all_goals unfold execOp; simp only [hop]
 case move x => exact .inl ⟨_, _, rfl⟩
 case assign x => exact .inl ⟨_, _, rfl⟩
 case pick c x y =>
  rw [Sem.run_bind]; cases (asBool (ρ c)).run P w with
  | ok v w' => exact .inl ⟨_, w', rfl⟩
  | halt x w' => exact .inr ⟨x, w', rfl⟩
 case binOp op t x y u => exact zDb
 case load t x => exact zDb
 case fieldAddr t x f => exact zDb
 case unOp o t x => exact zDb
 case call c =>
  cases hc : c.callee with
  | builtin b =>
   rw [hc] at h; cases b with
   | len =>
    have e : (do let d ← resolve ρ c o.type; invoke d.target d.args : Sem Next) = (do let v ← Builtin.len_ c.argTypes o.type (c.args.map ρ); pure (Next.value v) : Sem Next) := by simp [resolve, hc, invoke, builtin]
    rw [e]; exact zDb
   | _ => cases h
  | invoke x y => rw [hc] at h; cases h
  | value f => rw [hc] at h; cases h
theorem comes_pre {ops : Array Oper} (l : List Oper) : ∀ (i : Nat) (rest : List Nat) (a : Act) (w : World), (∀ j, j < l.length → ops[i + j]? = l[j]?) → (l.all fun o => reckons o.op) = true →
  wpListIn F n P ops (zJb Post) l a w → b.roundOf = F.round → F.fn b.fn → F.room (cs.length + 1 + n) →
  ∃ a' w', Post a' w' ∧ Comes F P b cs a (.inRegion ops (List.range' i l.length ++ rest) :: k) w a' (.inRegion ops rest :: k) w' := by
 induction l with
 | nil => exact fun i rest a w _ _ h _ _ _ => ⟨a, w, h, .refl _⟩
 | cons o l ih =>
  intro i rest a w hops hall h hro hb hr; have ho : ops[i]? = some o := by simpa using hops 0 (by simp)
  have hops' : ∀ j, j < l.length → ops[i + 1 + j]? = l[j]? := fun j hj => by have := hops (j + 1) (by simp; omega); simpa [Nat.add_assoc, Nat.add_comm 1 j] using this
  simp only [List.all_cons, Bool.and_eq_true] at hall; have hab : ∀ f, o.about P w a.eval = some f → F.fn f := fun f hf => by rw [reckons_about hall.1] at hf; cases hf
  have h0 : (lone (b.atR a (.inRegion ops (i :: (List.range' (i + 1) l.length ++ rest)) :: k)) cs w).fenced P F := fenced_oper hb hr ho hab; have hfin : ∀ v, (b.atR a (.inRegion ops (i :: (List.range' (i + 1) l.length ++ rest)) :: k)).finish v = b.atR (a.put o.dst v) (.inRegion ops (List.range' (i + 1) l.length ++ rest) :: k) := by intro v; rw [Frame.finish_atR, ho]; rfl
  simp only [wpListIn] at h; rw [List.length_cons, List.range'_succ, List.cons_append]; by_cases hw : Region.wanted o (yielded ops a.tmps) = true
  ·rw [if_pos hw] at h; have h2 := h.2; have hsem : o.semAt F.round a.eval = execOp a.eval o := by
    refine Oper.semAt_eq _ _ _ fun c hc => ?_
    rw [hc] at hall; exact absurd hall.1 (by simp [reckons])
   rw [hsem] at h2; rcases yQ hall.1 P w a.eval with ⟨v, w1, hrun⟩ | ⟨x, w1, hrun⟩
   ·rw [hrun] at h2; obtain ⟨a', w', hp, hs⟩ := ih (i + 1) rest _ _ hops' hall.2 h2 hro hb hr; refine ⟨a', w', hp, .head h0 (step_lone_go ?_) hs⟩; rw [stepGR_op (P := P) ho hw, hro, hsem, ← hfin]; simp [stepG.apply, hrun]
   ·rw [hrun] at h2; cases x with
    | panic v => exact h2.elim
    | _ => exact h2.elim
  ·rw [if_neg hw] at h; obtain ⟨a', w', hp, hs⟩ := ih (i + 1) rest _ _ hops' hall.2 h.2 hro hb hr; have hk := stepR_op_skip (P := P) (b := b) (a := a) (k := k) (cs := cs) (w := w) (ops := ops) (i := i) (rest := List.range' (i + 1) l.length ++ rest) (by simp [ho]; simpa using hw); simp only [ho, Option.bind_some] at hk; exact ⟨a', w', hp, .head h0 hk hs⟩
end
end
section
open Go.RowKit Go.Cx Go.Conc
open Go.ConcR (DC0)
section
variable {F : Fence} {n : Nat} {P : Program} {b : Frame} {cs : List Frame} {S : Act → List Item → World → Prop} {a : Act} {w : World} {k : List Item}
def Reach (F : Fence) (P : Program) (b : Frame) (cs : List Frame) (S : Act → List Item → World → Prop) (a : Act) (k : List Item) (w : World) : Prop :=
 ∃ a' k' w', S a' k' w' ∧ Comes F P b cs a k w a' k' w'
theorem Reach.here (h : S a k w) : Reach F P b cs S a k w := ⟨a, k, w, h, .refl _⟩
theorem zK {x y : Code} (hb : F.fn b.fn) (hr : F.room (cs.length + 1 + n)) (h : Reach F P b cs S a (.code x :: .code y :: k) w) : Reach F P b cs S a (.code (.seq x y) :: k) w := by obtain ⟨a', k', w', h1, h2⟩ := h; exact ⟨a', k', w', h1, (comes_seq hb hr).trans h2⟩
theorem zO {c : Code} (hro : b.roundOf = F.round) (hb : F.fn b.fn) (hr : F.room (cs.length + 1 + n))
  (h : ∀ R : Act → World → Prop, (∀ a' w', Reach F P b cs S a' k w' → R a' w') → c.wpIn F n P (zJb R) a w) : Reach F P b cs S a (.code c :: k) w := by
 obtain ⟨a1, w1, ⟨a', k', w', h1, h2⟩, h3⟩ := comes_code (h (fun a' w' => Reach F P b cs S a' k w') fun a' w' h => h) hro hb hr; exact ⟨a', k', w', h1, h3.trans h2⟩
theorem yda {c : Operand} {x y : Code} (t : Bool) (hc : a.eval c = .bool t) (hb : F.fn b.fn) (hr : F.room (cs.length + 1 + n)) (h : Reach F P b cs S a (.code (if t then x else y) :: k) w) : Reach F P b cs S a (.code (.cond c x y) :: k) w := by obtain ⟨a', k', w', h1, h2⟩ := h; exact ⟨a', k', w', h1, (comes_cond hc hb hr).trans h2⟩
theorem yca (hb : F.fn b.fn) (hr : F.room (cs.length + 1 + n)) (hro : b.roundOf = F.round) (h : Reach F P b cs S a k w) : Reach F P b cs S a (.code .skip :: k) w :=
 zO (n := n) hro hb hr fun R hR => by gi_wp2; exact hR _ _ h
theorem yL {id : Nat} {ops : Array Oper} (hb : F.fn b.fn) (hr : F.room (cs.length + 1 + n)) (h : Reach F P b cs S a (.inRegion ops (List.range ops.size) :: k) w) : Reach F P b cs S a (.code (.region id ops false) :: k) w := by obtain ⟨a', k', w', h1, h2⟩ := h; exact ⟨a', k', w', h1, (comes_region hb hr).trans h2⟩
end
theorem put_same {a : Act} {d : Nat} {v : Value} (h : d < a.tmps.size) : (a.put (some d) v).tmps.getD d undef = v := by simp [Act.put, h]
theorem put_far {a : Act} {d e : Nat} {v : Value} (h : d ≠ e) : (a.put (some d) v).tmps.getD e undef = a.tmps.getD e undef := by simp [Act.put, h]
theorem put_size {a : Act} {d : Nat} {v : Value} : (a.put (some d) v).tmps.size = a.tmps.size := by simp [Act.put]
theorem put_defers {a : Act} {d : Nat} {v : Value} : (a.put (some d) v).defers = a.defers := rfl
abbrev lawFr (f : FuncId) : Frame := { (default : Frame) with fn := f, kind := .normal, roundOf := none }
structure EarlyAt (S : FuncId) (ops : Array Oper) (i j d r : Nat) : Prop where
 o : ∃ o, ops[i]? = some o ∧ o.op = .call { callee := .value (.func S), args := #[], argTypes := #[] } ∧ o.guard = none ∧ o.dst = some d
 p : ∃ o, ops[j]? = some o ∧ o.op = .assign (.tmp d) ∧ o.guard = none ∧ o.dst = some r
structure LateAt (S : FuncId) (ops : Array Oper) (i j1 j2 g c d e r : Nat) : Prop where
 o : ∃ o, ops[i]? = some o ∧ o.op = .call { callee := .value (.func S), args := #[], argTypes := #[] } ∧ o.guard = some (g, true) ∧ o.dst = some d
 g : (ops[g]?).bind (·.dst) = some c
 p : ∃ o, ops[j1]? = some o ∧ o.op = .pick (.tmp c) (.tmp d) (.const (.bool false)) ∧ o.guard = none ∧ o.dst = some e
 q : ∃ o, ops[j2]? = some o ∧ o.op = .assign (.tmp e) ∧ o.guard = none ∧ o.dst = some r
 ne : d ≠ c
inductive zLb (S : FuncId) (r z : Nat) : Act → List Item → Prop where
 | early (a : Act) (k : List Item) (ops : Array Oper) (i j d : Nat) (h : EarlyAt S ops i j d r) (hdz : d < z) (hd : a.defers = []) (hs : a.tmps.size = z) : zLb S r z a (.inRegion ops [i, j] :: .code .ret :: k)
 | late (a : Act) (k : List Item) (ops : Array Oper) (i j1 j2 g c d e : Nat) (h : LateAt S ops i j1 j2 g c d e r) (hdz : d < z) (hez : e < z) (hd : a.defers = []) (hs : a.tmps.size = z) (ht : a.tmps.getD c undef = .bool true) (hcz : c < z) : zLb S r z a (.inRegion ops [i, j1, j2] :: .code .ret :: k)
section
variable {P : Program} {S f : FuncId} {r z : Nat}
theorem call_step {a : Act} {k : List Item} (hS : ∃ fn, P.funcs[S]? = some fn ∧ (fn.name == "runtime.NumGoroutine") = false ∧ fn.body.isNone = false) (h : zLb S r z a k) (w : World) :
  stepG P true (G ((lawFr f).at a k) []) w = .go (G (Frame.enter P S #[] .normal) [(lawFr f).at a k]) w #[] := by
 obtain ⟨fn, hf, hn, hb⟩ := hS; cases h with
 | early k ops i j d h hdz hd hs =>
  obtain ⟨o, ho, hop, hg, hdst⟩ := h.o; have hw : Region.wanted o (yielded ops a.tmps) = true := by simp only [Region.wanted, hg]
  rw [stepG_enter ho hw (by intro h; cases h) (run_call_body hop hf hn hb)]; have : listed P (lawFr f).fn a o w = #[] := by unfold listed; rw [events_call_body hop hf hn hb]; exact seen_none _ _
  rw [this]; simp only [List.map_toArray, List.map_nil]
 | late k ops i j1 j2 g c d e h hdz hez hd hs ht hcz =>
  obtain ⟨o, ho, hop, hg, hdst⟩ := h.o; have hw : Region.wanted o (yielded ops a.tmps) = true := by
   simp only [Region.wanted, hg]; have hgc : a.tmps[c]? = some (.bool true) := by rw [Array.getD_eq_getD_getElem?, Array.getElem?_eq_getElem (by omega)] at ht; rw [Array.getElem?_eq_getElem (by omega)]; simpa using ht
   unfold yielded; rw [h.g]; simp [hgc]
  rw [stepG_enter ho hw (by intro h; cases h) (run_call_body hop hf hn hb)]; have : listed P (lawFr f).fn a o w = #[] := by unfold listed; rw [events_call_body hop hf hn hb]; exact seen_none _ _
  rw [this]; simp only [List.map_toArray, List.map_nil]
theorem zGb {R : World → World → Prop} {Stop : Goroutine → World → Prop} {n : Nat} {g g' : Goroutine} {w : World} (hs : g.status = .running) (h : ∀ w1, stepG P true g w1 = .go g' w1 #[]) (hk : ∀ w1, R w w1 → Goes P true R DC0 Stop n g' w1) :
  Goes P true R DC0 Stop (n + 1) g w := Goes.step hs fun w1 h1 => by
 rw [h w1]; exact ⟨⟨rfl, rfl⟩, hk w1 h1⟩
theorem yK {a : Act} {k : List Item} {ops : Array Oper} {i : Nat} {rest : List Nat} {o : Oper} {x : Operand} (ho : ops[i]? = some o) (hg : o.guard = none) (hop : o.op = .assign x) (w : World) :
  stepG P true (G ((lawFr f).at a (.inRegion ops (i :: rest) :: k)) []) w = .go (G ((lawFr f).at (a.put o.dst (a.eval x)) (.inRegion ops rest :: k)) []) w #[] := by
 have hr : (execOp a.eval o).run P w = .ok (.value (a.eval x)) w := by unfold execOp; simp [hop]
 rw [stepG_value ho (by simp only [Region.wanted, hg]) (by intro h; cases h) hr]; have : listed P (lawFr f).fn a o w = #[] := by unfold listed; rw [show (execOp a.eval o).events P w #[] = #[] by unfold execOp; simp [hop]]; exact seen_none _ _
 rw [this]
theorem step_pickG {a : Act} {k : List Item} {ops : Array Oper} {i : Nat} {rest : List Nat} {o : Oper} {c x y : Operand} (ho : ops[i]? = some o) (hg : o.guard = none) (hop : o.op = .pick c x y) (hc : a.eval c = .bool true) (w : World) :
  stepG P true (G ((lawFr f).at a (.inRegion ops (i :: rest) :: k)) []) w = .go (G ((lawFr f).at (a.put o.dst (a.eval x)) (.inRegion ops rest :: k)) []) w #[] := by
 have hr : (execOp a.eval o).run P w = .ok (.value (a.eval x)) w := by unfold execOp; simp [hop, hc, asBool]
 rw [stepG_value ho (by simp only [Region.wanted, hg]) (by intro h; cases h) hr]; have : listed P (lawFr f).fn a o w = #[] := by unfold listed; rw [show (execOp a.eval o).events P w #[] = #[] by unfold execOp; simp [hop, hc, asBool]]; exact seen_none _ _
 rw [this]
theorem step_doneG {F : FuncId → Prop} {fl : Func} (hF : zfa P F) (hin : F f) (hfl : P.funcs[f]? = some fl) (hres : fl.results = #[.tmp r]) {a : Act} {k : List Item} (hd : a.defers = []) (h4 : a.tmps.getD r undef = .bool true) (w : World) :
  stepG P true (G { (lawFr f).at a (.code .ret :: k) with mode := .returning } []) w = .ended (.done (.bool true)) w #[] := by
 obtain ⟨fn, c, hk⟩ := hF f hin; have hfn : fn = fl := Option.some.inj (hk.at_.symm.trans hfl); have h1 : (results fn a.tmps).run P w = .ok (.bool true) w := by rw [results_tmp (t := r) (by rw [hfn]; exact hres) a.tmps P w, h4]
 have h2 : (results fn a.tmps).events P w #[] = #[] := events_results_tmp (t := r) (by rw [hfn]; exact hres) _ _; have e1 : ∀ (fr : Frame) (z : World), fr.kind = .normal → fr.fn = f → doReturn P true fr [] none (.bool true) z = .ended (.done (.bool true)) z := fun fr z h3 h4 => by simp [doReturn, h3, h4, hk.ini]
 simp only [G, stepG, unwind, Frame.at, hd, hk.at_, Sem.runT_eq, h1, h2]; rw [e1 _ _ rfl rfl]; simp [GStep.after, seen_none]
theorem yfa {F : FuncId → Prop} {fl : Func} (hF : zfa P F) (hin : F f) (hfl : P.funcs[f]? = some fl) (hres : fl.results = #[.tmp r]) {a : Act} {k : List Item} {ops : Array Oper} {w w' : World} (he : Env (OldL w) w w') (hd : a.defers = []) (h4 : a.tmps.getD r undef = .bool true) :
  Goes P true (fun w0 w1 => Env (OldL w) w0 w1) DC0 (AtRet P (fun v w1 => v = .bool true ∧ Env (OldL w) w w1)) 2 (G ((lawFr f).at a (.inRegion ops [] :: .code .ret :: k)) []) w' := by
 refine zGb rfl (fun w1 => stepG_region_end) fun w1 h1 => zGb rfl (fun w1 => stepG_ret') fun w2 h2 => Goes.stop fun w3 h3 => ?_
 exact ⟨rfl, _, step_doneG hF hin hfl hres hd h4 w3, rfl, ((he.trans h1).trans h2).trans h3⟩
theorem after_callG {F : FuncId → Prop} {fl : Func} (hF : zfa P F) (hin : F f) (hfl : P.funcs[f]? = some fl) (hres : fl.results = #[.tmp r]) (hrz : r < z) {a : Act} {k : List Item} (h : zLb S r z a k) {w w' : World} (he : Env (OldL w) w w') :
  Goes P true (fun w0 w1 => Env (OldL w) w0 w1) DC0 (AtRet P (fun v w1 => v = .bool true ∧ Env (OldL w) w w1)) 4 (G (((lawFr f).at a k).finish (.bool true)) []) w' := by
 cases h with
 | early k ops i j d h hdz hd hs =>
  obtain ⟨o, ho, hop, hg, hdst⟩ := h.o; obtain ⟨o2, ho2, hop2, hg2, hdst2⟩ := h.p; rw [Frame.finish_at, ho]; simp only [Option.bind_some, hdst]; refine zGb (g' := G ((lawFr f).at ((a.put (some d) (.bool true)).put (some r) (.bool true)) (.inRegion ops [] :: .code .ret :: k)) []) rfl (fun w1 => ?_) fun w1 h1 => Goes.more (yfa hF hin hfl hres (a := (a.put (some d) (.bool true)).put (some r) (.bool true)) (ops := ops) (k := k) (he.trans h1) (by rw [put_defers, put_defers, hd]) (put_same (by rw [put_size]; omega)))
  have h := yK (P := P) (f := f) (a := a.put (some d) (.bool true)) (k := .code .ret :: k) (ops := ops) (i := j) (rest := []) (x := .tmp d) ho2 hg2 hop2 w1; rw [h, hdst2, show (a.put (some d) (.bool true)).eval (.tmp d) = .bool true from put_same (by omega)]
 | late k ops i j1 j2 g c d e h hdz hez hd hs ht hcz =>
  obtain ⟨o, ho, hop, hg, hdst⟩ := h.o; obtain ⟨o2, ho2, hop2, hg2, hdst2⟩ := h.p; obtain ⟨o3, ho3, hop3, hg3, hdst3⟩ := h.q; rw [Frame.finish_at, ho]; simp only [Option.bind_some, hdst]; refine zGb (g' := G ((lawFr f).at ((a.put (some d) (.bool true)).put (some e) (.bool true)) (.inRegion ops [j2] :: .code .ret :: k)) []) rfl (fun w1 => ?_) fun w1 h1 => ?_
  ·have h := step_pickG (P := P) (f := f) (a := a.put (some d) (.bool true)) (k := .code .ret :: k) (ops := ops) (i := j1) (rest := [j2]) (c := .tmp c) (x := .tmp d) (y := .const (.bool false)) ho2 hg2 hop2 ((put_far h.ne).trans ht) w1; rw [h, hdst2, show (a.put (some d) (.bool true)).eval (.tmp d) = .bool true from put_same (by omega)]
  ·refine zGb (g' := G ((lawFr f).at (((a.put (some d) (.bool true)).put (some e) (.bool true)).put (some r) (.bool true)) (.inRegion ops [] :: .code .ret :: k)) []) rfl (fun w2 => ?_) fun w2 h2 => yfa hF hin hfl hres ((he.trans h1).trans h2) (by rw [put_defers, put_defers, put_defers, hd]) (put_same (by rw [put_size, put_size]; omega))
   have h := yK (P := P) (f := f) (a := (a.put (some d) (.bool true)).put (some e) (.bool true)) (k := .code .ret :: k) (ops := ops) (i := j2) (rest := []) (x := .tmp e) ho3 hg3 hop3 w2; rw [h, hdst3, show ((a.put (some d) (.bool true)).put (some e) (.bool true)).eval (.tmp e) = .bool true from put_same (by rw [put_size]; omega)]
end
end
section
open Go.RowKit
end
section
open Go.RowKit
section
variable (sh : Nat → Shaft) (l : Nat → Nat)
end
end
section
open Go.RowKit
section
variable {F : Fence} {n : Nat} {P : Program} {ops : Array Oper} {Q : Exit → Act → World → Prop}
end
end
section
open Go.RowKit Go.Cx Go.Conc
end
section
open Go.RowKit Go.Cx Go.Conc
end
section
open Go.RowKit
section
variable (rs rl rw many : Int) (n : Nat) (sh : Nat → Shaft) (k m x0 x1 : Int)
end
section
variable {rs rl rw many : Int} {n : Nat} {sh : Nat → Shaft} {k m x0 x1 : Int}
end
end
section
open Go.RowKit
section
variable (rs rl rw many : Int) (A : Option Addr) (n c : Nat) (k m x0 x1 : Int) (F : Nat → Int)
end
end
section
open Go.RowKit
end
section
open Go.RowKit
end
section
open Go.RowKit
theorem yS {n m : Nat} : ∀ (d : Nat) (x : List Nat) (a : Nat) (z : List Nat), d ≤ n → (a :: z).Pairwise (· < ·) → (∀ k, k ∈ a :: z → k < n) → n - d ≤ a → (x ++ a :: z).length = m → x ++ a :: z ∈ loopE n m d x
 | 0, x, a, z, hd, hp, hlt, ha, hm => by have := hlt a (List.mem_cons_self ..); omega
 | d + 1, x, a, z, hd, hp, hlt, ha, hm => by
  rw [loopE, List.mem_append]; have han := hlt a (List.mem_cons_self ..); rw [List.length_append, List.length_cons] at hm; by_cases e : a = n - (d + 1)
  ·refine .inl ?_; rw [← e]; cases z with
   | nil => rw [if_pos (by simpa using hm)]; exact List.mem_singleton.2 rfl
   | cons b z => rw [if_neg (by simp at hm; omega)]; have hab : a < b := (List.pairwise_cons.1 hp).1 b (List.mem_cons_self ..); have h := yS (n := n) (m := m) d (x ++ [a]) b z (by omega) (List.pairwise_cons.1 hp).2 (fun k hk => hlt k (List.mem_cons_of_mem _ hk)) (by omega) (by simp at hm ⊢; omega); rw [List.append_assoc] at h; exact h
  ·exact .inr (yS d x a z (by omega) hp hlt (by omega) (by rw [List.length_append, List.length_cons]; exact hm))
theorem extE_has {n m : Nat} {x : List Nat} (hp : x.Pairwise (· < ·)) (hlt : ∀ k, k ∈ x → k < n) (hm : x.length = m) : x ∈ extE n m n [] := by
 unfold extE; cases x with
 | nil => rw [if_pos (by simpa using hm)]; exact List.mem_singleton.2 rfl
 | cons a z => rw [if_neg (by simp at hm ⊢; omega)]; exact yS n [] a z (Nat.le_refl _) hp hlt (by omega) hm
theorem yl {n m : Nat} : ∀ (d : Nat) (x y : List Nat), y ∈ loopE n m d x → ∃ b z, y = x ++ b :: z ∧ n - d ≤ b
 | 0, x, y, h => by cases h
 | d + 1, x, y, h => by
  rw [loopE, List.mem_append] at h; rcases h with h | h
  ·split at h
   ·rcases List.mem_singleton.1 h with rfl; exact ⟨n - (d + 1), [], rfl, Nat.le_refl _⟩
   ·obtain ⟨b, z, rfl, _⟩ := yl d _ y h; exact ⟨n - (d + 1), b :: z, by rw [List.append_assoc]; rfl, Nat.le_refl _⟩
  ·obtain ⟨b, z, rfl, hb⟩ := yl d x y h; exact ⟨b, z, rfl, by omega⟩
theorem loopE_first {n m d : Nat} {x y : List Nat} (h : y ∈ (if x.length + 1 = m then [x ++ [n - (d + 1)]] else loopE n m d (x ++ [n - (d + 1)]))) : ∃ z, y = x ++ (n - (d + 1)) :: z := by
 split at h
 ·rcases List.mem_singleton.1 h with rfl; exact ⟨[], rfl⟩
 ·obtain ⟨b, z, rfl, _⟩ := yl d _ y h; exact ⟨b :: z, by rw [List.append_assoc]; rfl⟩
theorem yYa {a b : Nat} {z z' : List Nat} (h : a < b) : ∀ x : List Nat, cmpL (x ++ a :: z) (x ++ b :: z') = -1
 | [] => by show cmpL (a :: z) (b :: z') = -1; rw [cmpL, if_pos h]
 | c :: x => by show cmpL (c :: (x ++ a :: z)) (c :: (x ++ b :: z')) = -1; rw [cmpL, if_neg (by omega), if_neg (by omega)]; exact yYa h x
theorem yj {n m : Nat} : ∀ (d : Nat) (x : List Nat), d ≤ n → (loopE n m d x).Pairwise fun a b => cmpL a b = -1
 | 0, x, _ => List.Pairwise.nil
 | d + 1, x, hd => by
  rw [loopE, List.pairwise_append]; refine ⟨?_, yj d x (by omega), fun a ha b hb => ?_⟩
  ·split
   ·exact List.pairwise_singleton _ _
   ·exact yj d _ (by omega)
  ·obtain ⟨z, rfl⟩ := loopE_first ha; obtain ⟨c, z', rfl, hc⟩ := yl d x b hb; exact yYa (by omega) x
theorem extE_sorted {n m : Nat} : (extE n m n []).Pairwise fun a b => cmpL a b = -1 := by
 unfold extE; split
 ·exact List.pairwise_singleton _ _
 ·exact yj n [] (Nat.le_refl _)
theorem setsX_sorted (rs rl rw : Int) (sh : Nat → Shaft) (n m : Nat) : (setsX rs rl rw sh n m).Pairwise fun a b => cmpL a b = -1 := extE_sorted.filter _
theorem setsX_iff {rs rl rw : Int} {sh : Nat → Shaft} {n m : Nat} {x : List Nat} : x ∈ setsX rs rl rw sh n m ↔ x.Pairwise (· < ·) ∧ (∀ k, k ∈ x → k < n) ∧ x.length = m ∧ zoc rs rl rw sh (fun k => x.getD k 0) x.length = 1 := by
 unfold setsX; rw [List.mem_filter]; constructor
 ·rintro ⟨h1, h2⟩; exact ⟨yNa h1, yxa h1, ysa h1, by simpa using h2⟩
 ·rintro ⟨h1, h2, h3, h4⟩; exact ⟨extE_has h1 h2 h3, by simpa using h4⟩
theorem shareX_mem {rs rl rw : Int} {sh : Nat → Shaft} {n m : Nat} {T : Nat → Bool} {x : List Nat} (h : x ∈ zgc rs rl rw sh n m T) : x ∈ setsX rs rl rw sh n m :=
 yM (p := fun x => x ∈ setsX rs rl rw sh n m) (fun s x hx => yGa hx) n T [] [] (fun y hy => by cases hy) (fun y hy => by cases hy) x h
end
end Go.Proofs.YtpdmgecbapmgdaaGreat
