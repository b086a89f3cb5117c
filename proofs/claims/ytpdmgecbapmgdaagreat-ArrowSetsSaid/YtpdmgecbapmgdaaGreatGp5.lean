/- A part of the proof that ArrowSets returns true for every input: no further condition. -/
import Derived.Test.YtpdmgecbapmgdaaGreatGp4
import Derived.Test.YtpdmgecbapmgdaaGreatGp2
import Derived.Stop.RegionWithIn
import Derived.Laws.Rows
import Derived.Maps.OwnIn
import Derived.Lib.SliceRun
set_option linter.unusedSimpArgs false
set_option linter.unusedVariables false
set_option maxHeartbeats 4000000
set_option maxRecDepth 100000
namespace Go.Proofs.YtpdmgecbapmgdaaGreat
section
open Go.RowKit
theorem yyb{n m:Nat}:∀(d:Nat) (x y:List Nat),d≤n→(∀ a,a∈x→a<n)→y∈loopE n m d x→∀ a,a∈y→a<n
 |0,x,y,_,_,h=>by cases h
 |d+1,x,y,hd,hx,h=>by
  have hx1:∀ a,a∈x++[n-(d+1)]→a<n:=fun a ha=>by
   rcases List.mem_append.1 ha with h|h
   ·exact hx a h
   ·rcases List.mem_singleton.1 h with rfl;omega
  rw[loopE,List.mem_append] at h;rcases h with h|h
  ·split at h
   ·rcases List.mem_singleton.1 h with rfl;exact hx1
   ·exact yyb d _ y (by omega) hx1 h
  ·exact yyb d x y (by omega) hx h
theorem ycc{n m:Nat}{y:List Nat}(h:y∈extE n m n []):∀ a,a∈y→a<n:=by
 unfold extE at h;split at h
 ·rcases List.mem_singleton.1 h with rfl;intro a ha;cases ha
 ·exact yyb n [] y (Nat.le_refl _) (fun a ha=>by cases ha) h
theorem setsL_lt{P:Nat→Int}{n m:Nat}(hn:n≤9)(k j:Nat)(hj:j<((setsL P n m).getD k []).length):((setsL P n m).getD k []).getD j 0<9:=by
 obtain⟨y,hy⟩:∃ y,(setsL P n m).getD k []=y:=⟨_,rfl⟩;rw[hy] at hj ⊢;rw[List.getD_eq_getElem?_getD] at hy;cases h:(setsL P n m)[k]? with
 |none=>rw[h] at hy;subst hy;simp at hj
 |some z=>rw[h] at hy;have hyz:z=y:=hy;subst hyz;have hm:z∈extE n m n []:=(List.mem_filter.1 (List.mem_of_getElem? h)).1;have:z[j]<n:=ycc hm _ (List.getElem_mem hj);rw[List.getD_eq_getElem?_getD,List.getElem?_eq_getElem hj];show z[j]<9;omega
theorem yLc{p:List Nat→Prop}{M:List (List Nat)}{E:Evs}{s:Nat}(h0:p [])(h:∀ k,p (M.getD k []))(k:Nat):p ((ofE M E s).getD k []):=by
 rw[List.getD_eq_getElem?_getD];cases e:(ofE M E s)[k]? with
 |none=>exact h0
 |some y=>obtain⟨ev,_,rfl⟩:=List.mem_map.1 (List.mem_of_getElem? e);exact h _
def zab(P:Nat→Int)(n m:Nat)(s:Nat):List (List Nat):=ofE (setsL P n m) (evs (setsL P n m) (setsL P n m).length 0) s
theorem setsOfL_few{P:Nat→Int}{n m:Nat}(hn:n≤9)(s:Nat):(zab P n m s).length≤5000∧(∀ k,((zab P n m s).getD k []).length≤9)∧∀ k j,j<((zab P n m s).getD k []).length→((zab P n m s).getD k []).getD j 0<9:=by
 refine⟨?_,?_,?_⟩
 ·have h1:=ydc (M:=setsL P n m) (N:=512) (B:=9) (zBb hn) (zcb hn) (setsL P n m).length;have h2:=yKc (setsL P n m) (evs (setsL P n m) (setsL P n m).length 0) s;have h3:=zBb (P:=P) (m:=m) hn;unfold zab;omega
 ·exact yLc (p:=fun y=>y.length≤9) (by simp) (zcb hn)
 ·exact yLc (p:=fun y=>∀ j,j<y.length→y.getD j 0<9) (by simp) (setsL_lt hn)
def zPb(P:Nat→Int)(n m:Nat)(T:Nat→Bool):List (List Nat):=tryE n (zab P n m) n T [] []
def SaysShare(M:List (List Nat))(W:World)(e:Ending)(w':World):Prop:=∃ v,e=.returned v∧zS w' W.heap.size W.heap.size v M∧Few M∧Below W.heap.size W w'
def shareW(w3:World)(b0 r:Nat):World:=((w3.alloc (.cells #[.map (some r)] 161)).alloc (.cells #[.slice none 0 0] 40)).alloc (.cells #[.func (.func 115) #[] #[ptr b0,ptr (w3.heap.size+1),ptr w3.heap.size,ptr (w3.heap.size+1+1)]] 163)
theorem few_nil:Few []:=⟨by simp,fun k=>by simp⟩
theorem share_call{rs rl rw:Int}{A:Option Addr}{n c r:Nat}{P:Nat→Int}{m b0 z:Nat}{T:Nat→Bool}{w3:World}{l:Ents}(hn:n≤9)(hck:w3.heap[b0]? = some (.cells (ckCells rs rl rw m A n c P) 106 (0,0)))(hm:MapAt w3 r l)(hs:∀ s,zS w3 z z (valAt l s) (zab P n m s)) :
  CallsIn Fc 0 Tryz.prog 115 #[.int .i64 0,.agg (tkCells T),.slice none 0 0,ptr b0,ptr (w3.heap.size+1),ptr w3.heap.size,ptr (w3.heap.size+1+1)] (shareW w3 b0 r) (zkc (shareW w3 b0 r) z (w3.heap.size+1) (shareW w3 b0 r) (.slice none 0 0) [] (.slice none 0 0) (zPb P n m T)):=by
 have hsz:(shareW w3 b0 r).heap.size=w3.heap.size+3:=by simp[shareW]
 have hb:Below w3.heap.size w3 (shareW w3 b0 r):=(((Below.refl _ _).alloc (Nat.le_refl _) _).alloc (by simp) _).alloc (by simp;omega) _;have hlt:=(Array.getElem?_eq_some_iff.1 hck).1;have hbb:(shareW w3 b0 r).heap[w3.heap.size+1]? = some (.cells #[.slice none 0 0] 40 (0,0)):=zp (zG (by simp));have hbo:(shareW w3 b0 r).heap[w3.heap.size]? = some (.cells #[.map (some r)] 161 (0,0)):=zp (zp (zG rfl));have hbt:(shareW w3 b0 r).heap[w3.heap.size+1+1]? = some (.cells #[.func (.func 115) #[] #[ptr b0,ptr (w3.heap.size+1),ptr w3.heap.size,ptr (w3.heap.size+1+1)]] 163 (0,0)):=zG (by simp);have hE:zbc (shareW w3 b0 r) z z b0 (w3.heap.size+1) w3.heap.size (w3.heap.size+1+1) r n c A l (zab P n m):=by
  refine⟨zVa ((hb.block _ hlt).trans hck) (i:=4) (by decide),by simp[World.cell?,hbo],by simp[World.cell?,hbt],⟨_,hbb⟩,?_,fun s=>?_,setsOfL_few hn,by omega,by omega,by omega⟩
  ·obtain⟨cl,h⟩:=hm;exact⟨cl,(hb.block _ (Array.getElem?_eq_some_iff.1 h).1).trans h⟩
  ·exact(hs s).keep (fun g hg=>hb.block _ ((hs s).own hg).2) fun k cs fz hc=>hb.block _ (Array.getElem?_eq_some_iff.1 hc).1
 exact yFc hn (Lib.hid hE) (by omega) n 0 0 T _ _ [] [] _ rfl (by omega) (by omega) (by simp) ⟨Kept.refl _ _ _,⟨hbb,Row.nil _ _ _⟩,⟨few_nil,few_nil⟩,Row.nil _ _ _,fun g hg=>by cases hg⟩
theorem yHb(rs rl rw:Int)(A:Option Addr)(n c:Nat)(P:Nat→Int)(m:Nat)(T:Nat→Bool)(W:World)(hn:n≤9) :
  CallsIn Fc 0 Tryz.prog 71 #[.agg (ckCells rs rl rw m A n c P),.agg (tkCells T)] W (SaysShare (zPb P n m T) W):=by
 have hset:=setsOf_any rs rl rw A n c P m ((W.alloc (.cells (ckCells rs rl rw m A n c P) 106)).alloc (.cells (tkCells T) 127)) hn;have hk0:((W.alloc (.cells (ckCells rs rl rw m A n c P) 106)).alloc (.cells (tkCells T) 127)).heap[W.heap.size]? = some (.cells (ckCells rs rl rw m A n c P) 106 (0,0)):=zp (zG rfl);have hk1:((W.alloc (.cells (ckCells rs rl rw m A n c P) 106)).alloc (.cells (tkCells T) 127)).heap[W.heap.size+1]? = some (.cells (tkCells T) 127 (0,0)):=zG (by simp);have hb0:Below W.heap.size W ((W.alloc (.cells (ckCells rs rl rw m A n c P) 106)).alloc (.cells (tkCells T) 127)):=((Below.refl _ _).alloc (Nat.le_refl _) _).alloc (by simp) _;have hs0:((W.alloc (.cells (ckCells rs rl rw m A n c P) 106)).alloc (.cells (tkCells T) 127)).heap.size=W.heap.size+2:=by simp
 have HSET:=Lib.hid hset;have HK0:=Lib.hid hk0;have HK1:=Lib.hid hk1;have HB0:=Lib.hid hb0;have HS0:=Lib.hid hs0;clear hset hk0 hk1 hb0 hs0;gi_enter Tryz.func71,Tryz.ntmps71
 gi_wp2_with (first
  |(refine zW rfl _ rfl _ _ rfl HK0.out (ck_size _ _ _ _ _ _ _ _) ?_)
  |(refine zV rfl _ rfl _ _ rfl (HK5.out _ _ _) rfl ?_)
  |(gi_at_call 114;refine HSET.out.mono ?_;rintro e w3 ⟨r,l,rfl,h1,h2,h3⟩;have hk5:∀ X Y Z,(((w3.alloc X).alloc Y).alloc Z).heap[W.heap.size+1]? = some (.cells (tkCells T) 127 (0,0)):=fun X Y Z=>zp (zp (zp ((h3.block _ (by rw[HS0.out];omega)).trans HK1.out)));have HK5:=Lib.hid (fun X Y Z=>hk5 X Y Z);have H1:=Lib.hid h1;have H2:=Lib.hid h2;have H3:=Lib.hid h3;clear h1 h2 h3 hk5))
 have hz3:=H3.out.size;rw[HS0.out] at hz3;have hcall:=share_call (rs:=rs) (rl:=rl) (rw:=rw) (A:=A) (c:=c) (T:=T) (b0:=W.heap.size) hn ((H3.out.block _ (by rw[HS0.out];omega)).trans HK0.out) H1.out H2.out;refine hcall.mono ?_;rintro e w9 ⟨rfl,h9⟩;obtain⟨bv,⟨hbest,hrow⟩,_⟩:=h9.best;obtain⟨LB,kb,rfl⟩:=zeb hrow.choose_spec.1;have q9:w9.cell? ⟨w3.heap.size+1,0,none⟩=some (.slice LB (zPb P n m T).length kb):=by simp[World.cell?,hbest]
 have HROW:=Lib.hid hrow;have H9:=Lib.hid h9;clear hbest hrow h9 hcall;gi_wp2;go_ret;have hk:=H9.out.kept;have hb3:=H3.out;have hb0:=HB0.out;have hs0:=HS0.out;have hsz:(shareW w3 W.heap.size r).heap.size=w3.heap.size+3:=by simp[shareW]
 have hb:Below w3.heap.size w3 (shareW w3 W.heap.size r):=(((Below.refl _ _).alloc (Nat.le_refl _) _).alloc (by simp) _).alloc (by simp;omega) _;have hbb:(shareW w3 W.heap.size r).heap[w3.heap.size+1]? = some (.cells #[.slice none 0 0] 40 (0,0)):=zp (zG (by simp));refine⟨_,rfl,?_,H9.out.few,?_⟩
 ·obtain⟨vs,h1,h2⟩:=HROW.out;refine⟨vs,?_,fun k hk'=>(Old.list (w0:=shareW w3 W.heap.size r) hk hbb (h2 k hk')).mono (by omega)⟩;obtain⟨q1,q2|⟨g',c',r',e,q3,q4⟩⟩:=h1
  ·exact⟨q1,.inl q2⟩
  ·exact⟨q1,.inr ⟨g',c',r',e,by omega,q4⟩⟩
 ·have z1:=hk.size;refine⟨hk.os.trans (hb.os.trans (hb3.os.trans hb0.os)),hk.tape.trans (hb.tape.trans (hb3.tape.trans hb0.tape)),hk.output.trans (hb.output.trans (hb3.output.trans hb0.output)),by omega,fun k hlt=>?_⟩;exact(hk.block k (by omega) (by simp;omega) (by intro e;cases e)).trans ((hb.block k (by omega)).trans ((hb3.block k (by omega)).trans (hb0.block k hlt)))
end
section
open Go.RowKit
end
section
open Go.RowKit
end
section
open Go.RowKit
theorem bothZ_two(a b:Int):bothZ a b=2↔a=2∨b=2:=by
 unfold bothZ;by_cases h:a=2∨b=2
 ·simp[h]
 ·rw[if_neg h];constructor
  ·intro h';split at h'<;>omega
  ·intro h';exact absurd h' h
theorem bothZ_one(a b:Int):bothZ a b=1↔a=1∧b=1:=by
 unfold bothZ;by_cases h:a=2∨b=2
 ·rw[if_pos h];omega
 ·rw[if_neg h];by_cases h1:a=1∧b=1
  ·simp[h1]
  ·rw[if_neg h1];constructor
   ·intro h';omega
   ·intro h';exact absurd h' h1
theorem bothZ_range(a b:Int):bothZ a b=0∨bothZ a b=1∨bothZ a b=2:=by
 unfold bothZ;split
 ·exact .inr (.inr rfl)
 ·split
  ·exact .inr (.inl rfl)
  ·exact .inl rfl
theorem rowZ_two(T:Nat→Nat→Int)(l:Nat→Nat)(i:Nat)(s:Int):∀ j,rowZ T l i j s=2↔s=2∨∃ k,k<j∧T (l k) (l i)=2
 |0=>by simp[rowZ]
 |j+1=>by
  rw[rowZ,bothZ_two,rowZ_two T l i s j];constructor
  ·rintro((h|⟨k,h1,h2⟩)|h)
   ·exact .inl h
   ·exact .inr ⟨k,by omega,h2⟩
   ·exact .inr ⟨j,by omega,h⟩
  ·rintro(h|⟨k,h1,h2⟩)
   ·exact .inl (.inl h)
   ·rcases Nat.lt_succ_iff_lt_or_eq.1 h1 with h1|rfl
    ·exact .inl (.inr ⟨k,h1,h2⟩)
    ·exact .inr h2
theorem rowZ_one(T:Nat→Nat→Int)(l:Nat→Nat)(i:Nat)(s:Int):∀ j,rowZ T l i j s=1↔s=1∧∀ k,k<j→T (l k) (l i)=1
 |0=>by simp[rowZ]
 |j+1=>by
  rw[rowZ,bothZ_one,rowZ_one T l i s j];constructor
  ·rintro⟨⟨h,h1⟩,h2⟩;refine⟨h,fun k hk=>?_⟩;rcases Nat.lt_succ_iff_lt_or_eq.1 hk with hk|rfl
   ·exact h1 k hk
   ·exact h2
  ·rintro⟨h,h1⟩;exact⟨⟨h,fun k hk=>h1 k (by omega)⟩,h1 j (by omega)⟩
theorem rowZ_range(T:Nat→Nat→Int)(l:Nat→Nat)(i:Nat)(s:Int)(hs:s=0∨s=1∨s=2):∀ j,rowZ T l i j s=0∨rowZ T l i j s=1∨rowZ T l i j s=2
 |0=>hs
 |j+1=>bothZ_range _ _
theorem yTa(T:Nat→Nat→Int)(l:Nat→Nat):∀ m,listZ T l m=0∨listZ T l m=1∨listZ T l m=2
 |0=>.inr (.inl rfl)
 |m+1=>rowZ_range T l m _ (yTa T l m) m
theorem listZ_two(T:Nat→Nat→Int)(l:Nat→Nat):∀ m,listZ T l m=2↔∃ j i,j<i∧i<m∧T (l j) (l i)=2
 |0=>by simp[listZ]
 |m+1=>by
  rw[listZ,rowZ_two,listZ_two T l m];constructor
  ·rintro(⟨j,i,h1,h2,h3⟩|⟨k,h1,h2⟩)
   ·exact⟨j,i,h1,by omega,h3⟩
   ·exact⟨k,m,h1,by omega,h2⟩
  ·rintro⟨j,i,h1,h2,h3⟩;rcases Nat.lt_succ_iff_lt_or_eq.1 h2 with h2|rfl
   ·exact .inl ⟨j,i,h1,h2,h3⟩
   ·exact .inr ⟨j,h1,h3⟩
theorem listZ_one(T:Nat→Nat→Int)(l:Nat→Nat):∀ m,listZ T l m=1↔∀ j i,j<i→i<m→T (l j) (l i)=1
 |0=>by simp[listZ]
 |m+1=>by
  rw[listZ,rowZ_one,listZ_one T l m];constructor
  ·rintro⟨h1,h2⟩ j i hj hi;rcases Nat.lt_succ_iff_lt_or_eq.1 hi with hi|rfl
   ·exact h1 j i hj hi
   ·exact h2 j hj
  ·intro h;exact⟨fun j i hj hi=>h j i hj (by omega),fun k hk=>h k m hk (by omega)⟩
end
section
open Go.RowKit
theorem yMb(rs rl rw:Int)(x y:Shaft):pairZ rs rl rw x y=1↔∀ m,m<3→nearOf rs rl rw x y m=1:=by
 unfold pairZ;simp only[upTo,bothZ_one];constructor
 ·rintro⟨⟨⟨_,h0⟩,h1⟩,h2⟩ m hm;have h3:m=0∨m=1∨m=2:=by omega
  rcases h3 with rfl|rfl|rfl<;>assumption
 ·intro h;exact⟨⟨⟨trivial,h 0 (by omega)⟩,h 1 (by omega)⟩,h 2 (by omega)⟩
theorem yLb(rs rl rw:Int)(x y:Shaft):pairZ rs rl rw x y=2↔∃ m,m<3∧nearOf rs rl rw x y m=2:=by
 unfold pairZ;simp only[upTo,bothZ_two];constructor
 ·rintro(((h|h)|h)|h)
  ·omega
  ·exact⟨0,by omega,h⟩
  ·exact⟨1,by omega,h⟩
  ·exact⟨2,by omega,h⟩
 ·rintro⟨m,hm,h⟩;have h3:m=0∨m=1∨m=2:=by omega
  rcases h3 with rfl|rfl|rfl
  ·exact .inl (.inl (.inr h))
  ·exact .inl (.inr h)
  ·exact .inr h
structure SpansOk(x:Shaft):Prop where
 least:∀ m,m<3→0≤spanA x m
 up:∀ m,m<3→spanA x m≤spanB x m
 most:∀ m,m<3→spanB x m≤9999
theorem yBb.spans{x:Shaft}(h:yBb x):SpansOk x where
 least:=fun m hm=>by
  have h3:m=0∨m=1∨m=2:=by omega
  rcases h3 with rfl|rfl|rfl
  ·exact h.s0
  ·exact h.l0
  ·exact h.w0
 up:=fun m hm=>by
  have h3:m=0∨m=1∨m=2:=by omega
  rcases h3 with rfl|rfl|rfl
  ·exact h.s1
  ·exact h.l1
  ·exact h.w1
 most:=fun m hm=>by
  have h3:m=0∨m=1∨m=2:=by omega
  rcases h3 with rfl|rfl|rfl
  ·exact h.s2
  ·exact h.l2
  ·exact h.w2
section
variable {rs rl rw many:Int}{n m:Nat}{sh:Nat→Shaft}{l:Nat→Nat}{R:Nat→Nat→Int}
theorem matchZ_one:zoc rs rl rw sh l m=1↔∀ j i,j<i→i<m→∀ w,w<3→nearOf rs rl rw (sh (l j)) (sh (l i)) w=1:=by unfold zoc;rw[listZ_one];exact⟨fun h j i h1 h2=>(yMb ..).1 (h j i h1 h2),fun h j i h1 h2=>(yMb ..).2 (h j i h1 h2)⟩
theorem ykb:zoc rs rl rw sh l m=2↔∃ j i,j<i∧i<m∧∃ w,w<3∧nearOf rs rl rw (sh (l j)) (sh (l i)) w=2:=by
 unfold zoc;rw[listZ_two];constructor
 ·rintro⟨j,i,h1,h2,h3⟩;exact⟨j,i,h1,h2,(yLb ..).1 h3⟩
 ·rintro⟨j,i,h1,h2,h3⟩;exact⟨j,i,h1,h2,(yLb ..).2 h3⟩
theorem matchZ_range(rs rl rw:Int)(sh:Nat→Shaft)(l:Nat→Nat)(m:Nat):zoc rs rl rw sh l m=0∨zoc rs rl rw sh l m=1∨zoc rs rl rw sh l m=2:=yTa ..
end
end
section
open Go.RowKit
abbrev spanV(u v:Int):Value:=.agg #[.int .i64 u,.int .i64 v]
def SaysSpan(u v:Int)(w:World)(e:Ending)(w':World):Prop:=e=.returned (.agg #[.int .i64 u,.int .i64 v])∧Below w.heap.size w w'
theorem u52:(match Tryz.prog.underlying 52 with|some (.struct _)=>true|_=>false)=true:=by kernel_rfl
theorem i52:(Tryz.prog.info? 52).map (·.size)=some 2:=by kernel_rfl
theorem results_span{fn:Func}{tmps:Array Value}{w:World}{g:Nat}{u v:Int}(h:fn.results=#[.cell 4 52])(ht:tmps.getD 4 undef=.pointer (some ⟨g,0,none⟩))(hb:zI w g u v):(results fn tmps).run Tryz.prog w=.ok (spanV u v) w:=by
 have e:=u52;split at e
 ·next fs hu=>exact results_cell_row h tmps w g 52 _ (0,0) (.struct fs) ht hb hu rfl i52
 ·cases e
theorem span_new(w:World)(u v:Int):zI (w.alloc (.cells #[.int .i64 u,.int .i64 v] 52)) w.heap.size u v:=by unfold zI;exact heap_alloc_new _ _
theorem span_mid(w:World)(A C:Obj)(u v:Int):zI (((w.alloc A).alloc (.cells #[.int .i64 u,.int .i64 v] 52)).alloc C) (w.heap.size+1) u v:=by have h:=(span_new (w.alloc A) u v).below ((Below.refl _ _).alloc (Nat.le_refl _) C);simpa using h
theorem yEa(x:Shaft)(m:Nat)(hm:m<3)(w:World):CallsIn Fc 0 Tryz.prog 36 #[yJb x,.int .i64 m] w (SaysSpan (spanA x m) (spanB x m) w):=by
 have h3:m=0∨m=1∨m=2:=by omega
 rcases h3 with rfl|rfl|rfl
 all_goals
  gi_enter Tryz.func36,Tryz.ntmps36;gi_wp2;refine bodyPost_ret (v:=spanV _ _) (results_span rfl rfl (span_mid _ _ _ _ _)) rfl ?_;exact⟨rfl,(((Below.refl _ _).alloc (Nat.le_refl _) _).alloc (by simp) _).alloc (by simp;omega) _⟩
theorem Allowed_any(rs rl rw many:Int)(m:Nat)(hm:m<3)(w:World):CallsIn Fc 0 Tryz.prog 82 #[.agg #[.int .i64 rs,.int .i64 rl,.int .i64 rw,.int .i64 many],.int .i64 m] w (ya (allowOf rs rl rw m) w):=by
 have h3:m=0∨m=1∨m=2:=by omega
 rcases h3 with rfl|rfl|rfl
 all_goals
  gi_enter Tryz.func82,Tryz.ntmps82;gi_wp2;go_ret;exact⟨rfl,((Below.refl _ _).alloc (Nat.le_refl _) _).alloc (by simp) _⟩
end
section
open Go.RowKit
end
section
open Go.RowKit
def outZ(a b l m:Int):Int:=if l≤a∧a≤b∧b≤m then 0 else 1
theorem spanLimits1_any(a b l m:Int)(p q r:Nat)(w:World)(hp:w.cell? ⟨p,0,none⟩=some (.int .i64 a))(hp1:w.cell? ⟨p,1,none⟩=some (.int .i64 b))(hq:w.cell? ⟨q,0,none⟩=some (.int .i64 l))(hr:w.cell? ⟨r,0,none⟩=some (.int .i64 m)) :
  CallsIn Fc 0 Tryz.prog 125 #[ptr p,ptr q,ptr r] w (ya (outZ a b l m) w):=by
 unfold outZ;gi_enter Tryz.func125,Tryz.ntmps125;by_cases h1:a<l
 ·rw[if_neg (by omega)];gi_wp2;go_ret;exact⟨rfl,Below.refl _ _⟩
 ·by_cases h2:a>b
  ·rw[if_neg (by omega)];gi_wp2;go_ret;exact⟨rfl,Below.refl _ _⟩
  ·by_cases h3:b>m
   ·rw[if_neg (by omega)];gi_wp2;go_ret;exact⟨rfl,Below.refl _ _⟩
   ·rw[if_pos (by omega)];gi_wp2;go_ret;exact⟨rfl,Below.refl _ _⟩
def firstZ(F:Nat→Int):Nat→Int
 |0=>0
 |k+1=>if firstZ F k=0 then F k else firstZ F k
theorem firstZ_zero{F:Nat→Int}:∀{n:Nat},firstZ F n=0↔∀ k,k<n→F k=0
 |0=>by simp[firstZ]
 |n+1=>by
  simp only[firstZ];constructor
  ·intro h k hk;split at h
   ·next h0=>
    rcases Nat.lt_succ_iff_lt_or_eq.1 hk with hk|rfl
    ·exact firstZ_zero.1 h0 k hk
    ·exact h
   ·next h0=>exact absurd h h0
  ·intro h;rw[if_pos (firstZ_zero.2 fun k hk=>h k (by omega))];exact h n (by omega)
theorem yv{F:Nat→Int}{k:Nat}(hz:∀ j,j<k→F j=0)(h0:F k≠0):∀{n:Nat},k<n→firstZ F n=F k
 |0,h=>by omega
 |n+1,h=>by
  simp only[firstZ];by_cases e:k=n
  ·subst e;rw[if_pos (firstZ_zero.2 hz)]
  ·have h1:=yv hz h0 (n:=n) (by omega);rw[h1,if_neg h0]
def yA(v:Value)(f:Int)(w:World):Prop:=
 (∃(i:Nat) (sv:Value),(i=96∨i=97∨i=98∨i=56)∧v=.func (.func i) #[sv] #[]∧∀ w',Below w.heap.size w w'→CallsIn Fc 0 Tryz.prog i #[sv] w' (ya f w')) ∨
 (∃ p q:Nat,v=.func (.func 123) #[] #[ptr p,ptr q]∧∀ w',Below w.heap.size w w'→CallsIn Fc 0 Tryz.prog 123 #[ptr p,ptr q] w' (ya f w')) ∨
 (∃ p q r:Nat,v=.func (.func 124) #[] #[ptr p,ptr q,ptr r]∧∀ w',Below w.heap.size w w'→CallsIn Fc 0 Tryz.prog 124 #[ptr p,ptr q,ptr r] w' (ya f w')) ∨
 (∃ p q r:Nat,v=.func (.func 125) #[] #[ptr p,ptr q,ptr r]∧∀ w',Below w.heap.size w w'→CallsIn Fc 0 Tryz.prog 125 #[ptr p,ptr q,ptr r] w' (ya f w'))
theorem yA.below{v:Value}{f:Int}{w w':World}(hb:Below w.heap.size w w')(h:yA v f w):yA v f w':=by
 rcases h with⟨i,sv,hi,rfl,h⟩|⟨p,q,rfl,h⟩|⟨p,q,r,rfl,h⟩|⟨p,q,r,rfl,h⟩
 ·exact .inl ⟨i,sv,hi,rfl,fun w1 h1=>h w1 (hb.trans (h1.mono hb.size))⟩
 ·exact .inr (.inl ⟨p,q,rfl,fun w1 h1=>h w1 (hb.trans (h1.mono hb.size))⟩)
 ·exact .inr (.inr (.inl ⟨p,q,r,rfl,fun w1 h1=>h w1 (hb.trans (h1.mono hb.size))⟩))
 ·exact .inr (.inr (.inr ⟨p,q,r,rfl,fun w1 h1=>h w1 (hb.trans (h1.mono hb.size))⟩))
def SaysFoul(F:Nat→Int)(n:Nat)(w:World)(e:Ending)(w':World):Prop:=∃ f:Int,e=.returned (.int .i64 f)∧f=firstZ F n∧Below w.heap.size w w'
theorem yi(b n cap:Nat)(F:Nat→Int)(W:World)(hn:n≤100)(hall:Hid (∀ k,k<n→∃ v,W.cell? ⟨b,k,none⟩=some v∧yA v (F k) W)) :
  CallsIn Fc 0 Tryz.prog 55 #[.slice (some ⟨b,0,none⟩) n cap] W (SaysFoul F n W):=by
 gi_enter Tryz.func55,Tryz.ntmps55;gi_wp2
 gi_loopw [8] (fun i wr=>∃ k:Nat,k≤n∧i=.int .i64 k∧Below W.heap.size W wr∧∀ j,j<k→F j=0) (fun i _=>n-(intOf i).toNat)
 case atStart=>exact⟨0,Nat.zero_le _,rfl,Below.refl _ _,fun j h=>by omega⟩
 case round=>
  obtain⟨k,hk,rfl,hb,hz⟩:=hrel;by_cases hlt:k<n
  ·obtain⟨v,hv,hf⟩:=hall.out k hlt;have hc:=Below.old hb hv;clear hv;by_cases h0:F k=0
   ·have hz':∀ j,j<k+1→F j=0:=fun j hj=>by
     rcases Nat.lt_succ_iff_lt_or_eq.1 hj with h|rfl
     ·exact hz j h
     ·exact h0
    have HZ:=Lib.hid hz';clear hz hz';rw[h0] at hf;clear h0;rcases hf with⟨i,sv,hi,rfl,hcall⟩|⟨p,q,rfl,hcall⟩|⟨p,q,r,rfl,hcall⟩|⟨p,q,r,rfl,hcall⟩
    ·have hcall':=hcall _ hb;clear hcall;rcases hi with rfl|rfl|rfl|rfl
     all_goals
      gi_wp2_with (first
       |(gi_at_call 96;refine hcall'.mono ?_;rintro e w' ⟨rfl,hb1⟩)
       |(gi_at_call 97;refine hcall'.mono ?_;rintro e w' ⟨rfl,hb1⟩)
       |(gi_at_call 98;refine hcall'.mono ?_;rintro e w' ⟨rfl,hb1⟩)
       |(gi_at_call 56;refine hcall'.mono ?_;rintro e w' ⟨rfl,hb1⟩))
      go_roundw
      case rel=>exact⟨k+1,by omega,by go_num,hb.trans (hb1.mono hb.size),HZ.out⟩
      case measure=>simp[intOf];omega
    ·have hcall':=hcall _ hb;clear hcall
     gi_wp2_with (gi_at_call 123;refine hcall'.mono ?_;rintro e w' ⟨rfl,hb1⟩)
     go_roundw
     case rel=>exact⟨k+1,by omega,by go_num,hb.trans (hb1.mono hb.size),HZ.out⟩
     case measure=>simp[intOf];omega
    ·have hcall':=hcall _ hb;clear hcall
     gi_wp2_with (gi_at_call 124;refine hcall'.mono ?_;rintro e w' ⟨rfl,hb1⟩)
     go_roundw
     case rel=>exact⟨k+1,by omega,by go_num,hb.trans (hb1.mono hb.size),HZ.out⟩
     case measure=>simp[intOf];omega
    ·have hcall':=hcall _ hb;clear hcall
     gi_wp2_with (gi_at_call 125;refine hcall'.mono ?_;rintro e w' ⟨rfl,hb1⟩)
     go_roundw
     case rel=>exact⟨k+1,by omega,by go_num,hb.trans (hb1.mono hb.size),HZ.out⟩
     case measure=>simp[intOf];omega
   ·have hno:firstZ F n=F k:=yv hz h0 hlt;have HN:=Lib.hid hno;clear hno hz;generalize F k=fk at *;rcases hf with⟨i,sv,hi,rfl,hcall⟩|⟨p,q,rfl,hcall⟩|⟨p,q,r,rfl,hcall⟩|⟨p,q,r,rfl,hcall⟩
    ·have hcall':=hcall _ hb;clear hcall;rcases hi with rfl|rfl|rfl|rfl
     all_goals
      gi_wp2_with (first
       |(gi_at_call 96;refine hcall'.mono ?_;rintro e w' ⟨rfl,hb1⟩)
       |(gi_at_call 97;refine hcall'.mono ?_;rintro e w' ⟨rfl,hb1⟩)
       |(gi_at_call 98;refine hcall'.mono ?_;rintro e w' ⟨rfl,hb1⟩)
       |(gi_at_call 56;refine hcall'.mono ?_;rintro e w' ⟨rfl,hb1⟩))
      go_ret;exact⟨_,rfl,HN.out.symm,hb.trans (hb1.mono hb.size)⟩
    ·have hcall':=hcall _ hb;clear hcall
     gi_wp2_with (gi_at_call 123;refine hcall'.mono ?_;rintro e w' ⟨rfl,hb1⟩)
     go_ret;exact⟨_,rfl,HN.out.symm,hb.trans (hb1.mono hb.size)⟩
    ·have hcall':=hcall _ hb;clear hcall
     gi_wp2_with (gi_at_call 124;refine hcall'.mono ?_;rintro e w' ⟨rfl,hb1⟩)
     go_ret;exact⟨_,rfl,HN.out.symm,hb.trans (hb1.mono hb.size)⟩
    ·have hcall':=hcall _ hb;clear hcall
     gi_wp2_with (gi_at_call 125;refine hcall'.mono ?_;rintro e w' ⟨rfl,hb1⟩)
     go_ret;exact⟨_,rfl,HN.out.symm,hb.trans (hb1.mono hb.size)⟩
  ·gi_wp2;go_ret;exact⟨0,rfl,(firstZ_zero.2 fun j hj=>hz j (by omega)).symm,hb⟩
theorem Spn.is{w:World}{v:Value}{a b l m:Int}(h:Spn v a b l m w):yA v (outZ a b l m) w:=by obtain⟨p,q,r,rfl,hp,hq,hr⟩:=h;exact .inr (.inr (.inr ⟨p,q,r,rfl,fun w' hb=>spanLimits1_any a b l m p q r w' (Below.old hb hp.cell.1) (Below.old hb hp.cell.2) (Below.old hb hq.cell) (Below.old hb hr.cell)⟩))
def SaysHas(p:Prop)(w:World)(e:Ending)(w':World):Prop:=∃ b:Bool,e=.returned (.bool b)∧(b=true↔p)∧w=w'
theorem yub(LA:Option Addr)(m lc:Nat)(l:Nat→Nat)(k:Nat)(W:World)(hm:m≤9)(hmc:m≤lc)(hi:Hid (zca W LA m fun k=>(l k:Int))) :
  CallsIn Fc 0 Tryz.prog 40 #[.slice LA m lc,.int .i64 k] W (SaysHas (∃ i,i<m∧l i=k) W):=by
 gi_enter Tryz.func40,Tryz.ntmps40;gi_wp2
 gi_loopw [5] (fun v wr=>∃ i:Nat,i≤m∧v=.int .i64 i∧W=wr∧∀ j,j<i→l j≠k) (fun v _=>m-(intOf v).toNat)
 case atStart=>exact⟨0,Nat.zero_le _,rfl,rfl,fun j h=>by omega⟩
 case round=>
  obtain⟨i,hi',rfl,rfl,hno⟩:=hrel;by_cases hlt:i<m
  ·obtain⟨b,o,rfl,hc⟩:=hi.out i hlt;by_cases he:l i=k
   ·have he':((l i:Nat):Int)=(k:Int):=by omega
    gi_wp2;go_ret;exact⟨true,rfl,⟨fun _=>⟨i,hlt,he⟩,fun _=>rfl⟩,rfl⟩
   ·have he':¬((l i:Nat):Int)=(k:Int):=by omega
    gi_wp2;go_roundw
    case rel=>exact⟨i+1,by omega,by go_num,by first|rfl|trivial,fun j hj=>by
     rcases Nat.lt_succ_iff_lt_or_eq.1 hj with h|rfl
     ·exact hno j h
     ·exact he⟩
    case measure=>simp[intOf];omega
  ·gi_wp2;go_ret;exact⟨false,rfl,⟨fun h=>absurd h (by decide),fun⟨j,hj,he⟩=>absurd he (hno j (by omega))⟩,rfl⟩
end
section
open Go.RowKit
end
section
open Go.RowKit
section
variable (rs rl rw many:Int)(A:Option Addr)(n c k m:Nat)(x0 x1:Int)
end
end
section
open Go.RowKit
def limZ(n l m:Int):Int:=if l≤n∧n≤m then 0 else 1
theorem limits1_any(n l m:Int)(p q r:Nat)(w:World)(hp:w.cell? ⟨p,0,none⟩=some (.int .i64 n))(hq:w.cell? ⟨q,0,none⟩=some (.int .i64 l))(hr:w.cell? ⟨r,0,none⟩=some (.int .i64 m)) :
  CallsIn Fc 0 Tryz.prog 124 #[ptr p,ptr q,ptr r] w (ya (limZ n l m) w):=by
 unfold limZ;gi_enter Tryz.func124,Tryz.ntmps124;by_cases h1:n<l
 ·rw[if_neg (by omega)];gi_wp2;go_ret;exact⟨rfl,Below.refl _ _⟩
 ·by_cases h3:n>m
  ·rw[if_neg (by omega)];gi_wp2;go_ret;exact⟨rfl,Below.refl _ _⟩
  ·rw[if_pos (by omega)];gi_wp2;go_ret;exact⟨rfl,Below.refl _ _⟩
theorem Lim.exact{w:World}{v:Value}{n l m:Int}(h:Lim v n l m w):yA v (limZ n l m) w:=by obtain⟨p,q,r,rfl,hp,hq,hr⟩:=h;exact .inr (.inr (.inl ⟨p,q,r,rfl,fun w' hb=>limits1_any n l m p q r w' (Below.old hb hp.cell) (Below.old hb hq.cell) (Below.old hb hr.cell)⟩))
theorem checkCount_any(rs rl rw many:Int)(A:Option Addr)(n c:Nat)(W:World)(hn:n≤20) :
  CallsIn Fc 0 Tryz.prog 97 #[zga rs rl rw many A n c] W (ya (if n≤9 then 0 else 2) W):=by
 gi_enter Tryz.func97,Tryz.ntmps97;by_cases h:n≤9
 ·rw[if_pos h];gi_wp2;go_ret;exact⟨rfl,(Below.refl _ _).alloc (Nat.le_refl _) _⟩
 ·rw[if_neg h];have h':(9:Int)<n:=by omega
  gi_wp2;go_ret;exact⟨rfl,(Below.refl _ _).alloc (Nat.le_refl _) _⟩
def yZc(p:Prop)(w:World)(e:Ending)(w':World):Prop:=∃ b:Bool,e=.returned (.bool b)∧(b=true↔p)∧w=w'
theorem yQ(s:ByteArray)(w:World)(hs:s.size≤200):CallsIn Fc 0 Tryz.prog 159 #[.string s] w (yZc (ye s) w):=by
 by_cases hsz:1≤s.size∧s.size≤12
 ·obtain⟨hb1,hb2⟩:=hsz;gi_enter Tryz.func159,Tryz.ntmps159;gi_wp2
  gi_loop [16] (fun i=>∃ k:Nat,k≤s.size∧i=.int .i64 k∧∀(j:Nat) (h:j<s.size),j<k→letterB s[j]=true∨(j≠0∧digitB s[j]=true)) (fun i=>s.size-(intOf i).toNat)
  case atStart=>exact⟨0,Nat.zero_le _,rfl,fun j _ h=>by omega⟩
  case round=>
   obtain⟨k,hk,rfl,hall⟩:=hrel;have HA:=Lib.hid hall;clear hall;by_cases hlt:k<s.size
   ·by_cases hl:letterB s[k]=true
    ·have hl':=letter_int hl;obtain⟨hl1,hl2⟩:=hl';have HL:=Lib.hid hl;clear hl;by_cases hd1:48≤(s[k].toNat:Int)
     ·by_cases hd2:(s[k].toNat:Int)≤57
      ·omega
      ·gi_wp2
       go_round
       case rel=>exact⟨k+1,by omega,by go_num,fun j h hj=>by
        rcases Nat.lt_succ_iff_lt_or_eq.1 hj with hj|rfl
        ·exact HA.out j h hj
        ·exact .inl HL.out⟩
       case measure=>simp[intOf];omega
     ·omega
    ·have hl':¬(97≤(s[k].toNat:Int)∧(s[k].toNat:Int)≤122):=fun h=>hl (by simpa[letterB] using h)
     have HL:=Lib.hid hl;clear hl;by_cases hd:digitB s[k]=true
     ·have hd':=digit_int hd;obtain⟨hd1,hd2⟩:=hd';have HD:=Lib.hid hd;clear hd hl';have hl1:¬ 97≤(s[k].toNat:Int):=by omega
      by_cases h0:k=0
      ·subst h0;have hno:¬ ye s:=fun h=>HL.out (h.first hlt)
       have HN:=Lib.hid hno;clear hno;gi_wp2;go_ret;exact⟨false,rfl,⟨fun h=>absurd h (by decide),fun h=>absurd h HN.out⟩,rfl⟩
      ·have hk0:((k:Int)==0)=false:=by simp;omega
       gi_wp2
       go_round
       case rel=>exact⟨k+1,by omega,by go_num,fun j h hj=>by
        rcases Nat.lt_succ_iff_lt_or_eq.1 hj with hj|rfl
        ·exact HA.out j h hj
        ·exact .inr ⟨h0,HD.out⟩⟩
       case measure=>simp[intOf];omega
     ·have hd':¬(48≤(s[k].toNat:Int)∧(s[k].toNat:Int)≤57):=fun h=>hd (by simpa[digitB] using h)
      have hno:¬ ye s:=fun h=>by
       rcases h.rest k hlt with h|h
       ·exact HL.out h
       ·exact hd h
      have HN:=Lib.hid hno;clear hno hd;by_cases hl1:97≤(s[k].toNat:Int)
      ·have hl2:¬(s[k].toNat:Int)≤122:=fun h=>hl' ⟨hl1,h⟩
       have hd1:48≤(s[k].toNat:Int):=by omega
       have hd2:¬(s[k].toNat:Int)≤57:=by omega
       clear hl' hd';gi_wp2
       all_goals
        go_ret;exact⟨false,rfl,⟨fun h=>absurd h (by decide),fun h=>absurd h HN.out⟩,rfl⟩
      ·by_cases hd1:48≤(s[k].toNat:Int)
       ·have hd2:¬(s[k].toNat:Int)≤57:=fun h=>hd' ⟨hd1,h⟩
        clear hl' hd';gi_wp2
        all_goals
         go_ret;exact⟨false,rfl,⟨fun h=>absurd h (by decide),fun h=>absurd h HN.out⟩,rfl⟩
       ·clear hl' hd';gi_wp2
        all_goals
         go_ret;exact⟨false,rfl,⟨fun h=>absurd h (by decide),fun h=>absurd h HN.out⟩,rfl⟩
   ·gi_wp2;go_ret;exact⟨true,rfl,⟨fun _=>⟨hb1,hb2,fun h=>by
     rcases HA.out 0 h (by omega) with h|h
     ·exact h
     ·exact absurd rfl h.1,fun i h=>by
     rcases HA.out i h (by omega) with h|h
     ·exact .inl h
     ·exact .inr h.2⟩,fun _=>rfl⟩,rfl⟩
 ·have hno:¬ ye s:=fun h=>hsz ⟨h.least,h.most⟩
  have HN:=Lib.hid hno;clear hno;gi_enter Tryz.func159,Tryz.ntmps159;by_cases h1:s.size<1
  ·gi_wp2;go_ret;exact⟨false,rfl,⟨fun h=>absurd h (by decide),fun h=>absurd h HN.out⟩,rfl⟩
  ·have h2:12<s.size:=by omega
   gi_wp2;go_ret;exact⟨false,rfl,⟨fun h=>absurd h (by decide),fun h=>absurd h HN.out⟩,rfl⟩
end
section
open Go.RowKit
def ruleF(rs rl rw many:Int)(j:Nat):Int:=if j=3 then limZ many 2 4 else limZ (allowOf rs rl rw j) 0 9999
def ruleZ(rs rl rw many:Int):Int:=firstZ (ruleF rs rl rw many) 4
theorem yf{n l m:Int}:limZ n l m=0↔l≤n∧n≤m:=by
 unfold limZ;split
 ·next h=>exact⟨fun _=>h,fun _=>rfl⟩
 ·next h=>exact⟨fun h'=>absurd h' (by decide),fun h'=>absurd h' h⟩
theorem yha{rs rl rw many:Int}:ruleZ rs rl rw many=0↔yN rs rl rw many:=by
 unfold ruleZ;rw[firstZ_zero];constructor
 ·intro h;have h0:=yf.1 (h 0 (by omega));have h1:=yf.1 (h 1 (by omega));have h2:=yf.1 (h 2 (by omega));have h3:=yf.1 (h 3 (by omega));exact⟨h0.1,h0.2,h1.1,h1.2,h2.1,h2.2,h3.1,h3.2⟩
 ·intro h k hk;have h4:k=0∨k=1∨k=2∨k=3:=by omega
  rcases h4 with rfl|rfl|rfl|rfl
  ·exact yf.2 ⟨h.s0,h.s1⟩
  ·exact yf.2 ⟨h.l0,h.l1⟩
  ·exact yf.2 ⟨h.w0,h.w1⟩
  ·exact yf.2 ⟨h.m0,h.m1⟩
theorem limZ_one(n l m:Int):limZ n l m=0∨limZ n l m=1:=by
 unfold limZ;split
 ·exact .inl rfl
 ·exact .inr rfl
theorem yqa{F:Nat→Int}(h:∀ k,F k=0∨F k=1):∀ n,firstZ F n=0∨firstZ F n=1
 |0=>.inl rfl
 |n+1=>by
  simp only[firstZ];split
  ·exact h n
  ·exact yqa h n
theorem ruleZ_one(rs rl rw many:Int):ruleZ rs rl rw many=0∨ruleZ rs rl rw many=1:=yqa (fun k=>by unfold ruleF;split<;>exact limZ_one ..) 4
theorem checkRule_any(rs rl rw many:Int)(A:Option Addr)(n c:Nat)(W:World) :
  CallsIn Fc 0 Tryz.prog 96 #[.agg #[.int .i64 rs,.int .i64 rl,.int .i64 rw,.int .i64 many,.slice A n c]] W (ya (ruleZ rs rl rw many) W):=by
 obtain⟨i0,hi,hz0,hz1,hz2⟩:=info_parts i101;have HI:=Lib.hid hi;have HZ0:=Lib.hid hz0;have HZ1:=Lib.hid hz1;have HZ2:=Lib.hid hz2;clear hi hz0 hz1 hz2;gi_enter Tryz.func96,Tryz.ntmps96
 gi_wp2_with (gi_at_call 65;refine(yE _).mono ?_;rintro e w' ⟨rfl,rfl⟩)
 gi_loopw [3,8] (fun sl i wr=>∃(k:Nat) (vs:List Value),k≤3∧i=.int .i64 k∧wr.ownsRow (W.heap.size+2) 101 1 sl k vs∧(∀ j,j<k→∃ v,vs[j]? = some v∧Lim v (allowOf rs rl rw j) 0 9999 wr) ∧
   Below (W.heap.size+2) ((W.alloc (.cells #[.int .i64 rs,.int .i64 rl,.int .i64 rw,.int .i64 many,.slice A n c] 99)).alloc (.cells measuresV 119)) wr) (fun _ i _=>3-(intOf i).toNat)
 case atStart=>exact⟨0,[],by omega,rfl,⟨rfl,.inl ⟨rfl,rfl⟩⟩,(fun j h=>absurd h (by omega)),Below.refl _ _⟩
 case round=>
  obtain⟨k,vs,hk,rfl,hown,hvs,hb⟩:=hrel;have c0:wr.cell? ⟨W.heap.size,0,none⟩=some (.int .i64 rs):=by rw[hb.cell (by simp)];go_simp
  have c1:wr.cell? ⟨W.heap.size,1,none⟩=some (.int .i64 rl):=by rw[hb.cell (by simp)];go_simp
  have c2:wr.cell? ⟨W.heap.size,2,none⟩=some (.int .i64 rw):=by rw[hb.cell (by simp)];go_simp
  have c3:wr.cell? ⟨W.heap.size,3,none⟩=some (.int .i64 many):=by rw[hb.cell (by simp)];go_simp
  have m0:wr.cell? ⟨W.heap.size+1,0,none⟩=some (.func (.func 105) #[] #[]):=by rw[hb.cell (by simp)];simp[measuresV]
  have m1:wr.cell? ⟨W.heap.size+1,1,none⟩=some (.func (.func 106) #[] #[]):=by rw[hb.cell (by simp)];simp[measuresV]
  have m2:wr.cell? ⟨W.heap.size+1,2,none⟩=some (.func (.func 107) #[] #[]):=by rw[hb.cell (by simp)];simp[measuresV]
  have m3:wr.cell? ⟨W.heap.size+1,3,none⟩=some (.func (.func 108) #[] #[]):=by rw[hb.cell (by simp)];simp[measuresV]
  have m4:wr.cell? ⟨W.heap.size+1,4,none⟩=some (.func (.func 109) #[] #[]):=by rw[hb.cell (by simp)];simp[measuresV]
  have m5:wr.cell? ⟨W.heap.size+1,5,none⟩=some (.func (.func 110) #[] #[]):=by rw[hb.cell (by simp)];simp[measuresV]
  have hz1:W.heap.size+1<wr.heap.size:=by have:=hb.size;simp at this;omega
  have hz0:W.heap.size<wr.heap.size:=by omega
  have HB:=Lib.hid hb;have HV:=Lib.hid hvs;have HO:=Lib.hid hown;clear hb hvs hown;by_cases hlt:k<3
  ·have h3:k=0∨k=1∨k=2:=by omega
   rcases h3 with rfl|rfl|rfl
   ·gi_wp2_with (first
      |(gi_at_call 106;refine(ywa _ _ _ _ _).mono ?_;rintro e w2 ⟨rfl,hb2⟩)
      |(gi_at_call 108;refine(yva _ _ _ _ _).mono ?_;rintro e w2 ⟨rfl,hb2⟩)
      |(gi_at_call 110;refine(yua _ _ _ _ _).mono ?_;rintro e w2 ⟨rfl,hb2⟩)
      |(gi_at_call 77;refine(yJ _ _ _ _).mono ?_;rintro e w3 ⟨lv,rfl,⟨p,q,r,rfl,hp,hq,hr3⟩,hb3⟩)
      |(gi_at_builtin;refine wpListIn_append_own _ rfl _ _ 151 rfl (W.heap.size+2) 101 i0 .nilFunc 1 8 u151 HI.out HZ0.out HZ1.out HZ2.out rfl (by decide) _ _ _ rfl ((zu (zu ((HO.out).alloc _) hb2) hb3).alloc _) ⟨w3.heap.size,0,none⟩ 1 1 [.func (.func 124) #[] #[ptr p,ptr q,ptr r]] rfl rfl (cell_one_new _ _ _) (by simp[Value.oneCell']) (by simp[maxLen]) (by decide) (by have:=hb2.size;have:=hb3.size;simp at *;omega) ?_;intro v' w4 hown4 hg4 hnil4))
    have hx:=(zu (zu ((HO.out).alloc (.cells #[.func (.func 105) #[] #[],.func (.func 106) #[] #[]] 119)) hb2) hb3).alloc (.cells #[.func (.func 124) #[] #[ptr p,ptr q,ptr r]] 101);have hs2:=hb2.size;have hs3:=hb3.size;simp at hs2 hs3;go_roundw
    case rel=>
     refine⟨0+1,vs++[.func (.func 124) #[] #[ptr p,ptr q,ptr r]],by omega,by first|rfl|go_num,hown4,zSb HO.out.1 (fun j hj=>?_) ?_,?_⟩
     ·obtain⟨v,h1,h2⟩:=HV.out j hj;exact⟨v,h1,((((h2.alloc _).below hb2).below hb3).alloc _).grown hg4 (zha hx)⟩
     ·exact(Lim.alloc ⟨p,q,r,rfl,hp,hq,hr3⟩ _).grown hg4 (zha hx)
     ·exact(((((HB.out.alloc (by omega) _).trans (hb2.mono (by simp;omega))).trans (hb3.mono (by omega))).alloc (by omega) _).grown hg4 (by simp;omega) (fun g hg=>(hx.lt g hg).1))
    case measure=>simp[intOf]
   ·gi_wp2_with (first
      |(gi_at_call 106;refine(ywa _ _ _ _ _).mono ?_;rintro e w2 ⟨rfl,hb2⟩)
      |(gi_at_call 108;refine(yva _ _ _ _ _).mono ?_;rintro e w2 ⟨rfl,hb2⟩)
      |(gi_at_call 110;refine(yua _ _ _ _ _).mono ?_;rintro e w2 ⟨rfl,hb2⟩)
      |(gi_at_call 77;refine(yJ _ _ _ _).mono ?_;rintro e w3 ⟨lv,rfl,⟨p,q,r,rfl,hp,hq,hr3⟩,hb3⟩)
      |(gi_at_builtin;refine wpListIn_append_own _ rfl _ _ 151 rfl (W.heap.size+2) 101 i0 .nilFunc 1 8 u151 HI.out HZ0.out HZ1.out HZ2.out rfl (by decide) _ _ _ rfl ((zu (zu ((HO.out).alloc _) hb2) hb3).alloc _) ⟨w3.heap.size,0,none⟩ 1 1 [.func (.func 124) #[] #[ptr p,ptr q,ptr r]] rfl rfl (cell_one_new _ _ _) (by simp[Value.oneCell']) (by simp[maxLen]) (by decide) (by have:=hb2.size;have:=hb3.size;simp at *;omega) ?_;intro v' w4 hown4 hg4 hnil4))
    have hx:=(zu (zu ((HO.out).alloc (.cells #[.func (.func 107) #[] #[],.func (.func 108) #[] #[]] 119)) hb2) hb3).alloc (.cells #[.func (.func 124) #[] #[ptr p,ptr q,ptr r]] 101);have hs2:=hb2.size;have hs3:=hb3.size;simp at hs2 hs3;go_roundw
    case rel=>
     refine⟨1+1,vs++[.func (.func 124) #[] #[ptr p,ptr q,ptr r]],by omega,by first|rfl|go_num,hown4,zSb HO.out.1 (fun j hj=>?_) ?_,?_⟩
     ·obtain⟨v,h1,h2⟩:=HV.out j hj;exact⟨v,h1,((((h2.alloc _).below hb2).below hb3).alloc _).grown hg4 (zha hx)⟩
     ·exact(Lim.alloc ⟨p,q,r,rfl,hp,hq,hr3⟩ _).grown hg4 (zha hx)
     ·exact(((((HB.out.alloc (by omega) _).trans (hb2.mono (by simp;omega))).trans (hb3.mono (by omega))).alloc (by omega) _).grown hg4 (by simp;omega) (fun g hg=>(hx.lt g hg).1))
    case measure=>simp[intOf]
   ·gi_wp2_with (first
      |(gi_at_call 106;refine(ywa _ _ _ _ _).mono ?_;rintro e w2 ⟨rfl,hb2⟩)
      |(gi_at_call 108;refine(yva _ _ _ _ _).mono ?_;rintro e w2 ⟨rfl,hb2⟩)
      |(gi_at_call 110;refine(yua _ _ _ _ _).mono ?_;rintro e w2 ⟨rfl,hb2⟩)
      |(gi_at_call 77;refine(yJ _ _ _ _).mono ?_;rintro e w3 ⟨lv,rfl,⟨p,q,r,rfl,hp,hq,hr3⟩,hb3⟩)
      |(gi_at_builtin;refine wpListIn_append_own _ rfl _ _ 151 rfl (W.heap.size+2) 101 i0 .nilFunc 1 8 u151 HI.out HZ0.out HZ1.out HZ2.out rfl (by decide) _ _ _ rfl ((zu (zu ((HO.out).alloc _) hb2) hb3).alloc _) ⟨w3.heap.size,0,none⟩ 1 1 [.func (.func 124) #[] #[ptr p,ptr q,ptr r]] rfl rfl (cell_one_new _ _ _) (by simp[Value.oneCell']) (by simp[maxLen]) (by decide) (by have:=hb2.size;have:=hb3.size;simp at *;omega) ?_;intro v' w4 hown4 hg4 hnil4))
    have hx:=(zu (zu ((HO.out).alloc (.cells #[.func (.func 109) #[] #[],.func (.func 110) #[] #[]] 119)) hb2) hb3).alloc (.cells #[.func (.func 124) #[] #[ptr p,ptr q,ptr r]] 101);have hs2:=hb2.size;have hs3:=hb3.size;simp at hs2 hs3;go_roundw
    case rel=>
     refine⟨2+1,vs++[.func (.func 124) #[] #[ptr p,ptr q,ptr r]],by omega,by first|rfl|go_num,hown4,zSb HO.out.1 (fun j hj=>?_) ?_,?_⟩
     ·obtain⟨v,h1,h2⟩:=HV.out j hj;exact⟨v,h1,((((h2.alloc _).below hb2).below hb3).alloc _).grown hg4 (zha hx)⟩
     ·exact(Lim.alloc ⟨p,q,r,rfl,hp,hq,hr3⟩ _).grown hg4 (zha hx)
     ·exact(((((HB.out.alloc (by omega) _).trans (hb2.mono (by simp;omega))).trans (hb3.mono (by omega))).alloc (by omega) _).grown hg4 (by simp;omega) (fun g hg=>(hx.lt g hg).1))
    case measure=>simp[intOf]
  ·obtain rfl:k=3:=by omega
   gi_wp2_with (first
    |(gi_at_call 77;refine(yJ _ _ _ _).mono ?_;rintro e w3 ⟨lv,rfl,⟨p,q,r,rfl,hp,hq,hr3⟩,hb3⟩)
    |(gi_at_builtin;refine wpListIn_append_own _ rfl _ _ 151 rfl (W.heap.size+2) 101 i0 .nilFunc 1 8 u151 HI.out HZ0.out HZ1.out HZ2.out rfl (by decide) _ _ _ rfl ((zu (HO.out) hb3).alloc _) ⟨w3.heap.size,0,none⟩ 1 1 [.func (.func 124) #[] #[ptr p,ptr q,ptr r]] rfl rfl (cell_one_new _ _ _) (by simp[Value.oneCell']) (by simp[maxLen]) (by decide) (by have:=hb3.size;simp at *;omega) ?_;intro v' w4 hown4 hg4 hnil4)
    |fail)
   have hx:=(zu (HO.out) hb3).alloc (.cells #[.func (.func 124) #[] #[ptr p,ptr q,ptr r]] 101);have hs3:=hb3.size;obtain⟨g,cap,rfl,hg1,hg2⟩:=hown4.form (by omega);have hlims:∀ j,j<3+1→∃ v,(vs++[.func (.func 124) #[] #[ptr p,ptr q,ptr r]])[j]? = some v∧yA v (ruleF rs rl rw many j) w4:=
    zSb HO.out.1 (fun j hj=>by
     obtain⟨v,h1,h2⟩:=HV.out j hj;refine⟨v,h1,?_⟩;rw[show ruleF rs rl rw many j=limZ (allowOf rs rl rw j) 0 9999 from if_neg (by omega)];exact(((h2.below hb3).alloc _).grown hg4 (zha hx)).exact)
     ((Lim.alloc ⟨p,q,r,rfl,hp,hq,hr3⟩ _).grown hg4 (zha hx)).exact
   have hB4:Below W.heap.size W w4:=
    (((((Below.refl W.heap.size W).alloc (Nat.le_refl _) _).alloc (by simp) _).trans (HB.out.mono (by omega))).trans (hb3.mono (by omega))).alloc (by omega) _ |>.grown hg4 (by simp;omega) (fun g hg=>by have:=(hx.lt g hg).1;omega)
   refine(yi g (3+1) cap (ruleF rs rl rw many) w4 (by omega) (Lib.hid fun j hj=>?_)).mono ?_
   ·obtain⟨v,h1,h2⟩:=hlims j hj;exact⟨v,by rw[hown4.cellAt j (by omega)];exact h1,h2⟩
   ·rintro e w5 ⟨f,rfl,hf,hb5⟩;subst hf;gi_wp2;go_ret;exact⟨rfl,hB4.trans (hb5.mono hB4.size)⟩
end
section
open Go.RowKit
theorem indexFunc_no20(A:Option Addr)(n m c:Nat)(sh:Nat→Shaft)(q:Nat)(t:ByteArray)(W:World)(hn:m≤20)(hmn:m≤n)(hsh:Hid (zA W A n sh))(hq:Hid (W.cell? ⟨q,0,none⟩=some (.string t)))
  (hne:Hid (∀ k,k<m→((sh k).name.toList==t.toList)=false)) :
  CallsIn Fc 0 Tryz.prog 172 #[.slice A m c,.func (.func 160) #[] #[ptr q]] W (ya (-1) W):=by
 gi_enter Tryz.func172,Tryz.ntmps172;gi_wp2
 gi_loopw [8] (fun i wr=>∃ k:Nat,k≤m∧i=.int .i64 k∧Below W.heap.size W wr) (fun i _=>m-(intOf i).toNat)
 case atStart=>exact⟨0,Nat.zero_le _,rfl,Below.refl _ _⟩
 case round=>
  obtain⟨k,hk,rfl,hb⟩:=hrel;by_cases hlt:k<m
  ·obtain⟨b,o,rfl,hx⟩:=hsh.out k (by omega);obtain⟨e0,e1,e2,e3,e4,e5,e6⟩:=hx.below hb;have HQ:=Lib.hid (Below.old hb hq.out)
   gi_wp2_with (gi_at_call 160;refine(yGc _ _ t _ HQ.out (hne.out k hlt)).mono ?_;rintro e w' ⟨rfl,hb1⟩)
   go_roundw
   case rel=>exact⟨k+1,by omega,by go_num,hb.trans (hb1.mono hb.size)⟩
   case measure=>simp[intOf];omega
  ·gi_wp2;go_ret;exact⟨rfl,hb⟩
theorem contains_no20(A:Option Addr)(n m c:Nat)(sh:Nat→Shaft)(q:Nat)(t:ByteArray)(W:World)(hn:m≤20)(hmn:m≤n)(hsh:Hid (zA W A n sh))(hq:Hid (W.cell? ⟨q,0,none⟩=some (.string t)))
  (hne:Hid (∀ k,k<m→((sh k).name.toList==t.toList)=false)) :
  CallsIn Fc 0 Tryz.prog 161 #[.slice A m c,.func (.func 160) #[] #[ptr q]] W (yfa false W):=by
 gi_enter Tryz.func161,Tryz.ntmps161
 gi_wp2_with (gi_at_call 172;refine(indexFunc_no20 A n m c sh q t _ hn hmn hsh hq hne).mono ?_;rintro e w' ⟨rfl,hb1⟩)
 go_ret;exact⟨rfl,hb1⟩
theorem same_yes(x:Shaft)(q:Nat)(t:ByteArray)(w:World)(hq:w.cell? ⟨q,0,none⟩=some (.string t))(hne:(x.name.toList==t.toList)=true) :
  CallsIn Fc 0 Tryz.prog 160 #[yJb x,ptr q] w (yfa true w):=by
 have hql:q<w.heap.size:=World.block_lt_of_cell? w _ hq;gi_enter Tryz.func160,Tryz.ntmps160;gi_wp2;go_ret;exact⟨rfl,(Below.refl _ _).alloc (Nat.le_refl _) _⟩
theorem indexFunc_yes(A:Option Addr)(n m c j0:Nat)(sh:Nat→Shaft)(q:Nat)(t:ByteArray)(W:World)(hn:m≤20)(hmn:m≤n)(hsh:Hid (zA W A n sh))(hq:Hid (W.cell? ⟨q,0,none⟩=some (.string t)))
  (hj0:j0<m) (hy:Hid (((sh j0).name.toList==t.toList)=true)) (hne:Hid (∀ k,k<j0→((sh k).name.toList==t.toList)=false)) :
  CallsIn Fc 0 Tryz.prog 172 #[.slice A m c,.func (.func 160) #[] #[ptr q]] W (ya j0 W):=by
 gi_enter Tryz.func172,Tryz.ntmps172;gi_wp2
 gi_loopw [8] (fun i wr=>∃ k:Nat,k≤j0∧i=.int .i64 k∧Below W.heap.size W wr) (fun i _=>m-(intOf i).toNat)
 case atStart=>exact⟨0,Nat.zero_le _,rfl,Below.refl _ _⟩
 case round=>
  obtain⟨k,hk,rfl,hb⟩:=hrel;have hkm:k<m:=by omega
  obtain⟨b,o,rfl,hx⟩:=hsh.out k (by omega);obtain⟨e0,e1,e2,e3,e4,e5,e6⟩:=hx.below hb;have HQ:=Lib.hid (Below.old hb hq.out);by_cases hlt:k<j0
  ·gi_wp2_with (gi_at_call 160;refine(yGc _ _ t _ HQ.out (hne.out k hlt)).mono ?_;rintro e w' ⟨rfl,hb1⟩)
   go_roundw
   case rel=>exact⟨k+1,by omega,by go_num,hb.trans (hb1.mono hb.size)⟩
   case measure=>simp[intOf];omega
  ·obtain rfl:k=j0:=by omega
   gi_wp2_with (gi_at_call 160;refine(same_yes _ _ t _ HQ.out hy.out).mono ?_;rintro e w' ⟨rfl,hb1⟩)
   go_ret;exact⟨rfl,hb.trans (hb1.mono hb.size)⟩
theorem contains_yes(A:Option Addr)(n m c j0:Nat)(sh:Nat→Shaft)(q:Nat)(t:ByteArray)(W:World)(hn:m≤20)(hmn:m≤n)(hsh:Hid (zA W A n sh))(hq:Hid (W.cell? ⟨q,0,none⟩=some (.string t)))
  (hj0:j0<m) (hy:Hid (((sh j0).name.toList==t.toList)=true)) (hne:Hid (∀ k,k<j0→((sh k).name.toList==t.toList)=false)) :
  CallsIn Fc 0 Tryz.prog 161 #[.slice A m c,.func (.func 160) #[] #[ptr q]] W (yfa true W):=by
 have h0:(0:Int)≤j0:=Int.natCast_nonneg _;gi_enter Tryz.func161,Tryz.ntmps161
 gi_wp2_with (gi_at_call 172;refine(indexFunc_yes A n m c j0 sh q t _ hn hmn hsh hq hj0 hy hne).mono ?_;rintro e w' ⟨rfl,hb1⟩)
 go_ret;exact⟨rfl,hb1⟩
theorem checkShaft_spans(rs rl rw many:Int)(b o n c k:Nat)(sh:Nat→Shaft)(W:World)(hk:k<n)(hn:n≤20)(hc:n≤c)(hsh:Hid (zA W (some ⟨b,o,none⟩) n sh))(hln:(sh k).name.size≤200)(hnm:Hid (ye (sh k).name))(hno:Hid (∀ j,j<k→((sh j).name.toList==(sh k).name.toList)=false)) :
  CallsIn Fc 0 Tryz.prog 138 #[.agg #[.int .i64 rs,.int .i64 rl,.int .i64 rw,.int .i64 many,.slice (some ⟨b,o,none⟩) n c],.int .i64 k] W (ya (firstZ (fun u=>outZ (spanA (sh k) u) (spanB (sh k) u) 0 9999) 3) W):=by
 obtain⟨i0,hi,hz0,hz1,hz2⟩:=info_parts i101;have HI:=Lib.hid hi;have HZ0:=Lib.hid hz0;have HZ1:=Lib.hid hz1;have HZ2:=Lib.hid hz2;clear hi hz0 hz1 hz2;have hx:zKb W b (o+k*7) (sh k):=by obtain⟨b',o',e,h⟩:=hsh.out k hk;cases e;exact h
 have hbl:=hx.lt;obtain⟨e0,e1,e2,e3,e4,e5,e6⟩:=hx;gi_enter Tryz.func138,Tryz.ntmps138;have hW2:Below W.heap.size W ((W.alloc (.cells #[.int .i64 rs,.int .i64 rl,.int .i64 rw,.int .i64 many,.slice (some ⟨b,o,none⟩) n c] 99)).alloc
   (.cells #[.string (sh k).name,.int .i64 (sh k).s0,.int .i64 (sh k).s1,.int .i64 (sh k).l0,.int .i64 (sh k).l1,.int .i64 (sh k).w0,.int .i64 (sh k).w1] 65)):=
  ((Below.refl _ _).alloc (Nat.le_refl _) _).alloc (by simp) _
 have HW2:=Lib.hid hW2;clear hW2
 gi_wp2_with (first
  |(gi_at_call 159;refine(yQ _ _ hln).mono ?_;rintro e w' ⟨nb,rfl,hnb,rfl⟩;obtain rfl:nb=true:=hnb.2 hnm.out;clear hnb)
  |(gi_at_call 161;refine(contains_no20 _ n k c sh _ (sh k).name _ (by omega) (by omega) (Lib.hid (hsh.out.below HW2.out)) (Lib.hid (by go_simp)) hno).mono ?_;rintro e w2 ⟨rfl,hb2⟩)
  |(gi_at_call 65;refine(yE _).mono ?_;rintro e w' ⟨rfl,rfl⟩))
 have p1:w2.cell? ⟨W.heap.size+1,1,none⟩=some (.int .i64 (sh k).s0):=Below.old hb2 (by go_simp);have p2:w2.cell? ⟨W.heap.size+1,2,none⟩=some (.int .i64 (sh k).s1):=Below.old hb2 (by go_simp);have p3:w2.cell? ⟨W.heap.size+1,3,none⟩=some (.int .i64 (sh k).l0):=Below.old hb2 (by go_simp);have p4:w2.cell? ⟨W.heap.size+1,4,none⟩=some (.int .i64 (sh k).l1):=Below.old hb2 (by go_simp);have p5:w2.cell? ⟨W.heap.size+1,5,none⟩=some (.int .i64 (sh k).w0):=Below.old hb2 (by go_simp);have p6:w2.cell? ⟨W.heap.size+1,6,none⟩=some (.int .i64 (sh k).w1):=Below.old hb2 (by go_simp);have hz2:W.heap.size+1<w2.heap.size:=by have:=hb2.size;simp at this;omega
 have HB2:=Lib.hid hb2;clear hb2
 gi_loopw [7,30] (fun sl i wr=>∃(j:Nat) (vs:List Value),j≤3∧i=.int .i64 j∧wr.ownsRow (w2.heap.size+1) 101 1 sl j vs∧(∀ u,u<j→∃ v,vs[u]? = some v∧Spn v (spanA (sh k) u) (spanB (sh k) u) 0 9999 wr) ∧
   Below (w2.heap.size+1) (w2.alloc (.cells measuresV 119)) wr) (fun _ i _=>3-(intOf i).toNat)
 case atStart=>exact⟨0,[],by omega,rfl,⟨rfl,.inl ⟨rfl,rfl⟩⟩,(fun j h=>absurd h (by omega)),Below.refl _ _⟩
 case round=>
  obtain⟨j,vs,hj,rfl,hown,hvs,hb⟩:=hrel;have c1:wr.cell? ⟨W.heap.size+1,1,none⟩=some (.int .i64 (sh k).s0):=by rw[hb.cell (by simp;omega)];go_simp
  have c2:wr.cell? ⟨W.heap.size+1,2,none⟩=some (.int .i64 (sh k).s1):=by rw[hb.cell (by simp;omega)];go_simp
  have c3:wr.cell? ⟨W.heap.size+1,3,none⟩=some (.int .i64 (sh k).l0):=by rw[hb.cell (by simp;omega)];go_simp
  have c4:wr.cell? ⟨W.heap.size+1,4,none⟩=some (.int .i64 (sh k).l1):=by rw[hb.cell (by simp;omega)];go_simp
  have c5:wr.cell? ⟨W.heap.size+1,5,none⟩=some (.int .i64 (sh k).w0):=by rw[hb.cell (by simp;omega)];go_simp
  have c6:wr.cell? ⟨W.heap.size+1,6,none⟩=some (.int .i64 (sh k).w1):=by rw[hb.cell (by simp;omega)];go_simp
  have m0:wr.cell? ⟨w2.heap.size,0,none⟩=some (.func (.func 105) #[] #[]):=by rw[hb.cell (by simp)];simp[measuresV]
  have m1:wr.cell? ⟨w2.heap.size,1,none⟩=some (.func (.func 106) #[] #[]):=by rw[hb.cell (by simp)];simp[measuresV]
  have m2:wr.cell? ⟨w2.heap.size,2,none⟩=some (.func (.func 107) #[] #[]):=by rw[hb.cell (by simp)];simp[measuresV]
  have m3:wr.cell? ⟨w2.heap.size,3,none⟩=some (.func (.func 108) #[] #[]):=by rw[hb.cell (by simp)];simp[measuresV]
  have m4:wr.cell? ⟨w2.heap.size,4,none⟩=some (.func (.func 109) #[] #[]):=by rw[hb.cell (by simp)];simp[measuresV]
  have m5:wr.cell? ⟨w2.heap.size,5,none⟩=some (.func (.func 110) #[] #[]):=by rw[hb.cell (by simp)];simp[measuresV]
  have hz0:w2.heap.size<wr.heap.size:=by have:=hb.size;simp at this;omega
  have hz1:W.heap.size+1<wr.heap.size:=by omega
  have HB:=Lib.hid hb;have HV:=Lib.hid hvs;have HO:=Lib.hid hown;clear hb hvs hown p1 p2 p3 p4 p5 p6;by_cases hlt:j<3
  ·have h3:j=0∨j=1∨j=2:=by omega
   rcases h3 with rfl|rfl|rfl
   ·gi_wp2_with (first
      |(gi_at_call 105;refine(zAb _ _ _).mono ?_;rintro e w5 ⟨rfl,rfl⟩)
      |(gi_at_call 107;refine(zzb _ _ _).mono ?_;rintro e w5 ⟨rfl,rfl⟩)
      |(gi_at_call 109;refine(zyb _ _ _).mono ?_;rintro e w5 ⟨rfl,rfl⟩)
      |(gi_at_call 78;refine(yq _ _ _ _ _).mono ?_;rintro e w3 ⟨lv,rfl,⟨p,q,r,rfl,hp,hq,hr3⟩,hb3⟩)
      |(gi_at_builtin;refine wpListIn_append_own _ rfl _ _ 151 rfl (w2.heap.size+1) 101 i0 .nilFunc 1 8 u151 HI.out HZ0.out HZ1.out HZ2.out rfl (by decide) _ _ _ rfl ((zu ((HO.out).alloc _) hb3).alloc _) ⟨w3.heap.size,0,none⟩ 1 1 [.func (.func 125) #[] #[ptr p,ptr q,ptr r]] rfl rfl (cell_one_new _ _ _) (by simp[Value.oneCell']) (by simp[maxLen]) (by decide) (by have:=hb3.size;simp at *;omega) ?_;intro v' w4 hown4 hg4 hnil4))
    have hx:=(zu ((HO.out).alloc (.cells #[.func (.func 105) #[] #[],.func (.func 106) #[] #[]] 119)) hb3).alloc (.cells #[.func (.func 125) #[] #[ptr p,ptr q,ptr r]] 101);have hs3:=hb3.size;simp at hs3;go_roundw
    case rel=>
     refine⟨0+1,vs++[.func (.func 125) #[] #[ptr p,ptr q,ptr r]],by omega,by first|rfl|go_num,hown4,zSb HO.out.1 (fun j hj=>?_) ?_,?_⟩
     ·obtain⟨v,h1,h2⟩:=HV.out j hj;exact⟨v,h1,(((h2.alloc _).below hb3).alloc _).grown hg4 (zha hx)⟩
     ·exact(Spn.alloc ⟨p,q,r,rfl,hp,hq,hr3⟩ _).grown hg4 (zha hx)
     ·exact((((HB.out.alloc (by omega) _).trans (hb3.mono (by simp;omega))).alloc (by omega) _).grown hg4 (by simp;omega) (fun g hg=>(hx.lt g hg).1))
    case measure=>simp[intOf]
   ·gi_wp2_with (first
      |(gi_at_call 105;refine(zAb _ _ _).mono ?_;rintro e w5 ⟨rfl,rfl⟩)
      |(gi_at_call 107;refine(zzb _ _ _).mono ?_;rintro e w5 ⟨rfl,rfl⟩)
      |(gi_at_call 109;refine(zyb _ _ _).mono ?_;rintro e w5 ⟨rfl,rfl⟩)
      |(gi_at_call 78;refine(yq _ _ _ _ _).mono ?_;rintro e w3 ⟨lv,rfl,⟨p,q,r,rfl,hp,hq,hr3⟩,hb3⟩)
      |(gi_at_builtin;refine wpListIn_append_own _ rfl _ _ 151 rfl (w2.heap.size+1) 101 i0 .nilFunc 1 8 u151 HI.out HZ0.out HZ1.out HZ2.out rfl (by decide) _ _ _ rfl ((zu ((HO.out).alloc _) hb3).alloc _) ⟨w3.heap.size,0,none⟩ 1 1 [.func (.func 125) #[] #[ptr p,ptr q,ptr r]] rfl rfl (cell_one_new _ _ _) (by simp[Value.oneCell']) (by simp[maxLen]) (by decide) (by have:=hb3.size;simp at *;omega) ?_;intro v' w4 hown4 hg4 hnil4))
    have hx:=(zu ((HO.out).alloc (.cells #[.func (.func 107) #[] #[],.func (.func 108) #[] #[]] 119)) hb3).alloc (.cells #[.func (.func 125) #[] #[ptr p,ptr q,ptr r]] 101);have hs3:=hb3.size;simp at hs3;go_roundw
    case rel=>
     refine⟨1+1,vs++[.func (.func 125) #[] #[ptr p,ptr q,ptr r]],by omega,by first|rfl|go_num,hown4,zSb HO.out.1 (fun j hj=>?_) ?_,?_⟩
     ·obtain⟨v,h1,h2⟩:=HV.out j hj;exact⟨v,h1,(((h2.alloc _).below hb3).alloc _).grown hg4 (zha hx)⟩
     ·exact(Spn.alloc ⟨p,q,r,rfl,hp,hq,hr3⟩ _).grown hg4 (zha hx)
     ·exact((((HB.out.alloc (by omega) _).trans (hb3.mono (by simp;omega))).alloc (by omega) _).grown hg4 (by simp;omega) (fun g hg=>(hx.lt g hg).1))
    case measure=>simp[intOf]
   ·gi_wp2_with (first
      |(gi_at_call 105;refine(zAb _ _ _).mono ?_;rintro e w5 ⟨rfl,rfl⟩)
      |(gi_at_call 107;refine(zzb _ _ _).mono ?_;rintro e w5 ⟨rfl,rfl⟩)
      |(gi_at_call 109;refine(zyb _ _ _).mono ?_;rintro e w5 ⟨rfl,rfl⟩)
      |(gi_at_call 78;refine(yq _ _ _ _ _).mono ?_;rintro e w3 ⟨lv,rfl,⟨p,q,r,rfl,hp,hq,hr3⟩,hb3⟩)
      |(gi_at_builtin;refine wpListIn_append_own _ rfl _ _ 151 rfl (w2.heap.size+1) 101 i0 .nilFunc 1 8 u151 HI.out HZ0.out HZ1.out HZ2.out rfl (by decide) _ _ _ rfl ((zu ((HO.out).alloc _) hb3).alloc _) ⟨w3.heap.size,0,none⟩ 1 1 [.func (.func 125) #[] #[ptr p,ptr q,ptr r]] rfl rfl (cell_one_new _ _ _) (by simp[Value.oneCell']) (by simp[maxLen]) (by decide) (by have:=hb3.size;simp at *;omega) ?_;intro v' w4 hown4 hg4 hnil4))
    have hx:=(zu ((HO.out).alloc (.cells #[.func (.func 109) #[] #[],.func (.func 110) #[] #[]] 119)) hb3).alloc (.cells #[.func (.func 125) #[] #[ptr p,ptr q,ptr r]] 101);have hs3:=hb3.size;simp at hs3;go_roundw
    case rel=>
     refine⟨2+1,vs++[.func (.func 125) #[] #[ptr p,ptr q,ptr r]],by omega,by first|rfl|go_num,hown4,zSb HO.out.1 (fun j hj=>?_) ?_,?_⟩
     ·obtain⟨v,h1,h2⟩:=HV.out j hj;exact⟨v,h1,(((h2.alloc _).below hb3).alloc _).grown hg4 (zha hx)⟩
     ·exact(Spn.alloc ⟨p,q,r,rfl,hp,hq,hr3⟩ _).grown hg4 (zha hx)
     ·exact((((HB.out.alloc (by omega) _).trans (hb3.mono (by simp;omega))).alloc (by omega) _).grown hg4 (by simp;omega) (fun g hg=>(hx.lt g hg).1))
    case measure=>simp[intOf]
  ·obtain rfl:j=3:=by omega
   obtain⟨g,cap,rfl,hg1,hg2⟩:=HO.out.form (by omega);have hB4:Below W.heap.size W wr:=(HW2.out.trans (HB2.out.mono (by simp;omega))).trans ((((Below.refl w2.heap.size w2).alloc (Nat.le_refl _) _).trans (HB.out.mono (by omega))).mono (by omega));have HB4:=Lib.hid hB4;clear hB4
   gi_wp2_with (gi_at_call 55;refine(yi g 3 cap (fun u=>outZ (spanA (sh k) u) (spanB (sh k) u) 0 9999) wr (by omega) (Lib.hid fun u hu=>?_)).mono ?_)
   ·obtain⟨v,h1,h2⟩:=HV.out u hu;exact⟨v,by rw[HO.out.cellAt u (by omega)];exact h1,h2.is⟩
   ·rintro e w5 ⟨f,rfl,hf,hb5⟩;subst hf;gi_wp2;go_ret;exact⟨rfl,HB4.out.trans (hb5.mono HB4.out.size)⟩
end
section
open Go.RowKit
theorem yuc{P:Nat→Prop}:∀ k:Nat,(∃ j,j<k∧P j)→∃ j,j<k∧P j∧∀ i,i<j→¬ P i
 |0,⟨j,h,_⟩=>by omega
 |k+1,⟨j,hj,hp⟩=>by
  by_cases h:∃ j,j<k∧P j
  ·obtain⟨j0,h1,h2,h3⟩:=yuc k h;exact⟨j0,by omega,h2,h3⟩
  ·have e:j=k:=by
    rcases Nat.lt_succ_iff_lt_or_eq.1 hj with h'|h'
    ·exact absurd ⟨j,h',hp⟩ h
    ·exact h'
   subst e;exact⟨j,hj,hp,fun i hi h'=>h ⟨i,hi,h'⟩⟩
abbrev sameN(sh:Nat→Shaft)(j k:Nat):Bool:=(sh j).name.toList==(sh k).name.toList
open Classical in
noncomputable def shaftZ(sh:Nat→Shaft)(k:Nat):Int:=
 if ye (sh k).name then(if∃ j,j<k∧sameN sh j k=true then 5 else firstZ (fun u=>outZ (spanA (sh k) u) (spanB (sh k) u) 0 9999) 3) else 4
theorem checkShaft_any(rs rl rw many:Int)(b o n c k:Nat)(sh:Nat→Shaft)(W:World)(hk:k<n)(hn:n≤20)(hc:n≤c)(hsh:Hid (zA W (some ⟨b,o,none⟩) n sh))(hln:(sh k).name.size≤200) :
  CallsIn Fc 0 Tryz.prog 138 #[.agg #[.int .i64 rs,.int .i64 rl,.int .i64 rw,.int .i64 many,.slice (some ⟨b,o,none⟩) n c],.int .i64 k] W (ya (shaftZ sh k) W):=by
 by_cases hnm:ye (sh k).name
 ·by_cases htw:∃ j,j<k∧sameN sh j k=true
  ·have hz:shaftZ sh k=5:=by simp only[shaftZ,if_pos hnm,if_pos htw]
   rw[hz];obtain⟨j0,hj0,hy,hne⟩:=yuc k htw;have HNM:=Lib.hid hnm;have HY:Hid (((sh j0).name.toList==(sh k).name.toList)=true):=Lib.hid hy;have HNE:Hid (∀ i,i<j0→((sh i).name.toList==(sh k).name.toList)=false):=Lib.hid fun i hi=>by have:=hne i hi;simpa[sameN] using this
   clear hnm htw hz hy hne;have hx:zKb W b (o+k*7) (sh k):=by obtain⟨b',o',e,h⟩:=hsh.out k hk;cases e;exact h
   have hbl:=hx.lt;obtain⟨e0,e1,e2,e3,e4,e5,e6⟩:=hx;gi_enter Tryz.func138,Tryz.ntmps138;have hW2:Below W.heap.size W ((W.alloc (.cells #[.int .i64 rs,.int .i64 rl,.int .i64 rw,.int .i64 many,.slice (some ⟨b,o,none⟩) n c] 99)).alloc
     (.cells #[.string (sh k).name,.int .i64 (sh k).s0,.int .i64 (sh k).s1,.int .i64 (sh k).l0,.int .i64 (sh k).l1,.int .i64 (sh k).w0,.int .i64 (sh k).w1] 65)):=
    ((Below.refl _ _).alloc (Nat.le_refl _) _).alloc (by simp) _
   have HW2:=Lib.hid hW2;clear hW2
   gi_wp2_with (first
    |(gi_at_call 159;refine(yQ _ _ hln).mono ?_;rintro e w' ⟨nb,rfl,hnb,rfl⟩;obtain rfl:nb=true:=hnb.2 HNM.out;clear hnb)
    |(gi_at_call 161;refine(contains_yes _ n k c j0 sh _ (sh k).name _ (by omega) (by omega) (Lib.hid (hsh.out.below HW2.out)) (Lib.hid (by go_simp)) hj0 HY HNE).mono ?_;rintro e w2 ⟨rfl,hb2⟩))
   go_ret;exact⟨rfl,HW2.out.trans (hb2.mono HW2.out.size)⟩
  ·have hz:shaftZ sh k=firstZ (fun u=>outZ (spanA (sh k) u) (spanB (sh k) u) 0 9999) 3:=by simp only[shaftZ,if_pos hnm,if_neg htw]
   rw[hz];exact checkShaft_spans rs rl rw many b o n c k sh W hk hn hc hsh hln (Lib.hid hnm) (Lib.hid fun j hj=>by
    cases h:((sh j).name.toList==(sh k).name.toList) with
    |false=>rfl
    |true=>exact absurd ⟨j,hj,h⟩ htw)
 ·have hz:shaftZ sh k=4:=by simp only[shaftZ,if_neg hnm]
  rw[hz];have HNM:=Lib.hid hnm;clear hnm hz;have hx:zKb W b (o+k*7) (sh k):=by obtain⟨b',o',e,h⟩:=hsh.out k hk;cases e;exact h
  have hbl:=hx.lt;obtain⟨e0,e1,e2,e3,e4,e5,e6⟩:=hx;gi_enter Tryz.func138,Tryz.ntmps138
  gi_wp2_with (gi_at_call 159;refine(yQ _ _ hln).mono ?_;rintro e w' ⟨nb,rfl,hnb,rfl⟩;obtain rfl:nb=false:=Bool.eq_false_iff.2 fun h=>HNM.out (hnb.1 h);clear hnb)
  go_ret;exact⟨rfl,((Below.refl _ _).alloc (Nat.le_refl _) _).alloc (by simp) _⟩
theorem checkShafts_any(rs rl rw many:Int)(A:Option Addr)(n c:Nat)(sh:Nat→Shaft)(W:World)(hn:n≤20)(hc:n≤c)(hsh:Hid (zA W A n sh))(hln:Hid (∀ k,k<n→(sh k).name.size≤200)) :
  CallsIn Fc 0 Tryz.prog 98 #[zga rs rl rw many A n c] W (ya (firstZ (shaftZ sh) n) W):=by
 gi_enter Tryz.func98,Tryz.ntmps98;gi_wp2
 gi_loopw [9] (fun i wr=>∃ k:Nat,k≤n∧i=.int .i64 k∧Below W.heap.size W wr∧Below (W.heap.size+1) (W.alloc (.cells #[.int .i64 rs,.int .i64 rl,.int .i64 rw,.int .i64 many,.slice A n c] 99)) wr∧∀ j,j<k→shaftZ sh j=0) (fun i _=>n-(intOf i).toNat)
 case atStart=>exact⟨0,Nat.zero_le _,rfl,(Below.refl _ _).alloc (Nat.le_refl _) _,Below.refl _ _,fun j h=>by omega⟩
 case round=>
  obtain⟨k,hk,rfl,hb,hb',hz⟩:=hrel;by_cases hlt:k<n
  ·obtain⟨b,o,rfl,_⟩:=hsh.out k hlt;have c0:wr.cell? ⟨W.heap.size,0,none⟩=some (.int .i64 rs):=by rw[hb'.cell (by simp)];go_simp
   have c1:wr.cell? ⟨W.heap.size,1,none⟩=some (.int .i64 rl):=by rw[hb'.cell (by simp)];go_simp
   have c2:wr.cell? ⟨W.heap.size,2,none⟩=some (.int .i64 rw):=by rw[hb'.cell (by simp)];go_simp
   have c3:wr.cell? ⟨W.heap.size,3,none⟩=some (.int .i64 many):=by rw[hb'.cell (by simp)];go_simp
   have c4:wr.cell? ⟨W.heap.size,4,none⟩=some (.slice (some ⟨b,o,none⟩) n c):=by rw[hb'.cell (by simp)];go_simp
   have HB:=Lib.hid hb;have HB':=Lib.hid hb';have HZ:=Lib.hid hz;clear hb hb' hz;have hcall:=checkShaft_any rs rl rw many b o n c k sh wr hlt hn hc (Lib.hid (hsh.out.below HB.out)) (hln.out k hlt);by_cases h0:shaftZ sh k=0
   ·rw[h0] at hcall;have HZ':Hid (∀ j,j<k+1→shaftZ sh j=0):=Lib.hid fun j hj=>by
     rcases Nat.lt_succ_iff_lt_or_eq.1 hj with h|rfl
     ·exact HZ.out j h
     ·exact h0
    clear h0
    gi_wp2_with (gi_at_call 138;refine hcall.mono ?_;rintro e w' ⟨rfl,hb1⟩)
    go_roundw
    case rel=>exact⟨k+1,by omega,by go_num,HB.out.trans (hb1.mono HB.out.size),HB'.out.trans (hb1.mono (by have:=HB'.out.size;simpa using this)),HZ'.out⟩
    case measure=>simp[intOf];omega
   ·have HF:Hid (firstZ (shaftZ sh) n=shaftZ sh k):=Lib.hid (yv HZ.out h0 hlt);generalize shaftZ sh k=z at *
    gi_wp2_with (gi_at_call 138;refine hcall.mono ?_;rintro e w' ⟨rfl,hb1⟩)
    go_ret;exact⟨congrArg (fun z=>Ending.returned (Value.int .i64 z)) HF.out.symm,HB.out.trans (hb1.mono HB.out.size)⟩
  ·have HF:Hid (firstZ (shaftZ sh) n=0):=Lib.hid (firstZ_zero.2 fun j hj=>hz j (by omega));gi_wp2;go_ret;exact⟨congrArg (fun z=>Ending.returned (Value.int .i64 z)) HF.out.symm,hb⟩
noncomputable def stockF(rs rl rw many:Int)(n:Nat)(sh:Nat→Shaft)(i:Nat):Int:=if i=0 then ruleZ rs rl rw many else if i=1 then(if n≤9 then 0 else 2) else firstZ (shaftZ sh) n
noncomputable def stockZ(rs rl rw many:Int)(n:Nat)(sh:Nat→Shaft):Int:=firstZ (stockF rs rl rw many n sh) 3
theorem yca(rs rl rw many:Int)(A:Option Addr)(n c:Nat)(sh:Nat→Shaft)(W:World)(hn:n≤20)(hc:n≤c)(hsh:Hid (zA W A n sh))(hln:Hid (∀ k,k<n→(sh k).name.size≤200)) :
  CallsIn Fc 0 Tryz.prog 56 #[zga rs rl rw many A n c] W (ya (stockZ rs rl rw many n sh) W):=by
 have hB1:∀ x,Below W.heap.size W ((W.alloc (.cells #[.int .i64 rs,.int .i64 rl,.int .i64 rw,.int .i64 many,.slice A n c] 99)).alloc x):=fun x=>((Below.refl _ _).alloc (Nat.le_refl _) _).alloc (by simp) _
 have HB1:=Lib.hid hB1;clear hB1;gi_enter Tryz.func56,Tryz.ntmps56
 gi_wp2_with (gi_at_call 55;refine(yi _ 3 _ (stockF rs rl rw many n sh) _ (by omega) (Lib.hid fun u hu=>?_)).mono ?_)
 ·have h3:u=0∨u=1∨u=2:=by omega
  rcases h3 with rfl|rfl|rfl
  ·exact⟨.func (.func 96) #[zga rs rl rw many A n c] #[],by go_simp,.inl ⟨96,_,.inl rfl,rfl,fun w' hb=>checkRule_any rs rl rw many A n c w'⟩⟩
  ·exact⟨.func (.func 97) #[zga rs rl rw many A n c] #[],by go_simp,.inl ⟨97,_,.inr (.inl rfl),rfl,fun w' hb=>checkCount_any rs rl rw many A n c w' hn⟩⟩
  ·exact⟨.func (.func 98) #[zga rs rl rw many A n c] #[],by go_simp,.inl ⟨98,_,.inr (.inr (.inl rfl)),rfl,fun w' hb=>checkShafts_any rs rl rw many A n c sh w' hn hc (Lib.hid ((hsh.out.below (HB1.out _)).below hb)) hln⟩⟩
 ·rintro e w5 ⟨f,rfl,hf,hb5⟩;subst hf;gi_wp2;go_ret;exact⟨rfl,(HB1.out _).trans (hb5.mono (HB1.out _).size)⟩
end
section
open Go.RowKit
section
variable {rs rl rw many:Int}{n k:Nat}{sh:Nat→Shaft}{z:Int}
theorem yH(h:¬ yN rs rl rw many):stockZ rs rl rw many n sh=1:=by
 have h1:ruleZ rs rl rw many=1:=by
  rcases ruleZ_one rs rl rw many with e|e
  ·exact absurd (yha.1 e) h
  ·exact e
 have h2:stockF rs rl rw many n sh 0=1:=by simp only[stockF,if_true,h1]
 exact(yv (F:=stockF rs rl rw many n sh) (k:=0) (fun j hj=>by omega) (by rw[h2];decide) (by omega)).trans h2
theorem yLa(h:yN rs rl rw many):stockF rs rl rw many n sh 0=0:=by simp only[stockF,if_true];exact yha.2 h
theorem stock_count(h:yN rs rl rw many)(hn:9<n):stockZ rs rl rw many n sh=2:=by
 have h2:stockF rs rl rw many n sh 1=2:=by simp only[stockF];rw[if_neg (by decide),if_pos trivial,if_neg (by omega)]
 refine(yv (F:=stockF rs rl rw many n sh) (k:=1) (fun j hj=>?_) (by rw[h2];decide) (by omega)).trans h2;obtain rfl:j=0:=by omega
 exact yLa h
theorem stockF_one(hn:n≤9):stockF rs rl rw many n sh 1=0:=by simp only[stockF];rw[if_neg (by decide),if_pos trivial,if_pos hn]
theorem stockF_two:stockF rs rl rw many n sh 2=firstZ (shaftZ sh) n:=by simp only[stockF];rw[if_neg (by decide),if_neg (by decide)]
theorem yGa(h:yN rs rl rw many)(hn:n≤9):stockZ rs rl rw many n sh=firstZ (shaftZ sh) n:=by show firstZ (stockF rs rl rw many n sh) 3=_;simp only[firstZ];rw[yLa h,stockF_one hn,stockF_two];simp
theorem yj(h:yN rs rl rw many)(hn:n≤9)(hk:k<n)(hz:∀ j,j<k→shaftZ sh j=0)(he:shaftZ sh k=z)(h0:z≠0):stockZ rs rl rw many n sh=z:=by rw[yGa h hn,yv hz (by rw[he];exact h0) hk,he]
theorem stock_fair(h:yN rs rl rw many)(hn:n≤9)(hz:∀ j,j<n→shaftZ sh j=0):stockZ rs rl rw many n sh=0:=by rw[yGa h hn];exact firstZ_zero.2 hz
theorem shaftZ_name(h:¬ ye (sh k).name):shaftZ sh k=4:=by simp only[shaftZ,if_neg h]
theorem shaftZ_twice{j:Nat}(h:ye (sh k).name)(hj:j<k)(he:((sh j).name.toList==(sh k).name.toList)=true):shaftZ sh k=5:=by simp only[shaftZ,if_pos h];rw[if_pos ⟨j,hj,he⟩]
theorem yoc(hne:∀ j,j<k→((sh j).name.toList==(sh k).name.toList)=false):¬∃ j,j<k∧sameN sh j k=true:=fun⟨j,hj,h⟩=>by have:=hne j hj;simp only[sameN] at h;rw[h] at this;cases this
theorem out_one(a b l m:Int):outZ a b l m=0∨outZ a b l m=1:=by
 unfold outZ;split
 ·exact .inl rfl
 ·exact .inr rfl
theorem yO{u:Nat}(h:ye (sh k).name)(hne:∀ j,j<k→((sh j).name.toList==(sh k).name.toList)=false)(hu:u<3)(ho:outZ (spanA (sh k) u) (spanB (sh k) u) 0 9999≠0):shaftZ sh k=1:=by
 simp only[shaftZ,if_pos h];rw[if_neg (yoc hne)];rcases yqa (F:=fun u=>outZ (spanA (sh k) u) (spanB (sh k) u) 0 9999) (fun u=>out_one ..) 3 with e|e
 ·exact absurd (firstZ_zero.1 e u hu) ho
 ·exact e
theorem yNa(h:ye (sh k).name)(hne:∀ j,j<k→((sh j).name.toList==(sh k).name.toList)=false)(h0:outZ (sh k).s0 (sh k).s1 0 9999=0)(h1:outZ (sh k).l0 (sh k).l1 0 9999=0)(h2:outZ (sh k).w0 (sh k).w1 0 9999=0):shaftZ sh k=0:=by
 simp only[shaftZ,if_pos h];rw[if_neg (yoc hne)];refine firstZ_zero.2 fun u hu=>?_
 have h3:u=0∨u=1∨u=2:=by omega
 rcases h3 with rfl|rfl|rfl
 ·exact h0
 ·exact h1
 ·exact h2
theorem in_of{a b:Int}(h:insideB a b 0 9999=true):outZ a b 0 9999=0:=by simp[insideB,inB] at h;exact if_pos (by omega)
theorem yJc{a b:Int}(h:insideB a b 0 9999=false):outZ a b 0 9999≠0:=by
 unfold outZ;rw[if_neg fun h'=>?_]
 ·decide
 ·have h2:insideB a b 0 9999=true:=by simp[insideB,inB];omega
  rw[h] at h2;cases h2
end
theorem isName_if(s:ByteArray)(w:World)(hs:s.size≤maxLen):CallsIn Fc 0 Tryz.prog 63 #[.string s] w (yZc (ye s) w):=by
 unfold maxLen at hs;cases h1:inB s.size 1 12 with
 |false=>
  have HN:Hid (¬ ye s):=Lib.hid fun h=>by
   have:=h.least;have:=h.most;have h2:inB s.size 1 12=true:=by simp[inB];omega
   rw[h1] at h2;cases h2
  gi_enter Tryz.func63,Tryz.ntmps63
  gi_wp2_with (gi_at_call 62;refine(zYa _ _ _ _).mono ?_;rintro e w' ⟨rfl,rfl⟩)
  go_ret;exact⟨false,rfl,⟨fun h=>absurd h (by decide),fun h=>absurd h HN.out⟩,rfl⟩
 |true=>
  have hb:1≤s.size∧s.size≤12:=by simp[inB] at h1;omega
  obtain⟨hb1,hb2⟩:=hb;have h0:0<s.size:=by omega
  cases h2:letterB s[0] with
  |false=>
   have HN:Hid (¬ ye s):=Lib.hid fun h=>by have h3:=h.first h0;rw[h2] at h3;cases h3
   gi_enter Tryz.func63,Tryz.ntmps63
   gi_wp2_with (first
    |(gi_at_call 62;refine(zYa _ _ _ _).mono ?_;rintro e w' ⟨rfl,rfl⟩)
    |(gi_at_call 103;refine(zgb _ _).mono ?_;rintro e w' ⟨rfl,rfl⟩))
   go_ret;exact⟨false,rfl,⟨fun h=>absurd h (by decide),fun h=>absurd h HN.out⟩,rfl⟩
  |true=>
   gi_enter Tryz.func63,Tryz.ntmps63
   gi_wp2_with (first
    |(gi_at_call 62;refine(zYa _ _ _ _).mono ?_;rintro e w' ⟨rfl,rfl⟩)
    |(gi_at_call 103;refine(zgb _ _).mono ?_;rintro e w' ⟨rfl,rfl⟩))
   gi_loop [3] (fun i=>∃ k:Nat,k≤s.size∧i=.int .i64 k∧∀(j:Nat) (h:j<s.size),j<k→letterB s[j]=true∨digitB s[j]=true) (fun i=>s.size-(intOf i).toNat)
   case atStart=>exact⟨0,Nat.zero_le _,rfl,fun j h hj=>by omega⟩
   case round=>
    obtain⟨k,hk,rfl,hall⟩:=hrel;have HA:=Lib.hid hall;clear hall;by_cases hlt:k<s.size
    ·cases h3:letterB s[k] with
     |true=>
      gi_wp2_with (first
       |(gi_at_call 103;refine(zgb _ _).mono ?_;rintro e w' ⟨rfl,rfl⟩)
       |(gi_at_call 104;refine(yYa _ _).mono ?_;rintro e w' ⟨rfl,rfl⟩))
      go_round
      case rel=>exact⟨k+1,by omega,by go_num,fun j h hj=>by
       rcases Nat.lt_succ_iff_lt_or_eq.1 hj with hj|rfl
       ·exact HA.out j h hj
       ·exact .inl h3⟩
      case measure=>simp[intOf];omega
     |false=>
      cases h4:digitB s[k] with
      |true=>
       gi_wp2_with (first
        |(gi_at_call 103;refine(zgb _ _).mono ?_;rintro e w' ⟨rfl,rfl⟩)
        |(gi_at_call 104;refine(yYa _ _).mono ?_;rintro e w' ⟨rfl,rfl⟩))
       go_round
       case rel=>exact⟨k+1,by omega,by go_num,fun j h hj=>by
        rcases Nat.lt_succ_iff_lt_or_eq.1 hj with hj|rfl
        ·exact HA.out j h hj
        ·exact .inr h4⟩
       case measure=>simp[intOf];omega
      |false=>
       have HN:Hid (¬ ye s):=Lib.hid fun h=>by
        rcases h.rest k hlt with h5|h5
        ·rw[h3] at h5;cases h5
        ·rw[h4] at h5;cases h5
       gi_wp2_with (first
        |(gi_at_call 103;refine(zgb _ _).mono ?_;rintro e w' ⟨rfl,rfl⟩)
        |(gi_at_call 104;refine(yYa _ _).mono ?_;rintro e w' ⟨rfl,rfl⟩))
       go_ret;exact⟨false,rfl,⟨fun h=>absurd h (by decide),fun h=>absurd h HN.out⟩,rfl⟩
    ·gi_wp2;go_ret;exact⟨true,rfl,⟨fun _=>⟨hb1,hb2,fun _=>h2,fun i h=>HA.out i h (by omega)⟩,fun _=>rfl⟩,rfl⟩
theorem yg(rs rl rw many:Int)(A:Option Addr)(n c:Nat)(sh:Nat→Shaft)(W:World)(hc:n≤c)(hsh:Hid (zA W A n sh))(hnm:Hid (∀ k,k<n→(sh k).name.size≤100)) :
  CallsIn Fc 0 Tryz.prog 18 #[zga rs rl rw many A n c] W (ya (stockZ rs rl rw many n sh) W):=by
 have hB2:∀ x y,Below W.heap.size W ((W.alloc x).alloc y):=fun x y=>((Below.refl _ _).alloc (Nat.le_refl _) _).alloc (by simp) _
 have HB2:=Lib.hid hB2;clear hB2;gi_enter Tryz.func18,Tryz.ntmps18;cases h1:inB rs 0 9999 with
 |false=>
  have HS:Hid (stockZ rs rl rw many n sh=1):=Lib.hid (yH fun h=>by have q1:=h.s0;have q2:=h.s1;have q3:=h.l0;have q4:=h.l1;have q5:=h.w0;have q6:=h.w1;have q7:=h.m0;have q8:=h.m1;simp[inB] at h1;omega)
  gi_wp2_with (gi_at_call 62;refine(zYa _ _ _ _).mono ?_;rintro e w' ⟨rfl,rfl⟩)
  go_ret;exact⟨congrArg (fun z=>Ending.returned (Value.int .i64 z)) (HS.out).symm,HB2.out _ _⟩
 |true=>
 cases h2:inB rl 0 9999 with
 |false=>
  have HS:Hid (stockZ rs rl rw many n sh=1):=Lib.hid (yH fun h=>by have q1:=h.s0;have q2:=h.s1;have q3:=h.l0;have q4:=h.l1;have q5:=h.w0;have q6:=h.w1;have q7:=h.m0;have q8:=h.m1;simp[inB] at h2;omega)
  gi_wp2_with (gi_at_call 62;refine(zYa _ _ _ _).mono ?_;rintro e w' ⟨rfl,rfl⟩)
  go_ret;exact⟨congrArg (fun z=>Ending.returned (Value.int .i64 z)) (HS.out).symm,HB2.out _ _⟩
 |true=>
 cases h3:inB rw 0 9999 with
 |false=>
  have HS:Hid (stockZ rs rl rw many n sh=1):=Lib.hid (yH fun h=>by have q1:=h.s0;have q2:=h.s1;have q3:=h.l0;have q4:=h.l1;have q5:=h.w0;have q6:=h.w1;have q7:=h.m0;have q8:=h.m1;simp[inB] at h3;omega)
  gi_wp2_with (gi_at_call 62;refine(zYa _ _ _ _).mono ?_;rintro e w' ⟨rfl,rfl⟩)
  go_ret;exact⟨congrArg (fun z=>Ending.returned (Value.int .i64 z)) (HS.out).symm,HB2.out _ _⟩
 |true=>
 cases h4:inB many 2 4 with
 |false=>
  have HS:Hid (stockZ rs rl rw many n sh=1):=Lib.hid (yH fun h=>by have q1:=h.s0;have q2:=h.s1;have q3:=h.l0;have q4:=h.l1;have q5:=h.w0;have q6:=h.w1;have q7:=h.m0;have q8:=h.m1;simp[inB] at h4;omega)
  gi_wp2_with (gi_at_call 62;refine(zYa _ _ _ _).mono ?_;rintro e w' ⟨rfl,rfl⟩)
  go_ret;exact⟨congrArg (fun z=>Ending.returned (Value.int .i64 z)) (HS.out).symm,HB2.out _ _⟩
 |true=>
 have HRU:Hid (yN rs rl rw many):=Lib.hid (by simp[inB] at h1 h2 h3 h4;exact⟨h1.1,h1.2,h2.1,h2.2,h3.1,h3.2,h4.1,h4.2⟩);by_cases hn:(n:Int)>9
 ·have HS:Hid (stockZ rs rl rw many n sh=2):=Lib.hid (stock_count HRU.out (by omega))
  gi_wp2_with (gi_at_call 62;refine(zYa _ _ _ _).mono ?_;rintro e w' ⟨rfl,rfl⟩)
  go_ret;exact⟨congrArg (fun z=>Ending.returned (Value.int .i64 z)) (HS.out).symm,HB2.out _ _⟩
 ·have hn9:n≤9:=by omega
  gi_wp2_with (gi_at_call 62;refine(zYa _ _ _ _).mono ?_;rintro e w' ⟨rfl,rfl⟩)
  clear h1 h2 h3 h4
  gi_loopw [4] (fun i wr=>∃ k:Nat,k≤n∧i=.int .i64 k∧wr.cell? ⟨W.heap.size,4,none⟩=some (.slice A n c)∧Below W.heap.size W wr∧∀ j,j<k→shaftZ sh j=0) (fun i _=>n-(intOf i).toNat)
  case atStart=>exact⟨0,by omega,rfl,by go_simp,HB2.out _ _,fun j h=>by omega⟩
  case round=>
   obtain⟨k,hk,rfl,c4,hb,hok⟩:=hrel
   rename World=>wq
   have HB:=Lib.hid hb;have HOK:=Lib.hid hok;have hs:=hb.size;have hsz:W.heap.size<wq.heap.size:=World.block_lt_of_cell? wq _ c4;clear hb hok;by_cases hlt:k<n
   ·obtain⟨b,o,rfl,hx⟩:=hsh.out k hlt;obtain⟨x0,x1,x2,x3,x4,x5,x6⟩:=hx.below HB.out;have hlb:b<wq.heap.size:=World.block_lt_of_cell? wq _ x0
    gi_wp2_with (gi_at_call 63;refine(isName_if _ _ (by have:=hnm.out k hlt;simp[maxLen];omega)).mono ?_;rintro e w' ⟨nb,rfl,hnb,rfl⟩;have HNB:=Lib.hid hnb;clear hnb;cases nb)
    ·have HNN:Hid (¬ ye (sh k).name):=Lib.hid fun h=>absurd (HNB.out.2 h) (by decide)
     go_ret;exact⟨congrArg (fun z=>Ending.returned (Value.int .i64 z)) (yj HRU.out hn9 hlt HOK.out (shaftZ_name HNN.out) (by decide)).symm,HB.out.alloc (by omega) _⟩
    ·have HNK:Hid (ye (sh k).name):=Lib.hid (by first|exact HNB.out.1 rfl|exact HNB.out.1 trivial);clear HNB hx
     gi_loopw [6] (fun i wi=>∃ j:Nat,j≤k∧i=.int .i64 j∧Below (wq.heap.size+1) (wq.alloc (.cells #[.string (sh k).name,.int .i64 (sh k).s0,.int .i64 (sh k).s1,.int .i64 (sh k).l0,.int .i64 (sh k).l1,.int .i64 (sh k).w0,.int .i64 (sh k).w1] 65)) wi∧∀ t,t<j→((sh t).name.toList==(sh k).name.toList)=false) (fun i _=>k-(intOf i).toNat)
     case atStart=>exact⟨0,by omega,rfl,Below.refl _ _,fun t h=>by omega⟩
     case round=>
      clear x0 x1 x2 x3 x4 x5 x6;obtain⟨j,hj,rfl,hbi,hne⟩:=hrel;have d4:wr.cell? ⟨W.heap.size,4,none⟩=some (.slice (some ⟨b,o,none⟩) n c):=by rw[hbi.cell (by simp;omega)];go_simp
      have y0:wr.cell? ⟨wq.heap.size,0,none⟩=some (.string (sh k).name):=by rw[hbi.cell (by simp)];go_simp
      have hsi:=hbi.size;simp at hsi;have HNE:=Lib.hid hne;have hbw:Below W.heap.size W wr:=(HB.out.alloc (by omega) _).trans (hbi.mono (by omega));have HBW:=Lib.hid hbw;have HBI:=Lib.hid hbi;clear hbi hbw hne c4;by_cases hlj:j<k
      ·obtain⟨b',o',e',hxj⟩:=hsh.out j (by omega);cases e';have z0:=(hxj.below HBW.out).h0;clear hxj;cases he:((sh j).name.toList==(sh k).name.toList) with
       |true=>
        have HE:=Lib.hid he;gi_wp2
        gi_region_with fail
        all_goals
         gi_wp2;go_ret;exact⟨congrArg (fun z=>Ending.returned (Value.int .i64 z)) (yj HRU.out hn9 hlt HOK.out (shaftZ_twice HNK.out hlj HE.out) (by decide)).symm,HBW.out.drew⟩
       |false=>
        gi_wp2
        gi_region_with fail
        all_goals
         gi_wp2;go_roundw
         case rel=>exact⟨j+1,by omega,by go_num,HBI.out.drew,fun t ht=>by
          rcases Nat.lt_succ_iff_lt_or_eq.1 ht with ht|rfl
          ·exact HNE.out t ht
          ·exact he⟩
         case measure=>simp[intOf];omega
      ·obtain rfl:j=k:=by omega
       have y1:wr.cell? ⟨wq.heap.size,1,none⟩=some (.int .i64 (sh j).s0):=by rw[HBI.out.cell (by simp)];go_simp
       have y2:wr.cell? ⟨wq.heap.size,2,none⟩=some (.int .i64 (sh j).s1):=by rw[HBI.out.cell (by simp)];go_simp
       have y3:wr.cell? ⟨wq.heap.size,3,none⟩=some (.int .i64 (sh j).l0):=by rw[HBI.out.cell (by simp)];go_simp
       have y4:wr.cell? ⟨wq.heap.size,4,none⟩=some (.int .i64 (sh j).l1):=by rw[HBI.out.cell (by simp)];go_simp
       have y5:wr.cell? ⟨wq.heap.size,5,none⟩=some (.int .i64 (sh j).w0):=by rw[HBI.out.cell (by simp)];go_simp
       have y6:wr.cell? ⟨wq.heap.size,6,none⟩=some (.int .i64 (sh j).w1):=by rw[HBI.out.cell (by simp)];go_simp
       cases q1:insideB (sh j).s0 (sh j).s1 0 9999 with
       |false=>
        have HQ:Hid (outZ (spanA (sh j) 0) (spanB (sh j) 0) 0 9999≠0):=Lib.hid (yJc q1)
        gi_wp2_with (gi_at_call 64;refine(yK _ _ _ _ _).mono ?_;rintro e w2 ⟨rfl,hb2⟩;(have d4:=Below.old hb2 d4);(have y3:=Below.old hb2 y3);(have y4:=Below.old hb2 y4);(have y5:=Below.old hb2 y5);(have y6:=Below.old hb2 y6);have HBW:=Lib.hid (HBW.out.trans (hb2.mono HBW.out.size));clear hb2)
        go_ret;exact⟨congrArg (fun z=>Ending.returned (Value.int .i64 z)) (yj HRU.out hn9 hlt HOK.out (yO HNK.out HNE.out (u:=0) (by omega) HQ.out) (by decide)).symm,HBW.out⟩
       |true=>
       cases q2:insideB (sh j).l0 (sh j).l1 0 9999 with
       |false=>
        have HQ:Hid (outZ (spanA (sh j) 1) (spanB (sh j) 1) 0 9999≠0):=Lib.hid (yJc q2)
        gi_wp2_with (gi_at_call 64;refine(yK _ _ _ _ _).mono ?_;rintro e w2 ⟨rfl,hb2⟩;(have d4:=Below.old hb2 d4);(have y3:=Below.old hb2 y3);(have y4:=Below.old hb2 y4);(have y5:=Below.old hb2 y5);(have y6:=Below.old hb2 y6);have HBW:=Lib.hid (HBW.out.trans (hb2.mono HBW.out.size));clear hb2)
        go_ret;exact⟨congrArg (fun z=>Ending.returned (Value.int .i64 z)) (yj HRU.out hn9 hlt HOK.out (yO HNK.out HNE.out (u:=1) (by omega) HQ.out) (by decide)).symm,HBW.out⟩
       |true=>
       cases q3:insideB (sh j).w0 (sh j).w1 0 9999 with
       |false=>
        have HQ:Hid (outZ (spanA (sh j) 2) (spanB (sh j) 2) 0 9999≠0):=Lib.hid (yJc q3)
        gi_wp2_with (gi_at_call 64;refine(yK _ _ _ _ _).mono ?_;rintro e w2 ⟨rfl,hb2⟩;(have d4:=Below.old hb2 d4);(have y3:=Below.old hb2 y3);(have y4:=Below.old hb2 y4);(have y5:=Below.old hb2 y5);(have y6:=Below.old hb2 y6);have HBW:=Lib.hid (HBW.out.trans (hb2.mono HBW.out.size));clear hb2)
        go_ret;exact⟨congrArg (fun z=>Ending.returned (Value.int .i64 z)) (yj HRU.out hn9 hlt HOK.out (yO HNK.out HNE.out (u:=2) (by omega) HQ.out) (by decide)).symm,HBW.out⟩
       |true=>
        gi_wp2_with (gi_at_call 64;refine(yK _ _ _ _ _).mono ?_;rintro e w2 ⟨rfl,hb2⟩;(have d4:=Below.old hb2 d4);(have y3:=Below.old hb2 y3);(have y4:=Below.old hb2 y4);(have y5:=Below.old hb2 y5);(have y6:=Below.old hb2 y6);have HBW:=Lib.hid (HBW.out.trans (hb2.mono HBW.out.size));clear hb2)
        go_roundw
        case rel=>
         refine⟨j+1,by omega,by go_num,d4,HBW.out,fun t ht=>?_⟩;rcases Nat.lt_succ_iff_lt_or_eq.1 ht with ht|rfl
         ·exact HOK.out t ht
         ·exact yNa HNK.out HNE.out (in_of q1) (in_of q2) (in_of q3)
        case measure=>simp[intOf];omega
   ·obtain rfl:k=n:=by omega
    gi_wp2;go_ret;exact⟨congrArg (fun z=>Ending.returned (Value.int .i64 z)) (stock_fair HRU.out hn9 HOK.out).symm,HB.out⟩
end
section
open Go.RowKit
theorem names_of{rs rl rw many:Int}{n:Nat}{sh:Nat→Shaft}(h:zxa rs rl rw many n sh):∀ k,k<n→(sh k).name.size≤100:=fun k hk=>by have:=(h.each k hk).name.most;omega
theorem ywb{a b:Int}(h0:0≤a)(h1:a≤b)(h2:b≤9999):outZ a b 0 9999=0:=by unfold outZ;rw[if_pos ⟨h0,h1,h2⟩]
theorem stock_zero{rs rl rw many:Int}{n:Nat}{sh:Nat→Shaft}(h:zxa rs rl rw many n sh):stockZ rs rl rw many n sh=0:=by
 rw[yGa h.rule h.count];refine firstZ_zero.2 fun k hk=>?_
 have e:=h.each k hk;exact yNa e.name (fun j hj=>h.once j k hj hk) (ywb e.s0 e.s1 e.s2) (ywb e.l0 e.l1 e.l2) (ywb e.w0 e.w1 e.w2)
theorem yRb(rs rl rw many:Int)(A:Option Addr)(n c:Nat)(sh:Nat→Shaft)(W:World)(hc:n≤c)(hst:Hid (zxa rs rl rw many n sh))(hsh:Hid (zA W A n sh)) :
  CallsIn Fc 0 Tryz.prog 56 #[zga rs rl rw many A n c] W (zya W):=by
 have h:=yca rs rl rw many A n c sh W (by have:=hst.out.count;omega) hc hsh (Lib.hid fun k hk=>Nat.le_trans (names_of hst.out k hk) (by omega));rw[stock_zero hst.out] at h;exact h
end
end Go.Proofs.YtpdmgecbapmgdaaGreat
