/- A part of the proof that ArrowStocks returns true for every input: no further condition. -/
import Derived.Test.YtpdmgecbapmgdaaGreatGp4
import Derived.Test.YtpdmgecbapmgdaaGreatGp2
import Derived.Stop.RegionWithIn
import Derived.Laws.Rows
import Derived.Maps.OwnIn
import Derived.Lib.SliceRun
set_option linter.unusedSimpArgs false
set_option linter.unusedVariables false
set_option maxHeartbeats 4000000
set_option maxRecDepth 100000
namespace Go.Proofs.YtpdmgecbapmgdaaGreat
section
open Go.RowKit
theorem yob{n m:Nat}:∀(d:Nat) (x y:List Nat),d≤n→(∀ a,a∈x→a<n)→y∈loopE n m d x→∀ a,a∈y→a<n
 |0,x,y,_,_,h=>by cases h
 |d+1,x,y,hd,hx,h=>by
  have hx1:∀ a,a∈x++[n-(d+1)]→a<n:=fun a ha=>by
   rcases List.mem_append.1 ha with h|h
   ·exact hx a h
   ·rcases List.mem_singleton.1 h with rfl;omega
  rw[loopE,List.mem_append] at h;rcases h with h|h
  ·split at h
   ·rcases List.mem_singleton.1 h with rfl;exact hx1
   ·exact yob d _ y (by omega) hx1 h
  ·exact yob d x y (by omega) hx h
theorem yNb{n m:Nat}{y:List Nat}(h:y∈extE n m n []):∀ a,a∈y→a<n:=by
 unfold extE at h;split at h
 ·rcases List.mem_singleton.1 h with rfl;intro a ha;cases ha
 ·exact yob n [] y (Nat.le_refl _) (fun a ha=>by cases ha) h
theorem setsL_lt{P:Nat→Int}{n m:Nat}(hn:n≤9)(k j:Nat)(hj:j<((setsL P n m).getD k []).length):((setsL P n m).getD k []).getD j 0<9:=by
 obtain⟨y,hy⟩:∃ y,(setsL P n m).getD k []=y:=⟨_,rfl⟩;rw[hy] at hj ⊢;rw[List.getD_eq_getElem?_getD] at hy;cases h:(setsL P n m)[k]? with
 |none=>rw[h] at hy;subst hy;simp at hj
 |some z=>rw[h] at hy;have hyz:z=y:=hy;subst hyz;have hm:z∈extE n m n []:=(List.mem_filter.1 (List.mem_of_getElem? h)).1;have:z[j]<n:=yNb hm _ (List.getElem_mem hj);rw[List.getD_eq_getElem?_getD,List.getElem?_eq_getElem hj];show z[j]<9;omega
theorem ofE_all{p:List Nat→Prop}{M:List (List Nat)}{E:Evs}{s:Nat}(h0:p [])(h:∀ k,p (M.getD k []))(k:Nat):p ((ofE M E s).getD k []):=by
 rw[List.getD_eq_getElem?_getD];cases e:(ofE M E s)[k]? with
 |none=>exact h0
 |some y=>obtain⟨ev,_,rfl⟩:=List.mem_map.1 (List.mem_of_getElem? e);exact h _
def zab(P:Nat→Int)(n m:Nat)(s:Nat):List (List Nat):=ofE (setsL P n m) (evs (setsL P n m) (setsL P n m).length 0) s
theorem setsOfL_few{P:Nat→Int}{n m:Nat}(hn:n≤9)(s:Nat):(zab P n m s).length≤5000∧(∀ k,((zab P n m s).getD k []).length≤9)∧∀ k j,j<((zab P n m s).getD k []).length→((zab P n m s).getD k []).getD j 0<9:=by
 refine⟨?_,?_,?_⟩
 ·have h1:=yOb (M:=setsL P n m) (N:=512) (B:=9) (zBb hn) (zcb hn) (setsL P n m).length;have h2:=ofE_len (setsL P n m) (evs (setsL P n m) (setsL P n m).length 0) s;have h3:=zBb (P:=P) (m:=m) hn;unfold zab;omega
 ·exact ofE_all (p:=fun y=>y.length≤9) (by simp) (zcb hn)
 ·exact ofE_all (p:=fun y=>∀ j,j<y.length→y.getD j 0<9) (by simp) (setsL_lt hn)
def zPb(P:Nat→Int)(n m:Nat)(T:Nat→Bool):List (List Nat):=tryE n (zab P n m) n T [] []
def SaysShare(M:List (List Nat))(W:World)(e:Ending)(w':World):Prop:=∃ v,e=.returned v∧zS w' W.heap.size W.heap.size v M∧Few M∧Below W.heap.size W w'
def shareW(w3:World)(b0 r:Nat):World:=((w3.alloc (.cells #[.map (some r)] 161)).alloc (.cells #[.slice none 0 0] 40)).alloc (.cells #[.func (.func 115) #[] #[ptr b0,ptr (w3.heap.size+1),ptr w3.heap.size,ptr (w3.heap.size+1+1)]] 163)
theorem few_nil:Few []:=⟨by simp,fun k=>by simp⟩
theorem share_call{rs rl rw:Int}{A:Option Addr}{n c r:Nat}{P:Nat→Int}{m b0 z:Nat}{T:Nat→Bool}{w3:World}{l:Ents}(hn:n≤9)(hck:w3.heap[b0]? = some (.cells (ckCells rs rl rw m A n c P) 106 (0,0)))(hm:MapAt w3 r l)(hs:∀ s,zS w3 z z (valAt l s) (zab P n m s)) :
  CallsIn Fc 0 Tryz.prog 115 #[.int .i64 0,.agg (tkCells T),.slice none 0 0,ptr b0,ptr (w3.heap.size+1),ptr w3.heap.size,ptr (w3.heap.size+1+1)] (shareW w3 b0 r) (zkc (shareW w3 b0 r) z (w3.heap.size+1) (shareW w3 b0 r) (.slice none 0 0) [] (.slice none 0 0) (zPb P n m T)):=by
 have hsz:(shareW w3 b0 r).heap.size=w3.heap.size+3:=by simp[shareW]
 have hb:Below w3.heap.size w3 (shareW w3 b0 r):=(((Below.refl _ _).alloc (Nat.le_refl _) _).alloc (by simp) _).alloc (by simp;omega) _;have hlt:=(Array.getElem?_eq_some_iff.1 hck).1;have hbb:(shareW w3 b0 r).heap[w3.heap.size+1]? = some (.cells #[.slice none 0 0] 40 (0,0)):=zp (zG (by simp));have hbo:(shareW w3 b0 r).heap[w3.heap.size]? = some (.cells #[.map (some r)] 161 (0,0)):=zp (zp (zG rfl));have hbt:(shareW w3 b0 r).heap[w3.heap.size+1+1]? = some (.cells #[.func (.func 115) #[] #[ptr b0,ptr (w3.heap.size+1),ptr w3.heap.size,ptr (w3.heap.size+1+1)]] 163 (0,0)):=zG (by simp);have hE:zbc (shareW w3 b0 r) z z b0 (w3.heap.size+1) w3.heap.size (w3.heap.size+1+1) r n c A l (zab P n m):=by
  refine⟨zVa ((hb.block _ hlt).trans hck) (i:=4) (by decide),by simp[World.cell?,hbo],by simp[World.cell?,hbt],⟨_,hbb⟩,?_,fun s=>?_,setsOfL_few hn,by omega,by omega,by omega⟩
  ·obtain⟨cl,h⟩:=hm;exact⟨cl,(hb.block _ (Array.getElem?_eq_some_iff.1 h).1).trans h⟩
  ·exact(hs s).keep (fun g hg=>hb.block _ ((hs s).own hg).2) fun k cs fz hc=>hb.block _ (Array.getElem?_eq_some_iff.1 hc).1
 exact try_any hn (Lib.hid hE) (by omega) n 0 0 T _ _ [] [] _ rfl (by omega) (by omega) (by simp) ⟨Kept.refl _ _ _,⟨hbb,Row.nil _ _ _⟩,⟨few_nil,few_nil⟩,Row.nil _ _ _,fun g hg=>by cases hg⟩
theorem yxb(rs rl rw:Int)(A:Option Addr)(n c:Nat)(P:Nat→Int)(m:Nat)(T:Nat→Bool)(W:World)(hn:n≤9) :
  CallsIn Fc 0 Tryz.prog 71 #[.agg (ckCells rs rl rw m A n c P),.agg (tkCells T)] W (SaysShare (zPb P n m T) W):=by
 have hset:=setsOf_any rs rl rw A n c P m ((W.alloc (.cells (ckCells rs rl rw m A n c P) 106)).alloc (.cells (tkCells T) 127)) hn;have hk0:((W.alloc (.cells (ckCells rs rl rw m A n c P) 106)).alloc (.cells (tkCells T) 127)).heap[W.heap.size]? = some (.cells (ckCells rs rl rw m A n c P) 106 (0,0)):=zp (zG rfl);have hk1:((W.alloc (.cells (ckCells rs rl rw m A n c P) 106)).alloc (.cells (tkCells T) 127)).heap[W.heap.size+1]? = some (.cells (tkCells T) 127 (0,0)):=zG (by simp);have hb0:Below W.heap.size W ((W.alloc (.cells (ckCells rs rl rw m A n c P) 106)).alloc (.cells (tkCells T) 127)):=((Below.refl _ _).alloc (Nat.le_refl _) _).alloc (by simp) _;have hs0:((W.alloc (.cells (ckCells rs rl rw m A n c P) 106)).alloc (.cells (tkCells T) 127)).heap.size=W.heap.size+2:=by simp
 have HSET:=Lib.hid hset;have HK0:=Lib.hid hk0;have HK1:=Lib.hid hk1;have HB0:=Lib.hid hb0;have HS0:=Lib.hid hs0;clear hset hk0 hk1 hb0 hs0;gi_enter Tryz.func71,Tryz.ntmps71
 gi_wp2_with (first
  |(refine zW rfl _ rfl _ _ rfl HK0.out (ck_size _ _ _ _ _ _ _ _) ?_)
  |(refine zV rfl _ rfl _ _ rfl (HK5.out _ _ _) rfl ?_)
  |(gi_at_call 114;refine HSET.out.mono ?_;rintro e w3 ⟨r,l,rfl,h1,h2,h3⟩;have hk5:∀ X Y Z,(((w3.alloc X).alloc Y).alloc Z).heap[W.heap.size+1]? = some (.cells (tkCells T) 127 (0,0)):=fun X Y Z=>zp (zp (zp ((h3.block _ (by rw[HS0.out];omega)).trans HK1.out)));have HK5:=Lib.hid (fun X Y Z=>hk5 X Y Z);have H1:=Lib.hid h1;have H2:=Lib.hid h2;have H3:=Lib.hid h3;clear h1 h2 h3 hk5))
 have hz3:=H3.out.size;rw[HS0.out] at hz3;have hcall:=share_call (rs:=rs) (rl:=rl) (rw:=rw) (A:=A) (c:=c) (T:=T) (b0:=W.heap.size) hn ((H3.out.block _ (by rw[HS0.out];omega)).trans HK0.out) H1.out H2.out;refine hcall.mono ?_;rintro e w9 ⟨rfl,h9⟩;obtain⟨bv,⟨hbest,hrow⟩,_⟩:=h9.best;obtain⟨LB,kb,rfl⟩:=zeb hrow.choose_spec.1;have q9:w9.cell? ⟨w3.heap.size+1,0,none⟩=some (.slice LB (zPb P n m T).length kb):=by simp[World.cell?,hbest]
 have HROW:=Lib.hid hrow;have H9:=Lib.hid h9;clear hbest hrow h9 hcall;gi_wp2;go_ret;have hk:=H9.out.kept;have hb3:=H3.out;have hb0:=HB0.out;have hs0:=HS0.out;have hsz:(shareW w3 W.heap.size r).heap.size=w3.heap.size+3:=by simp[shareW]
 have hb:Below w3.heap.size w3 (shareW w3 W.heap.size r):=(((Below.refl _ _).alloc (Nat.le_refl _) _).alloc (by simp) _).alloc (by simp;omega) _;have hbb:(shareW w3 W.heap.size r).heap[w3.heap.size+1]? = some (.cells #[.slice none 0 0] 40 (0,0)):=zp (zG (by simp));refine⟨_,rfl,?_,H9.out.few,?_⟩
 ·obtain⟨vs,h1,h2⟩:=HROW.out;refine⟨vs,?_,fun k hk'=>(Old.list (w0:=shareW w3 W.heap.size r) hk hbb (h2 k hk')).mono (by omega)⟩;obtain⟨q1,q2|⟨g',c',r',e,q3,q4⟩⟩:=h1
  ·exact⟨q1,.inl q2⟩
  ·exact⟨q1,.inr ⟨g',c',r',e,by omega,q4⟩⟩
 ·have z1:=hk.size;refine⟨hk.os.trans (hb.os.trans (hb3.os.trans hb0.os)),hk.tape.trans (hb.tape.trans (hb3.tape.trans hb0.tape)),hk.output.trans (hb.output.trans (hb3.output.trans hb0.output)),by omega,fun k hlt=>?_⟩;exact(hk.block k (by omega) (by simp;omega) (by intro e;cases e)).trans ((hb.block k (by omega)).trans ((hb3.block k (by omega)).trans (hb0.block k hlt)))
end
section
open Go.RowKit
def SaysStock(rs rl rw many:Int)(n:Nat)(sh:Nat→Shaft)(W:World)(e:Ending)(w':World):Prop:=∃ v:Int,e=.returned (.int .i64 v)∧(v=0→zxa rs rl rw many n sh)∧Below W.heap.size W w'
theorem yR(rs rl rw many:Int)(A:Option Addr)(n c:Nat)(sh:Nat→Shaft)(W:World)(hc:n≤c)(hsh:Hid (zA W A n sh))(hnm:Hid (∀ k,k<n→(sh k).name.size≤100)) :
  CallsIn Fc 0 Tryz.prog 18 #[zga rs rl rw many A n c] W (SaysStock rs rl rw many n sh W):=by
 have hB2:∀ x y,Below W.heap.size W ((W.alloc x).alloc y):=fun x y=>((Below.refl _ _).alloc (Nat.le_refl _) _).alloc (by simp) _
 have HB2:=Lib.hid hB2;clear hB2;gi_enter Tryz.func18,Tryz.ntmps18;cases h1:inB rs 0 9999 with
 |false=>
  gi_wp2_with (gi_at_call 62;refine(zYa _ _ _ _).mono ?_;rintro e w' ⟨rfl,rfl⟩)
  go_ret;exact⟨1,rfl,fun h=>by simp at h,HB2.out _ _⟩
 |true=>
 cases h2:inB rl 0 9999 with
 |false=>
  gi_wp2_with (gi_at_call 62;refine(zYa _ _ _ _).mono ?_;rintro e w' ⟨rfl,rfl⟩)
  go_ret;exact⟨1,rfl,fun h=>by simp at h,HB2.out _ _⟩
 |true=>
 cases h3:inB rw 0 9999 with
 |false=>
  gi_wp2_with (gi_at_call 62;refine(zYa _ _ _ _).mono ?_;rintro e w' ⟨rfl,rfl⟩)
  go_ret;exact⟨1,rfl,fun h=>by simp at h,HB2.out _ _⟩
 |true=>
 cases h4:inB many 2 4 with
 |false=>
  gi_wp2_with (gi_at_call 62;refine(zYa _ _ _ _).mono ?_;rintro e w' ⟨rfl,rfl⟩)
  go_ret;exact⟨1,rfl,fun h=>by simp at h,HB2.out _ _⟩
 |true=>
 by_cases hn:(n:Int)>9
 ·gi_wp2_with (gi_at_call 62;refine(zYa _ _ _ _).mono ?_;rintro e w' ⟨rfl,rfl⟩)
  go_ret;exact⟨2,rfl,fun h=>by simp at h,HB2.out _ _⟩
 ·have hn9:n≤9:=by omega
  have HRU:Hid (RuleOk rs rl rw many):=Lib.hid (by simp[inB] at h1 h2 h3 h4;exact⟨h1.1,h1.2,h2.1,h2.2,h3.1,h3.2,h4.1,h4.2⟩)
  gi_wp2_with (gi_at_call 62;refine(zYa _ _ _ _).mono ?_;rintro e w' ⟨rfl,rfl⟩)
  clear h1 h2 h3 h4
  gi_loopw [4] (fun i wr=>∃ k:Nat,k≤n∧i=.int .i64 k∧wr.cell? ⟨W.heap.size,4,none⟩=some (.slice A n c)∧Below W.heap.size W wr∧(∀ j,j<k→ysa (sh j))∧∀ j i,j<i→i<k→((sh j).name.toList==(sh i).name.toList)=false) (fun i _=>n-(intOf i).toNat)
  case atStart=>exact⟨0,by omega,rfl,by go_simp,HB2.out _ _,fun j h=>by omega,fun j i _ h=>by omega⟩
  case round=>
   obtain⟨k,hk,rfl,c4,hb,hok,hon⟩:=hrel
   rename World=>wq
   have HB:=Lib.hid hb;have HOK:=Lib.hid hok;have HON:=Lib.hid hon;have hs:=hb.size;have hsz:W.heap.size<wq.heap.size:=World.block_lt_of_cell? wq _ c4;clear hb hok hon;by_cases hlt:k<n
   ·obtain⟨b,o,rfl,hx⟩:=hsh.out k hlt;obtain⟨x0,x1,x2,x3,x4,x5,x6⟩:=hx.below HB.out;have hlb:b<wq.heap.size:=World.block_lt_of_cell? wq _ x0
    gi_wp2_with (gi_at_call 63;refine(isName_any _ _ (by have:=hnm.out k hlt;simp[maxLen];omega)).mono ?_;rintro e w' ⟨nb,rfl,hnb,rfl⟩;cases nb)
    ·go_ret;exact⟨4,rfl,fun h=>by simp at h,HB.out.alloc (by omega) _⟩
    ·have HNK:=Lib.hid (hnb trivial);clear hnb hx
     gi_loopw [6] (fun i wi=>∃ j:Nat,j≤k∧i=.int .i64 j∧Below (wq.heap.size+1) (wq.alloc (.cells #[.string (sh k).name,.int .i64 (sh k).s0,.int .i64 (sh k).s1,.int .i64 (sh k).l0,.int .i64 (sh k).l1,.int .i64 (sh k).w0,.int .i64 (sh k).w1] 65)) wi∧∀ t,t<j→((sh t).name.toList==(sh k).name.toList)=false) (fun i _=>k-(intOf i).toNat)
     case atStart=>exact⟨0,by omega,rfl,Below.refl _ _,fun t h=>by omega⟩
     case round=>
      clear x0 x1 x2 x3 x4 x5 x6;obtain⟨j,hj,rfl,hbi,hne⟩:=hrel;have d4:wr.cell? ⟨W.heap.size,4,none⟩=some (.slice (some ⟨b,o,none⟩) n c):=by rw[hbi.cell (by simp;omega)];go_simp
      have y0:wr.cell? ⟨wq.heap.size,0,none⟩=some (.string (sh k).name):=by rw[hbi.cell (by simp)];go_simp
      have hsi:=hbi.size;simp at hsi;have HNE:=Lib.hid hne;have hbw:Below W.heap.size W wr:=(HB.out.alloc (by omega) _).trans (hbi.mono (by omega));have HBW:=Lib.hid hbw;have HBI:=Lib.hid hbi;clear hbi hbw hne c4;by_cases hlj:j<k
      ·obtain⟨b',o',e',hxj⟩:=hsh.out j (by omega);cases e';have z0:=(hxj.below HBW.out).h0;clear hxj;cases he:((sh j).name.toList==(sh k).name.toList) with
       |true=>
        gi_wp2
        gi_region_with fail
        all_goals
         gi_wp2;go_ret;exact⟨5,rfl,fun h=>by simp at h,HBW.out.drew⟩
       |false=>
        gi_wp2
        gi_region_with fail
        all_goals
         gi_wp2;go_roundw
         case rel=>exact⟨j+1,by omega,by go_num,HBI.out.drew,fun t ht=>by
          rcases Nat.lt_succ_iff_lt_or_eq.1 ht with ht|rfl
          ·exact HNE.out t ht
          ·exact he⟩
         case measure=>simp[intOf];omega
      ·obtain rfl:j=k:=by omega
       have y1:wr.cell? ⟨wq.heap.size,1,none⟩=some (.int .i64 (sh j).s0):=by rw[HBI.out.cell (by simp)];go_simp
       have y2:wr.cell? ⟨wq.heap.size,2,none⟩=some (.int .i64 (sh j).s1):=by rw[HBI.out.cell (by simp)];go_simp
       have y3:wr.cell? ⟨wq.heap.size,3,none⟩=some (.int .i64 (sh j).l0):=by rw[HBI.out.cell (by simp)];go_simp
       have y4:wr.cell? ⟨wq.heap.size,4,none⟩=some (.int .i64 (sh j).l1):=by rw[HBI.out.cell (by simp)];go_simp
       have y5:wr.cell? ⟨wq.heap.size,5,none⟩=some (.int .i64 (sh j).w0):=by rw[HBI.out.cell (by simp)];go_simp
       have y6:wr.cell? ⟨wq.heap.size,6,none⟩=some (.int .i64 (sh j).w1):=by rw[HBI.out.cell (by simp)];go_simp
       cases q1:insideB (sh j).s0 (sh j).s1 0 9999 with
       |false=>
        gi_wp2_with (gi_at_call 64;refine(yN _ _ _ _ _).mono ?_;rintro e w2 ⟨rfl,hb2⟩;(have d4:=Below.old hb2 d4);(have y3:=Below.old hb2 y3);(have y4:=Below.old hb2 y4);(have y5:=Below.old hb2 y5);(have y6:=Below.old hb2 y6);have HBW:=Lib.hid (HBW.out.trans (hb2.mono HBW.out.size));clear hb2)
        go_ret;exact⟨1,rfl,fun h=>by simp at h,HBW.out⟩
       |true=>
       cases q2:insideB (sh j).l0 (sh j).l1 0 9999 with
       |false=>
        gi_wp2_with (gi_at_call 64;refine(yN _ _ _ _ _).mono ?_;rintro e w2 ⟨rfl,hb2⟩;(have d4:=Below.old hb2 d4);(have y3:=Below.old hb2 y3);(have y4:=Below.old hb2 y4);(have y5:=Below.old hb2 y5);(have y6:=Below.old hb2 y6);have HBW:=Lib.hid (HBW.out.trans (hb2.mono HBW.out.size));clear hb2)
        go_ret;exact⟨1,rfl,fun h=>by simp at h,HBW.out⟩
       |true=>
       cases q3:insideB (sh j).w0 (sh j).w1 0 9999 with
       |false=>
        gi_wp2_with (gi_at_call 64;refine(yN _ _ _ _ _).mono ?_;rintro e w2 ⟨rfl,hb2⟩;(have d4:=Below.old hb2 d4);(have y3:=Below.old hb2 y3);(have y4:=Below.old hb2 y4);(have y5:=Below.old hb2 y5);(have y6:=Below.old hb2 y6);have HBW:=Lib.hid (HBW.out.trans (hb2.mono HBW.out.size));clear hb2)
        go_ret;exact⟨1,rfl,fun h=>by simp at h,HBW.out⟩
       |true=>
        gi_wp2_with (gi_at_call 64;refine(yN _ _ _ _ _).mono ?_;rintro e w2 ⟨rfl,hb2⟩;(have d4:=Below.old hb2 d4);(have y3:=Below.old hb2 y3);(have y4:=Below.old hb2 y4);(have y5:=Below.old hb2 y5);(have y6:=Below.old hb2 y6);have HBW:=Lib.hid (HBW.out.trans (hb2.mono HBW.out.size));clear hb2)
        go_roundw
        case rel=>
         refine⟨j+1,by omega,by go_num,d4,HBW.out,fun t ht=>?_,fun t i h5 h6=>?_⟩
         ·rcases Nat.lt_succ_iff_lt_or_eq.1 ht with ht|rfl
          ·exact HOK.out t ht
          ·simp[insideB,inB] at q1 q2 q3;exact⟨HNK.out,by omega,by omega,by omega,by omega,by omega,by omega,by omega,by omega,by omega⟩
         ·rcases Nat.lt_succ_iff_lt_or_eq.1 h6 with h6|rfl
          ·exact HON.out t i h5 h6
          ·exact HNE.out t h5
        case measure=>simp[intOf];omega
   ·obtain rfl:k=n:=by omega
    gi_wp2;go_ret;exact⟨0,rfl,fun _=>⟨HRU.out,hn9,HOK.out,HON.out⟩,HB.out⟩
end
section
open Go.RowKit
def SaysFit(rs rl rw many:Int)(n:Nat)(sh:Nat→Shaft)(W:World)(e:Ending)(w':World):Prop:=∃ b:Bool,e=.returned (.bool b)∧(b=true→zxa rs rl rw many n sh)∧Below W.heap.size W w'
theorem yPb(rs rl rw many:Int)(A:Option Addr)(n c:Nat)(sh:Nat→Shaft)(W:World)(hc:n≤c)(hsh:Hid (zA W A n sh)) :
    CallsIn Fc 0 Tryz.prog 33 #[zga rs rl rw many A n c] W (SaysFit rs rl rw many n sh W):=by
  have hB1:∀ x,Below W.heap.size W (W.alloc x):=fun x=>(Below.refl _ _).alloc (Nat.le_refl _) _
  have HB1:=Lib.hid hB1;clear hB1;gi_enter Tryz.func33,Tryz.ntmps33
  gi_wp2_with (first
    | (gi_at_call 13;refine(Great_any _ _ _ _ _ _ _ sh _ hc (Lib.hid (hsh.out.below (HB1.out _)))).mono ?_;rintro e w2 ⟨gb,rfl,hgb,hb2⟩
       have e0:w2.cell? ⟨W.heap.size,0,none⟩=some (.int .i64 rs):=Below.old hb2 (by go_simp);have e1:w2.cell? ⟨W.heap.size,1,none⟩=some (.int .i64 rl):=Below.old hb2 (by go_simp);have e2:w2.cell? ⟨W.heap.size,2,none⟩=some (.int .i64 rw):=Below.old hb2 (by go_simp);have e3:w2.cell? ⟨W.heap.size,3,none⟩=some (.int .i64 many):=Below.old hb2 (by go_simp);have e4:w2.cell? ⟨W.heap.size,4,none⟩=some (.slice A n c):=Below.old hb2 (by go_simp);have HB2:=Lib.hid ((HB1.out _).trans (hb2.mono (HB1.out _).size));have HGB:=Lib.hid hgb;clear hb2 hgb;cases gb)
    | (gi_at_call 18;refine(yR _ _ _ _ _ _ _ sh _ hc (Lib.hid (hsh.out.below HB2.out)) (Lib.hid (HGB.out trivial).2)).mono ?_;rintro e w3 ⟨v,rfl,hv,hb3⟩
       have HB3:=Lib.hid (HB2.out.trans (hb3.mono HB2.out.size));have HV:=Lib.hid hv;clear hb3 hv))
  · go_ret;exact⟨v==0,rfl,fun h=>HV.out (by simpa using h),HB3.out⟩
  · go_ret;exact⟨false,rfl,fun h=>by simp at h,HB2.out⟩
end
section
open Go.RowKit
theorem bothZ_one(a b:Int):bothZ a b=1↔a=1∧b=1:=by
 unfold bothZ;by_cases h:a=2∨b=2
 ·rw[if_pos h];omega
 ·rw[if_neg h];by_cases h1:a=1∧b=1
  ·simp[h1]
  ·rw[if_neg h1];constructor
   ·intro h';omega
   ·intro h';exact absurd h' h1
theorem rowZ_one(T:Nat→Nat→Int)(l:Nat→Nat)(i:Nat)(s:Int):∀ j,rowZ T l i j s=1↔s=1∧∀ k,k<j→T (l k) (l i)=1
 |0=>by simp[rowZ]
 |j+1=>by
  rw[rowZ,bothZ_one,rowZ_one T l i s j];constructor
  ·rintro⟨⟨h,h1⟩,h2⟩;refine⟨h,fun k hk=>?_⟩;rcases Nat.lt_succ_iff_lt_or_eq.1 hk with hk|rfl
   ·exact h1 k hk
   ·exact h2
  ·rintro⟨h,h1⟩;exact⟨⟨h,fun k hk=>h1 k (by omega)⟩,h1 j (by omega)⟩
theorem listZ_one(T:Nat→Nat→Int)(l:Nat→Nat):∀ m,listZ T l m=1↔∀ j i,j<i→i<m→T (l j) (l i)=1
 |0=>by simp[listZ]
 |m+1=>by
  rw[listZ,rowZ_one,listZ_one T l m];constructor
  ·rintro⟨h1,h2⟩ j i hj hi;rcases Nat.lt_succ_iff_lt_or_eq.1 hi with hi|rfl
   ·exact h1 j i hj hi
   ·exact h2 j hj
  ·intro h;exact⟨fun j i hj hi=>h j i hj (by omega),fun k hk=>h k m hk (by omega)⟩
end
section
open Go.RowKit
theorem nearZ_one(al a b c d:Int):nearZ al a b c d=1↔b-c≤al∧d-a≤al:=by
 unfold nearZ;split
 ·simp;omega
 ·split
  ·constructor
   ·intro h;omega
   ·intro h;omega
  ·constructor
   ·intro h;omega
   ·intro h;omega
theorem pairZ_one(rs rl rw:Int)(x y:Shaft):pairZ rs rl rw x y=1↔∀ m,m<3→yY rs rl rw x y m=1:=by
 unfold pairZ;simp only[upTo,bothZ_one];constructor
 ·rintro⟨⟨⟨_,h0⟩,h1⟩,h2⟩ m hm;have h3:m=0∨m=1∨m=2:=by omega
  rcases h3 with rfl|rfl|rfl<;>assumption
 ·intro h;exact⟨⟨⟨trivial,h 0 (by omega)⟩,h 1 (by omega)⟩,h 2 (by omega)⟩
structure ysb(x:Shaft):Prop where
 least:∀ m,m<3→0≤spanA x m
 up:∀ m,m<3→spanA x m≤spanB x m
 most:∀ m,m<3→spanB x m≤9999
theorem ysa.spans{x:Shaft}(h:ysa x):ysb x where
 least:=fun m hm=>by
  have h3:m=0∨m=1∨m=2:=by omega
  rcases h3 with rfl|rfl|rfl
  ·exact h.s0
  ·exact h.l0
  ·exact h.w0
 up:=fun m hm=>by
  have h3:m=0∨m=1∨m=2:=by omega
  rcases h3 with rfl|rfl|rfl
  ·exact h.s1
  ·exact h.l1
  ·exact h.w1
 most:=fun m hm=>by
  have h3:m=0∨m=1∨m=2:=by omega
  rcases h3 with rfl|rfl|rfl
  ·exact h.s2
  ·exact h.l2
  ·exact h.w2
theorem ysb.shaft{x:Shaft}(h:ysb x)(hn:NameOk x.name):ysa x:=
 ⟨hn,h.least 0 (by omega),h.up 0 (by omega),h.most 0 (by omega),h.least 1 (by omega),h.up 1 (by omega),h.most 1 (by omega),h.least 2 (by omega),h.up 2 (by omega),h.most 2 (by omega)⟩
theorem zxa.other{rs rl rw many:Int}{n:Nat}{sh sh':Nat→Shaft}(h:zxa rs rl rw many n sh)(hn:∀ k,k<n→(sh' k).name=(sh k).name)(hs:∀ k,k<n→ysb (sh' k)):zxa rs rl rw many n sh' where
 rule:=h.rule
 count:=h.count
 each:=fun k hk=>(hs k hk).shaft (by rw[hn k hk];exact(h.each k hk).name)
 once:=fun j k hj hk=>by rw[hn j (by omega),hn k hk];exact h.once j k hj hk
def yE(x:Shaft)(m:Nat)(u v:Int):Shaft:=match m with
 |0=>{x with s0:=u,s1:=v}
 |1=>{x with l0:=u,l1:=v}
 |_=>{x with w0:=u,w1:=v}
def putSh(sh:Nat→Shaft)(k m:Nat)(u v:Int):Nat→Shaft:=fun j=>if j=k then yE (sh k) m u v else sh j
theorem updSpan_name(x:Shaft)(m:Nat)(u v:Int):(yE x m u v).name=x.name:=by unfold yE;split<;>rfl
theorem updSpan_A{x:Shaft}{m k:Nat}{u v:Int}(hm:m<3)(hk:k<3):spanA (yE x m u v) k=if k=m then u else spanA x k:=by
 have h3:m=0∨m=1∨m=2:=by omega
 have h4:k=0∨k=1∨k=2:=by omega
 rcases h3 with rfl|rfl|rfl<;>rcases h4 with rfl|rfl|rfl<;>rfl
theorem updSpan_B{x:Shaft}{m k:Nat}{u v:Int}(hm:m<3)(hk:k<3):spanB (yE x m u v) k=if k=m then v else spanB x k:=by
 have h3:m=0∨m=1∨m=2:=by omega
 have h4:k=0∨k=1∨k=2:=by omega
 rcases h3 with rfl|rfl|rfl<;>rcases h4 with rfl|rfl|rfl<;>rfl
theorem putSh_name(sh:Nat→Shaft)(k m:Nat)(u v:Int)(j:Nat):(putSh sh k m u v j).name=(sh j).name:=by
 unfold putSh;split
 ·next h=>subst h;exact updSpan_name _ _ _ _
 ·rfl
theorem yIb{sh:Nat→Shaft}{k m j x:Nat}{u v:Int}(hm:m<3)(hx:x<3):spanA (putSh sh k m u v j) x=if j=k∧x=m then u else spanA (sh j) x:=by
 unfold putSh;by_cases h:j=k
 ·subst h;rw[if_pos rfl,updSpan_A hm hx];simp
 ·rw[if_neg h,if_neg (fun h'=>h h'.1)]
theorem yHb{sh:Nat→Shaft}{k m j x:Nat}{u v:Int}(hm:m<3)(hx:x<3):spanB (putSh sh k m u v j) x=if j=k∧x=m then v else spanB (sh j) x:=by
 unfold putSh;by_cases h:j=k
 ·subst h;rw[if_pos rfl,updSpan_B hm hx];simp
 ·rw[if_neg h,if_neg (fun h'=>h h'.1)]
theorem zxa.put{rs rl rw many:Int}{n:Nat}{sh:Nat→Shaft}(h:zxa rs rl rw many n sh){k m:Nat}{u v:Int}(hm:m<3)(h0:0≤u)(h1:u≤v)(h2:v≤9999):zxa rs rl rw many n (putSh sh k m u v):=by
 refine h.other (fun j _=>putSh_name ..) fun j hj=>?_
 have hs:=(h.each j hj).spans;refine⟨fun x hx=>?_,fun x hx=>?_,fun x hx=>?_⟩
 ·rw[yIb hm hx];split
  ·exact h0
  ·exact hs.least x hx
 ·rw[yIb hm hx,yHb hm hx];split
  ·exact h1
  ·exact hs.up x hx
 ·rw[yHb hm hx];split
  ·exact h2
  ·exact hs.most x hx
section
variable {rs rl rw many:Int}{n m:Nat}{sh:Nat→Shaft}{l:Nat→Nat}{R:Nat→Nat→Int}
end
end
section
open Go.RowKit
abbrev spanV(u v:Int):Value:=.agg #[.int .i64 u,.int .i64 v]
theorem span_new(w:World)(u v:Int):zI (w.alloc (.cells #[.int .i64 u,.int .i64 v] 52)) w.heap.size u v:=by unfold zI;exact heap_alloc_new _ _
end
section
open Go.RowKit
def shaftCs(x:Shaft):List Value:=[.string x.name,.int .i64 x.s0,.int .i64 x.s1,.int .i64 x.l0,.int .i64 x.l1,.int .i64 x.w0,.int .i64 x.w1]
def shVs(sh:Nat→Shaft):Nat→List Value
 |0=>[]
 |n+1=>shVs sh n++shaftCs (sh n)
theorem shVs_len(sh:Nat→Shaft):∀ n,(shVs sh n).length=n*7
 |0=>rfl
 |n+1=>by simp[shVs,shVs_len sh n,shaftCs];omega
theorem ykb(sh:Nat→Shaft):∀(n k i:Nat),k<n→i<7→(shVs sh n)[k*7+i]? = (shaftCs (sh k))[i]?
 |0,k,i,h,_=>absurd h (by omega)
 |n+1,k,i,h,hi=>by
  simp only[shVs];by_cases e:k<n
  ·rw[List.getElem?_append_left (by rw[shVs_len];omega)];exact ykb sh n k i e hi
  ·obtain rfl:k=n:=by omega
   rw[List.getElem?_append_right (by rw[shVs_len];omega),shVs_len,show k*7+i-k*7=i by omega]
theorem yL{w:World}{b o n:Nat}{sh:Nat→Shaft}(h:zA w (some ⟨b,o,none⟩) n sh):∀(j:Nat) (u:Value),(shVs sh n)[j]? = some u→w.cell? (Addr.add ⟨b,o,none⟩ j)=some u:=by
 intro j u hj;have hlen:j<n*7:=by rw[←shVs_len sh n];exact(List.getElem?_eq_some_iff.1 hj).1
 obtain⟨k,i,hi,rfl⟩:∃ k i,i<7∧j=k*7+i:=⟨j / 7,j % 7,by omega,by omega⟩;have hk:k<n:=by omega
 rw[ykb sh n k i hk hi] at hj;obtain⟨b',o',e,hx⟩:=h k hk;cases e;have e1:Addr.add ⟨b,o,none⟩ (k*7+i)=⟨b,o+k*7+i,none⟩:=by
  unfold Addr.add;split
  ·next h0=>rw[Addr.mk.injEq];exact⟨rfl,by omega,rfl⟩
  ·rw[Addr.mk.injEq];exact⟨rfl,by simp;omega,rfl⟩
 rw[e1];have h7:i=0∨i=1∨i=2∨i=3∨i=4∨i=5∨i=6:=by omega
 rcases h7 with rfl|rfl|rfl|rfl|rfl|rfl|rfl<;>(simp[shaftCs] at hj;subst hj)
 ·exact hx.h0
 ·exact hx.h1
 ·exact hx.h2
 ·exact hx.h3
 ·exact hx.h4
 ·exact hx.h5
 ·exact hx.h6
theorem yJ(sh:Nat→Shaft):∀ n,∀ u∈shVs sh n,u.oneCell'=true
 |0,u,h=>by cases h
 |n+1,u,h=>by
  simp only[shVs,List.mem_append] at h;rcases h with h|h
  ·exact yJ sh n u h
  ·simp only[shaftCs,List.mem_cons,List.not_mem_nil,or_false] at h;rcases h with rfl|rfl|rfl|rfl|rfl|rfl|rfl<;>rfl
theorem yUa{w:World}{g n:Nat}{cur:Array Value}{fz:Nat×Nat}{sh:Nat→Shaft}(hg:w.heap[g]? = some (.cells cur 65 fz))(ht:cur.toList.take (n*7)=shVs sh n):zA w (some ⟨g,0,none⟩) n sh:=by
 intro k hk;have key:∀ i,i<7→w.cell? ⟨g,0+k*7+i,none⟩=(shaftCs (sh k))[i]?:=by intro i hi;have h1:=ykb sh n k i hk hi;rw[←ht,List.getElem?_take,if_pos (by omega),Array.getElem?_toList] at h1;simp only[World.cell?,hg,Nat.zero_add];exact h1
 exact⟨g,0,rfl,key 0 (by omega),key 1 (by omega),key 2 (by omega),key 3 (by omega),key 4 (by omega),key 5 (by omega),key 6 (by omega)⟩
theorem it65:(Tryz.prog.info? 65).map (fun i=>(i.zero,i.size,i.bytes))=some (some (.agg #[.string .empty,.int .i64 0,.int .i64 0,.int .i64 0,.int .i64 0,.int .i64 0,.int .i64 0]),7,64):=by kernel_rfl
theorem ut24:Tryz.prog.underlying 24=some (.slice 65):=by kernel_rfl
theorem yc{w:World}{p:Nat}{cs:Array Value}{t:TypeId}(h:w.heap[p]? = some (.cells cs t (0,0))):∀ j,w.frozen? ⟨p,j,none⟩=false:=fun j=>by simp[World.frozen?,h]
theorem yA(w:World)(o:Obj){k:Nat}(h:w.heap.size=k):(w.alloc o).heap[k]? = some o:=by subst h;exact zNb _ _
theorem yzb{w:World}{b p:Nat}{x:Shaft}(h:zKb w b p x):∀ i,i<7→w.cell? ⟨b,p+i,none⟩=(shaftCs x)[i]?:=fun i hi=>by
 have h7:i=0∨i=1∨i=2∨i=3∨i=4∨i=5∨i=6:=by omega
 rcases h7 with rfl|rfl|rfl|rfl|rfl|rfl|rfl
 ·exact h.h0
 ·exact h.h1
 ·exact h.h2
 ·exact h.h3
 ·exact h.h4
 ·exact h.h5
 ·exact h.h6
theorem yTb{w:World}{b p:Nat}{x:Shaft}(h:∀ i,i<7→w.cell? ⟨b,p+i,none⟩=(shaftCs x)[i]?):zKb w b p x:=
 ⟨h 0 (by omega),h 1 (by omega),h 2 (by omega),h 3 (by omega),h 4 (by omega),h 5 (by omega),h 6 (by omega)⟩
theorem upd_cs(x:Shaft){m i:Nat}(hm:m<3)(hi:i<7)(u v:Int):(shaftCs (yE x m u v))[i]? = if i=1+2*m then some (.int .i64 u) else if i=2+2*m then some (.int .i64 v) else(shaftCs x)[i]?:=by
 have h3:m=0∨m=1∨m=2:=by omega
 have h7:i=0∨i=1∨i=2∨i=3∨i=4∨i=5∨i=6:=by omega
 rcases h3 with rfl|rfl|rfl<;>rcases h7 with rfl|rfl|rfl|rfl|rfl|rfl|rfl<;>rfl
theorem shafts_put{w:World}{g n k m:Nat}{sh:Nat→Shaft}(h:zA w (some ⟨g,0,none⟩) n sh)(hk:k<n)(hm:m<3)(u v:Int) :
  zA ((w.setCell ⟨g,k*7+(1+2*m),none⟩ (.int .i64 u)).setCell ⟨g,k*7+(2+2*m),none⟩ (.int .i64 v)) (some ⟨g,0,none⟩) n (putSh sh k m u v):=by
 intro j hj;refine⟨g,0,rfl,yTb fun i hi=>?_⟩;rw[Nat.zero_add];have hc:∀ t i,t<n→i<7→w.cell? ⟨g,t*7+i,none⟩=(shaftCs (sh t))[i]?:=fun t i ht hi=>by obtain⟨b',o',e,hx⟩:=h t ht;cases e;have:=yzb hx i hi;rwa [Nat.zero_add] at this
 have h1:=hc k (1+2*m) hk (by omega);have h2:=hc k (2+2*m) hk (by omega);have s1:∃ y,(shaftCs (sh k))[1+2*m]? = some y:=⟨_,List.getElem?_eq_getElem (by simp[shaftCs];omega)⟩;have s2:∃ y,(shaftCs (sh k))[2+2*m]? = some y:=⟨_,List.getElem?_eq_getElem (by simp[shaftCs];omega)⟩;obtain⟨y1,e1⟩:=s1;obtain⟨y2,e2⟩:=s2;rw[e1] at h1;rw[e2] at h2;have ne:(⟨g,k*7+(1+2*m),none⟩:Addr)≠⟨g,k*7+(2+2*m),none⟩:=by intro e;simp only[Addr.mk.injEq] at e;omega
 by_cases ej:j=k
 ·subst ej;rw[show putSh sh j m u v j=yE (sh j) m u v by simp[putSh],upd_cs _ hm hi];by_cases i1:i=1+2*m
  ·subst i1;rw[if_pos rfl,World.cell?_setCell_other _ _ _ _ (by intro e;simp only[Addr.mk.injEq] at e;omega),World.cell?_setCell_same _ _ _ h1]
  ·rw[if_neg i1];by_cases i2:i=2+2*m
   ·subst i2;rw[if_pos rfl,World.cell?_setCell_same _ _ _ (by rw[World.cell?_setCell_other _ _ _ _ (by intro e;simp only[Addr.mk.injEq] at e;omega)];exact h2)]
   ·rw[if_neg i2,World.cell?_setCell_other _ _ _ _ (by intro e;simp only[Addr.mk.injEq] at e;omega),World.cell?_setCell_other _ _ _ _ (by intro e;simp only[Addr.mk.injEq] at e;omega)];exact hc j i hj hi
 ·rw[show putSh sh k m u v j=sh j by simp[putSh,ej],World.cell?_setCell_other _ _ _ _ (by intro e;simp only[Addr.mk.injEq] at e;omega),World.cell?_setCell_other _ _ _ _ (by intro e;simp only[Addr.mk.injEq] at e;omega)];exact hc j i hj hi
theorem yl{w:World}{g n p j:Nat}{sh:Nat→Shaft}(h:zA w (some ⟨g,0,none⟩) n sh)(hp:p≠g)(x:Value):zA (w.setCell ⟨p,j,none⟩ x) (some ⟨g,0,none⟩) n sh:=by
 intro k hk;obtain⟨b',o',e,hx⟩:=h k hk;cases e;have ne:∀ i,(⟨g,i,none⟩:Addr)≠⟨p,j,none⟩:=fun i e=>by simp only[Addr.mk.injEq] at e;exact hp e.1.symm
 refine⟨g,0,rfl,yTb fun i hi=>?_⟩;rw[World.cell?_setCell_other _ _ _ _ (by first|exact ne _|exact(ne _).symm)];exact yzb hx i hi
end
section
open Go.RowKit
def outZ(a b l m:Int):Int:=if l≤a∧a≤b∧b≤m then 0 else 1
theorem spanLimits1_any(a b l m:Int)(p q r:Nat)(w:World)(hp:w.cell? ⟨p,0,none⟩=some (.int .i64 a))(hp1:w.cell? ⟨p,1,none⟩=some (.int .i64 b))(hq:w.cell? ⟨q,0,none⟩=some (.int .i64 l))(hr:w.cell? ⟨r,0,none⟩=some (.int .i64 m)) :
  CallsIn Fc 0 Tryz.prog 125 #[ptr p,ptr q,ptr r] w (yH (outZ a b l m) w):=by
 unfold outZ;gi_enter Tryz.func125,Tryz.ntmps125;by_cases h1:a<l
 ·rw[if_neg (by omega)];gi_wp2;go_ret;exact⟨rfl,Below.refl _ _⟩
 ·by_cases h2:a>b
  ·rw[if_neg (by omega)];gi_wp2;go_ret;exact⟨rfl,Below.refl _ _⟩
  ·by_cases h3:b>m
   ·rw[if_neg (by omega)];gi_wp2;go_ret;exact⟨rfl,Below.refl _ _⟩
   ·rw[if_pos (by omega)];gi_wp2;go_ret;exact⟨rfl,Below.refl _ _⟩
def firstZ(F:Nat→Int):Nat→Int
 |0=>0
 |k+1=>if firstZ F k=0 then F k else firstZ F k
theorem yo{F:Nat→Int}:∀{n:Nat},firstZ F n=0↔∀ k,k<n→F k=0
 |0=>by simp[firstZ]
 |n+1=>by
  simp only[firstZ];constructor
  ·intro h k hk;split at h
   ·next h0=>
    rcases Nat.lt_succ_iff_lt_or_eq.1 hk with hk|rfl
    ·exact yo.1 h0 k hk
    ·exact h
   ·next h0=>exact absurd h h0
  ·intro h;rw[if_pos (yo.2 fun k hk=>h k (by omega))];exact h n (by omega)
theorem yCb{F:Nat→Int}{k:Nat}(hz:∀ j,j<k→F j=0)(h0:F k≠0):∀{n:Nat},k<n→firstZ F n=F k
 |0,h=>by omega
 |n+1,h=>by
  simp only[firstZ];by_cases e:k=n
  ·subst e;rw[if_pos (yo.2 hz)]
  ·have h1:=yCb hz h0 (n:=n) (by omega);rw[h1,if_neg h0]
def yg(v:Value)(f:Int)(w:World):Prop:=
 (∃(i:Nat) (sv:Value),(i=96∨i=97∨i=98∨i=56)∧v=.func (.func i) #[sv] #[]∧∀ w',Below w.heap.size w w'→CallsIn Fc 0 Tryz.prog i #[sv] w' (yH f w')) ∨
 (∃ p q:Nat,v=.func (.func 123) #[] #[ptr p,ptr q]∧∀ w',Below w.heap.size w w'→CallsIn Fc 0 Tryz.prog 123 #[ptr p,ptr q] w' (yH f w')) ∨
 (∃ p q r:Nat,v=.func (.func 124) #[] #[ptr p,ptr q,ptr r]∧∀ w',Below w.heap.size w w'→CallsIn Fc 0 Tryz.prog 124 #[ptr p,ptr q,ptr r] w' (yH f w')) ∨
 (∃ p q r:Nat,v=.func (.func 125) #[] #[ptr p,ptr q,ptr r]∧∀ w',Below w.heap.size w w'→CallsIn Fc 0 Tryz.prog 125 #[ptr p,ptr q,ptr r] w' (yH f w'))
theorem yg.below{v:Value}{f:Int}{w w':World}(hb:Below w.heap.size w w')(h:yg v f w):yg v f w':=by
 rcases h with⟨i,sv,hi,rfl,h⟩|⟨p,q,rfl,h⟩|⟨p,q,r,rfl,h⟩|⟨p,q,r,rfl,h⟩
 ·exact .inl ⟨i,sv,hi,rfl,fun w1 h1=>h w1 (hb.trans (h1.mono hb.size))⟩
 ·exact .inr (.inl ⟨p,q,rfl,fun w1 h1=>h w1 (hb.trans (h1.mono hb.size))⟩)
 ·exact .inr (.inr (.inl ⟨p,q,r,rfl,fun w1 h1=>h w1 (hb.trans (h1.mono hb.size))⟩))
 ·exact .inr (.inr (.inr ⟨p,q,r,rfl,fun w1 h1=>h w1 (hb.trans (h1.mono hb.size))⟩))
def SaysFoul(F:Nat→Int)(n:Nat)(w:World)(e:Ending)(w':World):Prop:=∃ f:Int,e=.returned (.int .i64 f)∧f=firstZ F n∧Below w.heap.size w w'
theorem yda(b n cap:Nat)(F:Nat→Int)(W:World)(hn:n≤100)(hall:Hid (∀ k,k<n→∃ v,W.cell? ⟨b,k,none⟩=some v∧yg v (F k) W)) :
  CallsIn Fc 0 Tryz.prog 55 #[.slice (some ⟨b,0,none⟩) n cap] W (SaysFoul F n W):=by
 gi_enter Tryz.func55,Tryz.ntmps55;gi_wp2
 gi_loopw [8] (fun i wr=>∃ k:Nat,k≤n∧i=.int .i64 k∧Below W.heap.size W wr∧∀ j,j<k→F j=0) (fun i _=>n-(intOf i).toNat)
 case atStart=>exact⟨0,Nat.zero_le _,rfl,Below.refl _ _,fun j h=>by omega⟩
 case round=>
  obtain⟨k,hk,rfl,hb,hz⟩:=hrel;by_cases hlt:k<n
  ·obtain⟨v,hv,hf⟩:=hall.out k hlt;have hc:=Below.old hb hv;clear hv;by_cases h0:F k=0
   ·have hz':∀ j,j<k+1→F j=0:=fun j hj=>by
     rcases Nat.lt_succ_iff_lt_or_eq.1 hj with h|rfl
     ·exact hz j h
     ·exact h0
    have HZ:=Lib.hid hz';clear hz hz';rw[h0] at hf;clear h0;rcases hf with⟨i,sv,hi,rfl,hcall⟩|⟨p,q,rfl,hcall⟩|⟨p,q,r,rfl,hcall⟩|⟨p,q,r,rfl,hcall⟩
    ·have hcall':=hcall _ hb;clear hcall;rcases hi with rfl|rfl|rfl|rfl
     all_goals
      gi_wp2_with (first
       |(gi_at_call 96;refine hcall'.mono ?_;rintro e w' ⟨rfl,hb1⟩)
       |(gi_at_call 97;refine hcall'.mono ?_;rintro e w' ⟨rfl,hb1⟩)
       |(gi_at_call 98;refine hcall'.mono ?_;rintro e w' ⟨rfl,hb1⟩)
       |(gi_at_call 56;refine hcall'.mono ?_;rintro e w' ⟨rfl,hb1⟩))
      go_roundw
      case rel=>exact⟨k+1,by omega,by go_num,hb.trans (hb1.mono hb.size),HZ.out⟩
      case measure=>simp[intOf];omega
    ·have hcall':=hcall _ hb;clear hcall
     gi_wp2_with (gi_at_call 123;refine hcall'.mono ?_;rintro e w' ⟨rfl,hb1⟩)
     go_roundw
     case rel=>exact⟨k+1,by omega,by go_num,hb.trans (hb1.mono hb.size),HZ.out⟩
     case measure=>simp[intOf];omega
    ·have hcall':=hcall _ hb;clear hcall
     gi_wp2_with (gi_at_call 124;refine hcall'.mono ?_;rintro e w' ⟨rfl,hb1⟩)
     go_roundw
     case rel=>exact⟨k+1,by omega,by go_num,hb.trans (hb1.mono hb.size),HZ.out⟩
     case measure=>simp[intOf];omega
    ·have hcall':=hcall _ hb;clear hcall
     gi_wp2_with (gi_at_call 125;refine hcall'.mono ?_;rintro e w' ⟨rfl,hb1⟩)
     go_roundw
     case rel=>exact⟨k+1,by omega,by go_num,hb.trans (hb1.mono hb.size),HZ.out⟩
     case measure=>simp[intOf];omega
   ·have hno:firstZ F n=F k:=yCb hz h0 hlt;have HN:=Lib.hid hno;clear hno hz;generalize F k=fk at *;rcases hf with⟨i,sv,hi,rfl,hcall⟩|⟨p,q,rfl,hcall⟩|⟨p,q,r,rfl,hcall⟩|⟨p,q,r,rfl,hcall⟩
    ·have hcall':=hcall _ hb;clear hcall;rcases hi with rfl|rfl|rfl|rfl
     all_goals
      gi_wp2_with (first
       |(gi_at_call 96;refine hcall'.mono ?_;rintro e w' ⟨rfl,hb1⟩)
       |(gi_at_call 97;refine hcall'.mono ?_;rintro e w' ⟨rfl,hb1⟩)
       |(gi_at_call 98;refine hcall'.mono ?_;rintro e w' ⟨rfl,hb1⟩)
       |(gi_at_call 56;refine hcall'.mono ?_;rintro e w' ⟨rfl,hb1⟩))
      go_ret;exact⟨_,rfl,HN.out.symm,hb.trans (hb1.mono hb.size)⟩
    ·have hcall':=hcall _ hb;clear hcall
     gi_wp2_with (gi_at_call 123;refine hcall'.mono ?_;rintro e w' ⟨rfl,hb1⟩)
     go_ret;exact⟨_,rfl,HN.out.symm,hb.trans (hb1.mono hb.size)⟩
    ·have hcall':=hcall _ hb;clear hcall
     gi_wp2_with (gi_at_call 124;refine hcall'.mono ?_;rintro e w' ⟨rfl,hb1⟩)
     go_ret;exact⟨_,rfl,HN.out.symm,hb.trans (hb1.mono hb.size)⟩
    ·have hcall':=hcall _ hb;clear hcall
     gi_wp2_with (gi_at_call 125;refine hcall'.mono ?_;rintro e w' ⟨rfl,hb1⟩)
     go_ret;exact⟨_,rfl,HN.out.symm,hb.trans (hb1.mono hb.size)⟩
  ·gi_wp2;go_ret;exact⟨0,rfl,(yo.2 fun j hj=>hz j (by omega)).symm,hb⟩
structure yxa(w:World)(sp ip:Nat)(rs rl rw many:Int)(A:Option Addr)(n c:Nat)(k:Nat):Prop where
 i:w.cell? ⟨ip,0,none⟩=some (.int .i64 k)
 c0:w.cell? ⟨sp,0,none⟩=some (.int .i64 rs)
 c1:w.cell? ⟨sp,1,none⟩=some (.int .i64 rl)
 c2:w.cell? ⟨sp,2,none⟩=some (.int .i64 rw)
 c3:w.cell? ⟨sp,3,none⟩=some (.int .i64 many)
 c4:w.cell? ⟨sp,4,none⟩=some (.slice A n c)
theorem yxa.below{W w:World}(h:Below W.heap.size W w){sp ip:Nat}{rs rl rw many:Int}{A:Option Addr}{n c k:Nat}(hx:yxa W sp ip rs rl rw many A n c k):yxa w sp ip rs rl rw many A n c k:=
 ⟨Below.old h hx.i,Below.old h hx.c0,Below.old h hx.c1,Below.old h hx.c2,Below.old h hx.c3,Below.old h hx.c4⟩
theorem hasShaft1_ok(sp ip:Nat)(rs rl rw many:Int)(A:Option Addr)(n c k:Nat)(W:World)(hn:n≤9)(hk:k<n)(hbox:yxa W sp ip rs rl rw many A n c k) :
  CallsIn Fc 0 Tryz.prog 123 #[ptr sp,ptr ip] W (yH 0 W):=by
 obtain⟨d,d0,d1,d2,d3,d4⟩:=hbox;gi_enter Tryz.func123,Tryz.ntmps123
 gi_wp2_with (gi_at_call 100;refine(has_ok _ _ _ _ _ _ _ _ _ (Int.natCast_nonneg _) (Int.ofNat_lt.2 hk) hn).mono ?_;rintro e w' ⟨rfl,hb1⟩)
 go_ret;exact⟨rfl,hb1⟩
def HandsHas(rs rl rw many:Int)(A:Option Addr)(n c k:Nat)(w:World)(e:Ending)(w':World):Prop:=
 ∃ sp ip:Nat,e=.returned (.func (.func 123) #[] #[ptr sp,ptr ip])∧yxa w' sp ip rs rl rw many A n c k∧Below w.heap.size w w'
theorem ywa(rs rl rw many:Int)(A:Option Addr)(n c k:Nat)(W:World) :
  CallsIn Fc 0 Tryz.prog 75 #[zga rs rl rw many A n c,.int .i64 k] W (HandsHas rs rl rw many A n c k W):=by
 gi_enter Tryz.func75,Tryz.ntmps75;gi_wp2;go_ret;exact⟨_,_,rfl,⟨by go_simp,by go_simp,by go_simp,by go_simp,by go_simp,by go_simp⟩,((Below.refl _ _).alloc (Nat.le_refl _) _).alloc (by simp) _⟩
theorem Lim.is{w:World}{v:Value}{n l m:Int}(h:Lim v n l m w)(h1:l≤n)(h2:n≤m):yg v 0 w:=by obtain⟨p,q,r,rfl,hp,hq,hr⟩:=h;exact .inr (.inr (.inl ⟨p,q,r,rfl,fun w' hb=>(yab n l m p q r w' (Below.old hb hp.cell) (Below.old hb hq.cell) (Below.old hb hr.cell) h1 h2).mono fun _ _ h=>h.fair⟩))
theorem Spn.is{w:World}{v:Value}{a b l m:Int}(h:Spn v a b l m w):yg v (outZ a b l m) w:=by obtain⟨p,q,r,rfl,hp,hq,hr⟩:=h;exact .inr (.inr (.inr ⟨p,q,r,rfl,fun w' hb=>spanLimits1_any a b l m p q r w' (Below.old hb hp.cell.1) (Below.old hb hp.cell.2) (Below.old hb hq.cell) (Below.old hb hr.cell)⟩))
theorem yxa.is{w:World}{sp ip:Nat}{rs rl rw many:Int}{A:Option Addr}{n c k:Nat}(h:yxa w sp ip rs rl rw many A n c k)(hn:n≤9)(hk:k<n):yg (.func (.func 123) #[] #[ptr sp,ptr ip]) 0 w:=
 .inr (.inl ⟨sp,ip,rfl,fun w' hb=>hasShaft1_ok sp ip rs rl rw many A n c k w' hn hk (h.below hb)⟩)
theorem yQ{fn:Func}{tmps:Array Value}{w:World}{g:Nat}{u v:Int}{t:Value}(h:fn.results=#[.cell 4 52,.tmp 5])(ht:tmps.getD 4 undef=.pointer (some ⟨g,0,none⟩))(h5:tmps.getD 5 undef=t)(hb:zI w g u v) :
  (results fn tmps).run Tryz.prog w=.ok (.tuple #[spanV u v,t]) w:=by
 obtain⟨c0,c1⟩:=hb.cell;have ht':tmps[4]?.getD undef=.pointer (some ⟨g,0,none⟩):=by rw[←ht,Array.getD_eq_getD_getElem?]
 have h5':tmps[5]?.getD undef=t:=by rw[←h5,Array.getD_eq_getD_getElem?]
 unfold results;rw[h];simp[ht',h5',asAddr];go_simp
theorem ym{fn:Func}{tmps:Array Value}{w:World}{g:Nat}{a0 a1 a2 a3 a4 t:Value}(h:fn.results=#[.cell 8 26,.tmp 9])(ht:tmps.getD 8 undef=.pointer (some ⟨g,0,none⟩))(h5:tmps.getD 9 undef=t)(c0:w.cell? ⟨g,0,none⟩=some a0)(c1:w.cell? ⟨g,1,none⟩=some a1)(c2:w.cell? ⟨g,2,none⟩=some a2)(c3:w.cell? ⟨g,3,none⟩=some a3)(c4:w.cell? ⟨g,4,none⟩=some a4) :
  (results fn tmps).run Tryz.prog w=.ok (.tuple #[.agg #[a0,a1,a2,a3,a4],t]) w:=by
 have ht':tmps[8]?.getD undef=.pointer (some ⟨g,0,none⟩):=by rw[←ht,Array.getD_eq_getD_getElem?]
 have h5':tmps[9]?.getD undef=t:=by rw[←h5,Array.getD_eq_getD_getElem?]
 unfold results;rw[h];simp[ht',h5',asAddr];go_simp
theorem ywb(w:World)(A C:Obj)(u v:Int):zI (((w.alloc A).alloc C).alloc (.cells #[.int .i64 u,.int .i64 v] 52)) (w.heap.size+1+1) u v:=by have h:=span_new ((w.alloc A).alloc C) u v;simpa using h
def yta(a b x y:Int)(w:World)(e:Ending)(w':World):Prop:=
 Below w.heap.size w w'∧((max a x≤min b y∧e=.returned (.tuple #[spanV (max a x) (min b y),.bool true]))∨(¬ max a x≤min b y∧e=.returned (.tuple #[spanV 0 0,.bool false])))
theorem common_any(a b x y:Int)(w:World):CallsIn Fc 0 Tryz.prog 80 #[spanV a b,spanV x y] w (yta a b x y w):=by
 have e1:max a x=if a<x then x else a:=by rw[Int.max_def];split<;>split<;>omega
 have e2:min b y=if y<b then y else b:=by rw[Int.min_def];split<;>split<;>omega
 gi_enter Tryz.func80,Tryz.ntmps80;by_cases hcm:max a x≤min b y
 ·have H:=Lib.hid hcm;gi_wp2
  all_goals
   refine bodyPost_ret (v:=.tuple #[spanV (max a x) (min b y),.bool true]) (yQ rfl rfl rfl ?_) rfl ?_
   ·rw[e1,e2]
    repeat' split
    all_goals first|omega|exact ywb _ _ _ _ _
   ·exact⟨(((Below.refl _ _).alloc (Nat.le_refl _) _).alloc (by simp) _).alloc (by simp;omega) _,.inl ⟨H.out,rfl⟩⟩
 ·have H:=Lib.hid hcm;gi_wp2
  all_goals
   refine bodyPost_ret (v:=.tuple #[spanV 0 0,.bool false]) (yQ rfl rfl rfl ?_) rfl ?_
   ·exact ywb _ _ _ _ _
   ·exact⟨(((Below.refl _ _).alloc (Nat.le_refl _) _).alloc (by simp) _).alloc (by simp;omega) _,.inr ⟨Int.not_le.2 H.out,rfl⟩⟩
def SaysHas(p:Prop)(w:World)(e:Ending)(w':World):Prop:=∃ b:Bool,e=.returned (.bool b)∧(b=true↔p)∧w=w'
theorem ygb(LA:Option Addr)(m lc:Nat)(l:Nat→Nat)(k:Nat)(W:World)(hm:m≤9)(hmc:m≤lc)(hi:Hid (zca W LA m fun k=>(l k:Int))) :
  CallsIn Fc 0 Tryz.prog 40 #[.slice LA m lc,.int .i64 k] W (SaysHas (∃ i,i<m∧l i=k) W):=by
 gi_enter Tryz.func40,Tryz.ntmps40;gi_wp2
 gi_loopw [5] (fun v wr=>∃ i:Nat,i≤m∧v=.int .i64 i∧W=wr∧∀ j,j<i→l j≠k) (fun v _=>m-(intOf v).toNat)
 case atStart=>exact⟨0,Nat.zero_le _,rfl,rfl,fun j h=>by omega⟩
 case round=>
  obtain⟨i,hi',rfl,rfl,hno⟩:=hrel;by_cases hlt:i<m
  ·obtain⟨b,o,rfl,hc⟩:=hi.out i hlt;by_cases he:l i=k
   ·have he':((l i:Nat):Int)=(k:Int):=by omega
    gi_wp2;go_ret;exact⟨true,rfl,⟨fun _=>⟨i,hlt,he⟩,fun _=>rfl⟩,rfl⟩
   ·have he':¬((l i:Nat):Int)=(k:Int):=by omega
    gi_wp2;go_roundw
    case rel=>exact⟨i+1,by omega,by go_num,by first|rfl|trivial,fun j hj=>by
     rcases Nat.lt_succ_iff_lt_or_eq.1 hj with h|rfl
     ·exact hno j h
     ·exact he⟩
    case measure=>simp[intOf];omega
  ·gi_wp2;go_ret;exact⟨false,rfl,⟨fun h=>absurd h (by decide),fun⟨j,hj,he⟩=>absurd he (hno j (by omega))⟩,rfl⟩
end
section
open Go.RowKit
def yhb(n:Nat)(sh:Nat→Shaft)(W:World)(e:Ending)(w':World):Prop:=
 ∃ g cap:Nat,e=.returned (.slice (some ⟨g,0,none⟩) n cap)∧n≤cap∧W.heap.size≤g∧(∀ j,w'.frozen? ⟨g,j,none⟩=false)∧zA w' (some ⟨g,0,none⟩) n sh∧Below W.heap.size W w'
theorem clone_at{W w4:World}{n:Nat}{sh:Nat→Shaft}{v':Value}{row:Option Nat}(hn:0<n)(hr:row=some W.heap.size)(hg4:World.grownBy (W.alloc (.cells #[] 65)) w4 row)(hown4:w4.ownsRow W.heap.size 65 7 v' (0+n) ([]++shVs sh n)):yhb n sh W (.returned v') w4:=by
 subst hr;obtain⟨_,hv4⟩:=hown4;rcases hv4 with⟨_,hn0⟩|⟨g,cap,cur,rfl,hg0,hgb,hcap,hmx,hcs,htk⟩
 ·exact absurd hn0 (by omega)
 rw[Nat.zero_add] at hcap htk ⊢;exact⟨g,cap,rfl,hcap,hg0,yc hgb,yUa hgb (by simpa using htk),((Below.refl _ _).alloc (Nat.le_refl _) _).grown hg4 (by simp) (fun k e=>by cases e;omega)⟩
theorem Clone_any(b o n c:Nat)(sh:Nat→Shaft)(W:World)(hn:n≤9)(h0:0<n)(hc:n≤c)(hsh:Hid (zA W (some ⟨b,o,none⟩) n sh)) :
    CallsIn Fc 0 Tryz.prog 79 #[.slice (some ⟨b,o,none⟩) n c] W (yhb n sh W):=by
  obtain⟨i0,hi0,hz0,hz1,hz2⟩:=info_parts it65;have HI0:=Lib.hid hi0;have HZ0:=Lib.hid hz0;have HZ1:=Lib.hid hz1;have HZ2:=Lib.hid hz2;clear hi0 hz0 hz1 hz2;have HB:Hid (∀ x,Below W.heap.size W (W.alloc x)):=Lib.hid fun x=>(Below.refl _ _).alloc (Nat.le_refl _) x
  have hnil:∀ w:World,(binOp .eql 24 (.slice (some ⟨b,o,none⟩) n c) (.slice none 0 0)).run Tryz.prog w=.ok (.bool false) w:=fun w=>Lib.run_eql_slice_nil w 24 65 _ n c 0 0 ut24
  gi_enter Tryz.func79,Tryz.ntmps79
  gi_wp2_with
    (gi_at_builtin
     refine wpListIn_append_own _ rfl _ _ 24 rfl W.heap.size 65 i0 (.agg #[.string .empty,.int .i64 0,.int .i64 0,.int .i64 0,.int .i64 0,.int .i64 0,.int .i64 0]) 7 64 ut24 HI0.out HZ0.out HZ1.out HZ2.out rfl (by decide) (.slice (some ⟨W.heap.size,0,none⟩) 0 0) 0 [] rfl ⟨rfl,.inr ⟨W.heap.size,0,#[],rfl,by omega,yA _ _ (by simp),by omega,by simp[maxLen],by simp,by simp⟩⟩ ⟨b,o,none⟩ n c (shVs sh n) rfl (shVs_len sh n) (yL (hsh.out.below (HB.out _))) (yJ sh n) (by simp[maxLen];omega) (by omega) (by simp) ?_;intro v' w4 hown4 hg4 hnil4;have hP:=clone_at h0 rfl hg4 hown4;clear hg4 hnil4 hown4)
  go_ret;exact hP
def dstsIn(ops:Array Oper)(D:List Nat):Bool:=(List.range ops.size).all fun j=>match dstAt ops j with|some s=>D.contains s|none=>true
theorem dstsIn_use{ops:Array Oper}{D:List Nat}(h:dstsIn ops D=true){j s:Nat}(hj:j<ops.size)(e:dstAt ops j=some s):s∈D:=by have h1:=List.all_eq_true.1 h j (List.mem_range.2 hj);rw[e] at h1;simpa using h1
theorem RF.act{ops:Array Oper}{sup:Nat→List Nat}{Ψ:Nat→List Value→World→Prop}{I:World→Prop}{z:Nat}{a0:Act}{listed:Array Bool}{a:Act}{w:World}(h:RF ops sup Ψ I z a0 listed a w)(hz:a0.tmps.size=z)(D:List Nat)(hD:dstsIn ops D=true) :
  a={tmps:=(D.map fun d=>(d,a.eval (.tmp d))).foldl (fun t x=>t.setIfInBounds x.1 x.2) a0.tmps,defers:=[]}:=by
 have e:=yza a (D.map fun d=>(d,a.eval (.tmp d))) a0.tmps (by rw[hz,h.size]) (fun x hx=>by obtain⟨d,_,rfl⟩:=List.mem_map.1 hx;rfl) fun s hs=>(h.old s fun j hj e=>hs _ (List.mem_map.2 ⟨s,dstsIn_use hD hj e,rfl⟩) rfl).symm
 rw[e];obtain⟨t,d⟩:=a;have:=h.defers;simp only at this;subst this;rfl
end
end Go.Proofs.YtpdmgecbapmgdaaGreat
