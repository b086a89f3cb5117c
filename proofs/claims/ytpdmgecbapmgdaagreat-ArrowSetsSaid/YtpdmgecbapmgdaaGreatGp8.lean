/- A part of the proof that ArrowSets returns true for every input: no further condition. -/
import Derived.Test.YtpdmgecbapmgdaaGreatGp7
import Derived.Test.YtpdmgecbapmgdaaGreatGp2
import Derived.Test.YtpdmgecbapmgdaaGreatGp6
set_option linter.unusedSimpArgs false
set_option linter.unusedVariables false
set_option maxHeartbeats 4000000
set_option maxRecDepth 100000
namespace Go.Proofs.YtpdmgecbapmgdaaGreat
section
open Go.RowKit
def HandsAp(L:List Ap)(W:World)(e:Ending)(w':World):Prop:=∃(sl:Value) (base:Nat),e=.returned sl∧w'.ownsRow base 62 4 sl L.length (apVs L)∧W.heap.size≤base∧Below W.heap.size W w'
theorem refApart_any(rs rl rw many:Int)(A:Option Addr)(n c:Nat)(sh:Nat→Shaft)(LA:Option Addr)(m lc:Nat)(l:Nat→Nat)(W:World)(hc:n≤c)(hst:Hid (zxa rs rl rw many n sh))(hsh:Hid (zA W A n sh))
  (hm:m≤9) (hmc:m≤lc) (hl:Hid (∀ k,k<m→l k<n)) (hi:Hid (zca W LA m fun k=>(l k:Int))) :
  CallsIn Fc 0 Tryz.prog 67 #[zga rs rl rw many A n c,.slice LA m lc] W (HandsAp (apAll rs rl rw sh l m m) W):=by
 obtain⟨i0,hi0,hz0,hz1,hz2⟩:=info_parts it62;have HI0:=Lib.hid hi0;have HZ0:=Lib.hid hz0;have HZ1:=Lib.hid hz1;have HZ2:=Lib.hid hz2;clear hi0 hz0 hz1 hz2;have hn:=hst.out.count;have hB1:Below W.heap.size W (W.alloc (.cells #[.int .i64 rs,.int .i64 rl,.int .i64 rw,.int .i64 many,.slice A n c] 26)):=(Below.refl _ _).alloc (Nat.le_refl _) _;have HB1:=Lib.hid hB1;clear hB1;gi_enter Tryz.func67,Tryz.ntmps67;gi_wp2;have f0:(W.alloc (.cells #[.int .i64 rs,.int .i64 rl,.int .i64 rw,.int .i64 many,.slice A n c] 26)).cell? ⟨W.heap.size,0,none⟩=some (.int .i64 rs):=by go_simp
 have f1:(W.alloc (.cells #[.int .i64 rs,.int .i64 rl,.int .i64 rw,.int .i64 many,.slice A n c] 26)).cell? ⟨W.heap.size,1,none⟩=some (.int .i64 rl):=by go_simp
 have f2:(W.alloc (.cells #[.int .i64 rs,.int .i64 rl,.int .i64 rw,.int .i64 many,.slice A n c] 26)).cell? ⟨W.heap.size,2,none⟩=some (.int .i64 rw):=by go_simp
 have f3:(W.alloc (.cells #[.int .i64 rs,.int .i64 rl,.int .i64 rw,.int .i64 many,.slice A n c] 26)).cell? ⟨W.heap.size,3,none⟩=some (.int .i64 many):=by go_simp
 have f4:(W.alloc (.cells #[.int .i64 rs,.int .i64 rl,.int .i64 rw,.int .i64 many,.slice A n c] 26)).cell? ⟨W.heap.size,4,none⟩=some (.slice A n c):=by go_simp
 generalize(W.alloc (.cells #[.int .i64 rs,.int .i64 rl,.int .i64 rw,.int .i64 many,.slice A n c] 26))=w6 at *;have HB6:=HB1;clear HB1
 gi_loopw [5,6] (fun sl iv wr=>∃ i:Nat,i≤m∧iv=.int .i64 i∧wr.ownsRow w6.heap.size 62 4 sl (apAll rs rl rw sh l m i).length (apVs (apAll rs rl rw sh l m i))∧Below w6.heap.size w6 wr) (fun _ iv _=>m-(intOf iv).toNat)
 case atStart=>exact⟨0,by omega,rfl,⟨rfl,.inl ⟨rfl,rfl⟩⟩,Below.refl _ _⟩
 case round=>
  obtain⟨i,hi',rfl,hown,hb⟩:=hrel;have HO:=Lib.hid hown;have HB:=Lib.hid hb;clear hown hb;by_cases hli:i<m
  ·have hw:=wrap_small i (by omega);gi_wp2
   gi_loopw [5,7] (fun sl kv wr=>∃ k:Nat,i+1≤k∧k≤m∧kv=.int .i64 k∧wr.ownsRow w6.heap.size 62 4 sl (apAll rs rl rw sh l m i++apRow rs rl rw sh l i (k-(i+1))).length (apVs (apAll rs rl rw sh l m i++apRow rs rl rw sh l i (k-(i+1))))∧Below w6.heap.size w6 wr) (fun _ kv _=>m-(intOf kv).toNat)
   case atStart=>exact⟨i+1,by omega,by omega,by first|rfl|go_num,by simpa[apRow] using HO.out,HB.out⟩
   case round=>
    obtain⟨k,hk1,hk2,rfl,hown,hb⟩:=hrel;have HO:=Lib.hid hown;have HB:=Lib.hid hb;clear hown hb;by_cases hlt:k<m
    ·gi_wp2
     gi_loopw [5,8] (fun sl xv wi=>∃ x:Nat,x≤3∧xv=.int .i64 x∧wi.ownsRow w6.heap.size 62 4 sl (apAll rs rl rw sh l m i++apRow rs rl rw sh l i (k-(i+1))++apCell rs rl rw sh l i k x).length (apVs (apAll rs rl rw sh l m i++apRow rs rl rw sh l i (k-(i+1))++apCell rs rl rw sh l i k x))∧Below w6.heap.size w6 wi) (fun _ xv _=>3-(intOf xv).toNat)
     case atStart=>exact⟨0,by omega,rfl,by simpa[apCell] using HO.out,HB.out⟩
     case round=>
      obtain⟨x,hx,rfl,hown,hb⟩:=hrel;have HO:=Lib.hid hown;have g0:=Below.old hb f0;have g1:=Below.old hb f1;have g2:=Below.old hb f2;have g3:=Below.old hb f3;have g4:=Below.old hb f4;have hz1:W.heap.size<wr.heap.size:=World.block_lt_of_cell? _ _ g0;have HB:=Lib.hid hb;clear hown hb;by_cases hlx:x<3
      ·have hx2:(x:Int)≤2:=by omega
       obtain⟨b1,o1,rfl,_⟩:=hsh.out (l i) (hl.out i hli);obtain⟨b0,o0,rfl,hci⟩:=hi.out i hli;obtain⟨b0',o0',e',hck⟩:=hi.out k hlt;cases e';have hci:=Below.old HB6.out hci;have hck:=Below.old HB6.out hck;have hci:=Below.old HB.out hci;have hck:=Below.old HB.out hck;have HSW:=Lib.hid (hsh.out.below (HB6.out.trans (HB.out.mono HB6.out.size)));gi_wp2;refine zL (D:=[(28,zga rs rl rw many (some ⟨b1,o1,none⟩) n c),(29,.slice (some ⟨b0,o0,none⟩) m lc),(30,.int .i64 i),(31,.pointer (some ⟨b0,o0+i,none⟩)),(32,.int .i64 (l i)),(33,.slice (some ⟨b0,o0,none⟩) m lc),(34,.int .i64 k),(35,.pointer (some ⟨b0,o0+k,none⟩)),(36,.int .i64 (l k)),(37,.int .i64 x),(38,.int .i64 (nearOf rs rl rw (sh (l i)) (sh (l k)) x)),(9,.int .i64 (nearOf rs rl rw (sh (l i)) (sh (l k)) x))])
        (I:=fun w=>Below wr.heap.size wr w) (z:=56) (by kernel_rfl) (by kernel_rfl) (by kernel_rfl) (by kernel_rfl) (by kernel_rfl) rfl rfl (Below.refl _ _).drew ?_ ?_
       ·intro j a w hj hd hz hold hf hI;have HIB:=Lib.hid hI;have d0:=Below.old hI g0;have d1:=Below.old hI g1;have d2:=Below.old hI g2;have d3:=Below.old hI g3;have d4:=Below.old hI g4;have d5:=Below.old hI hci;have d6:=Below.old hI hck;clear hI;have s1:=zc hz (hold 1 (by kernel_rfl)) (by omega);have s2:=zc hz (hold 2 (by kernel_rfl)) (by omega);have s6:=zc hz (hold 6 (by kernel_rfl)) (by omega);have s7:=zc hz (hold 7 (by kernel_rfl)) (by omega);have s8:=zc hz (hold 8 (by kernel_rfl)) (by omega);clear hold;have hjs:j=0∨j=1∨j=2∨j=3∨j=4∨j=5∨j=6∨j=7∨j=8∨j=9∨j=10∨j=11:=by have:j<12:=hj;omega
        rcases hjs with rfl|rfl|rfl|rfl|rfl|rfl|rfl|rfl|rfl|rfl|rfl|rfl
        all_goals
         try have f29:=zc hz (hf 1 29 _ rfl rfl) (by omega)
         try have f30:=zc hz (hf 2 30 _ rfl rfl) (by omega)
         try have f31:=zc hz (hf 3 31 _ rfl rfl) (by omega)
         try have f33:=zc hz (hf 5 33 _ rfl rfl) (by omega)
         try have f34:=zc hz (hf 6 34 _ rfl rfl) (by omega)
         try have f35:=zc hz (hf 7 35 _ rfl rfl) (by omega)
         try have f28:=zc hz (hf 0 28 _ rfl rfl) (by omega)
         try have f32:=zc hz (hf 4 32 _ rfl rfl) (by omega)
         try have f36:=zc hz (hf 8 36 _ rfl rfl) (by omega)
         try have f37:=zc hz (hf 9 37 _ rfl rfl) (by omega)
         try have f38:=zc hz (hf 10 38 _ rfl rfl) (by omega)
         refine wpOpIn_step rfl fun K hK=>?_
         go_simp
         first
          |exact hK _ _ ⟨_,_,rfl,rfl,rfl,HIB.out⟩
          |(refine(refNear_any rs rl rw many b1 o1 n c (l i) (l k) x sh _ (hl.out i hli) (hl.out k hlt) hlx hst (Lib.hid (HSW.out.below HIB.out))).mono ?_;rintro e w' ⟨rfl,hb'⟩;exact hK _ _ ⟨_,_,rfl,rfl,rfl,HIB.out.trans (hb'.mono HIB.out.size)⟩)
       ·intro w9 hI;have HB9:=Lib.hid (HB.out.trans (hI.mono HB.out.size));have HO9:=Lib.hid (zu HO.out hI);have d5:=Below.old hI hci;have d6:=Below.old hI hck;clear hI;simp only[List.foldl_cons,List.foldl_nil,List.setIfInBounds_toArray,List.set_cons_succ,List.set_cons_zero];by_cases hy:nearOf rs rl rw (sh (l i)) (sh (l k)) x=1
        ·gi_wp2;go_roundw
         case rel=>
          refine⟨x+1,by omega,by first|rfl|go_num,?_,HB9.out⟩;have e1:apCell rs rl rw sh l i k (x+1)=apCell rs rl rw sh l i k x:=by simp[apCell,hy]
          rw[e1];exact HO9.out
         case measure=>simp[intOf];omega
        ·gi_wp2;have hy1:apCell rs rl rw sh l i k (x+1)=apCell rs rl rw sh l i k x++[⟨l i,l k,x,nearOf rs rl rw (sh (l i)) (sh (l k)) x⟩]:=by simp[apCell,hy]
         have HY1:=Lib.hid hy1;clear hy1;generalize nearOf rs rl rw (sh (l i)) (sh (l k)) x=y at *;refine wpIn_region_E 13 12 (D:=[(41,u5),(42,.slice (some ⟨b0,o0,none⟩) m lc),(43,.int .i64 i),(44,.pointer (some ⟨b0,o0+i,none⟩)),(45,.int .i64 (l i)),(46,.slice (some ⟨b0,o0,none⟩) m lc),(47,.int .i64 k),(48,.pointer (some ⟨b0,o0+k,none⟩)),(49,.int .i64 (l k)),(50,.int .i64 x),(51,.int .i64 y),(52,.agg #[.int .i64 (l i),.int .i64 (l k),.int .i64 x,.int .i64 y]),(53,.slice (some ⟨w9.heap.size,0,none⟩) 1 1)])
          (I:=fun b w=>w=if b then(w9.drew).alloc (.cells #[.int .i64 (l i),.int .i64 (l k),.int .i64 x,.int .i64 y] 62) else w9.drew) (z:=56) (by kernel_rfl) (by kernel_rfl) (by kernel_rfl) (by kernel_rfl) (by decide) (by omega) ⟨rfl,by kernel_rfl⟩ (by kernel_rfl) (by kernel_rfl) rfl rfl rfl ?_ ?_ ?_
         ·intro bb j a w hj hje hd hz hold hf hI;have d7:w.cell? ⟨b0,o0+i,none⟩=some (.int .i64 (l i)):=by subst hI;cases bb;exact d5;exact Below.old (((Below.refl _ _).drew).alloc (Nat.le_refl _) _) d5
          have d8:w.cell? ⟨b0,o0+k,none⟩=some (.int .i64 (l k)):=by subst hI;cases bb;exact d6;exact Below.old (((Below.refl _ _).drew).alloc (Nat.le_refl _) _) d6
          have s1:=zc hz (hold 1 (by simp)) (by omega);have s5:=zc hz (hold 5 (by simp)) (by omega);have s6:=zc hz (hold 6 (by simp)) (by omega);have s7:=zc hz (hold 7 (by simp)) (by omega);have s8:=zc hz (hold 8 (by simp)) (by omega);have s9:=zc hz (hold 9 (by simp)) (by omega);have HI:=Lib.hid hI;clear hold hI;have hjs:j=0∨j=1∨j=2∨j=3∨j=4∨j=5∨j=6∨j=7∨j=8∨j=9∨j=10∨j=11:=by omega
          rcases hjs with rfl|rfl|rfl|rfl|rfl|rfl|rfl|rfl|rfl|rfl|rfl|rfl
          all_goals
           try have f42:=zc hz (hf 1 42 _ rfl rfl) (by omega)
           try have f43:=zc hz (hf 2 43 _ rfl rfl) (by omega)
           try have f44:=zc hz (hf 3 44 _ rfl rfl) (by omega)
           try have f46:=zc hz (hf 5 46 _ rfl rfl) (by omega)
           try have f47:=zc hz (hf 6 47 _ rfl rfl) (by omega)
           try have f48:=zc hz (hf 7 48 _ rfl rfl) (by omega)
           try have f45:=zc hz (hf 4 45 _ rfl rfl) (by omega)
           try have f49:=zc hz (hf 8 49 _ rfl rfl) (by omega)
           try have f50:=zc hz (hf 9 50 _ rfl rfl) (by omega)
           try have f51:=zc hz (hf 10 51 _ rfl rfl) (by omega)
           refine wpOpIn_step rfl fun K hK=>?_
           go_simp;exact hK _ _ ⟨_,_,rfl,rfl,rfl,HI.out⟩
         ·intro a w hd hz hold hf hI;have hsz:w.heap.size=w9.heap.size:=by subst hI;rfl
          have HI:=Lib.hid hI;clear hI;have f52:=zc hz (hf 11 52 _ (by kernel_rfl) rfl) (by omega);refine wpOpIn_step rfl fun K hK=>?_
          go_simp;exact hK _ _ ⟨_,_,rfl,rfl,(by first|rfl|(rw[hsz])),by rw[show w=w9.drew from HI.out];rfl⟩
         ·intro w hI;have hI':w=(w9.drew).alloc (.cells #[.int .i64 (l i),.int .i64 (l k),.int .i64 x,.int .i64 y] 62):=hI;subst hI';have hkk:i+1+(k-(i+1))=k:=by omega
          have hln:=ap_len rs rl rw sh l hm hi' (t:=k-(i+1)) (x:=x) (by omega) (by omega);have hln2:=yRc rs rl rw sh l hm hi' (t:=k-(i+1)) (x:=x) (by omega) (by omega);rw[hkk] at hln hln2;have HLN:=Lib.hid hln;have HLN2:=Lib.hid hln2;clear hln hln2 hkk;simp only[List.foldl_cons,List.foldl_nil,List.setIfInBounds_toArray,List.set_cons_succ,List.set_cons_zero,List.drop_succ_cons,List.drop_zero]
          gi_wp2_with (gi_at_builtin;refine wpListIn_append_own _ rfl _ _ 35 rfl w6.heap.size 62 i0 (.agg #[.int .i64 0,.int .i64 0,.int .i64 0,.int .i64 0]) 4 32 ut35 HI0.out HZ0.out HZ1.out HZ2.out rfl (by decide) _ _ _ rfl ((World.ownsRow.drew HO9.out).alloc _) ⟨w9.heap.size,0,none⟩ 1 1 (apV ⟨l i,l k,x,y⟩) rfl rfl (yw _ _ _) (by simp[apV,Value.oneCell']) HLN.out (by have:=HLN2.out;omega) (by have:=HB9.out.size;simp;omega) ?_;intro v' w4 hown4 hg4 hnil4)
          go_roundw
          case rel=>have hx4:=(World.ownsRow.drew HO9.out).alloc (.cells #[.int .i64 (l i),.int .i64 (l k),.int .i64 x,.int .i64 y] 62);refine⟨x+1,by omega,by first|rfl|go_num,?_,(HB9.out.drew.alloc HB9.out.size _).grown hg4 (by have:=HB9.out.size;simp;omega) (fun g hg=>(hx4.lt g hg).1)⟩;rw[HY1.out,ap_snoc_len,ap_snoc];exact hown4
          case measure=>simp[intOf];omega
      ·gi_wp2;obtain rfl:x=3:=by omega
       go_roundw
       case rel=>exact⟨k+1,by omega,by omega,by go_num,by rw[show k+1-(i+1)=(k-(i+1))+1 by omega,show apRow rs rl rw sh l i (k-(i+1)+1)=apRow rs rl rw sh l i (k-(i+1))++apCell rs rl rw sh l i k 3 by simp only[apRow];rw[show i+1+(k-(i+1))=k by omega],←List.append_assoc];exact HO.out,HB.out⟩
       case measure=>simp[intOf];omega
    ·gi_wp2;obtain rfl:k=m:=by omega
     go_roundw
     case rel=>exact⟨i+1,by omega,by go_num,by simpa[apAll] using HO.out,HB.out⟩
     case measure=>simp[intOf];omega
  ·gi_wp2;obtain rfl:i=m:=by omega
   go_ret;exact⟨_,_,rfl,HO.out,HB6.out.size,HB6.out.trans (HB.out.mono HB6.out.size)⟩
end
section
open Go.RowKit
section
variable {rs rl rw:Int}{sh:Nat→Shaft}{l:Nat→Nat}
theorem ysb{i k w:Nat}(hn:nearOf rs rl rw (sh (l i)) (sh (l k)) w≠1):∀ x,w<x→(⟨l i,l k,w,nearOf rs rl rw (sh (l i)) (sh (l k)) w⟩:Ap)∈apCell rs rl rw sh l i k x
 |0,h=>absurd h (by omega)
 |x+1,h=>by
  simp only[apCell,List.mem_append];by_cases e:w=x
  ·subst e;right;rw[if_neg hn];exact List.mem_singleton.2 rfl
  ·exact .inl (ysb hn x (by omega))
theorem yTb{i k w:Nat}(hn:nearOf rs rl rw (sh (l i)) (sh (l k)) w≠1)(hw:w<3):∀ t,i<k→k<i+1+t→(⟨l i,l k,w,nearOf rs rl rw (sh (l i)) (sh (l k)) w⟩:Ap)∈apRow rs rl rw sh l i t
 |0,h1,h2=>absurd h1 (by omega)
 |t+1,h1,h2=>by
  simp only[apRow,List.mem_append];by_cases e:k=i+1+t
  ·subst e;exact .inr (ysb hn 3 hw)
  ·exact .inl (yTb hn hw t h1 (by omega))
theorem yWb{m j k w:Nat}(hn:nearOf rs rl rw (sh (l j)) (sh (l k)) w≠1)(hw:w<3)(hjk:j<k)(hk:k<m):∀ i,j<i→(⟨l j,l k,w,nearOf rs rl rw (sh (l j)) (sh (l k)) w⟩:Ap)∈apAll rs rl rw sh l m i
 |0,h=>absurd h (by omega)
 |i+1,h=>by
  simp only[apAll,List.mem_append];by_cases e:j=i
  ·subst e;exact .inr (yTb hn hw _ hjk (by omega))
  ·exact .inl (yWb hn hw hjk hk i (by omega))
theorem yYc{m:Nat}:zoc rs rl rw sh l m=2↔∃ e∈apAll rs rl rw sh l m m,e.sure=2:=by
 constructor
 ·intro h;obtain⟨j,i,h1,h2,w,h3,h4⟩:=ykb.1 h;exact⟨_,yWb (by rw[h4];decide) h3 h1 h2 m (by omega),h4⟩
 ·rintro⟨e,he,h⟩;obtain⟨j,k,h1,h2,_,_,h3,h4,_⟩:=yBc m (Nat.le_refl _) e he;exact ykb.2 ⟨j,k,h1,h2,e.what,h3,by rw[←h4,h]⟩
end
structure ApAt(w:World)(b p:Nat)(x:Ap):Prop where
 h0:w.cell? ⟨b,p,none⟩=some (.int .i64 x.one)
 h1:w.cell? ⟨b,p+1,none⟩=some (.int .i64 x.two)
 h2:w.cell? ⟨b,p+2,none⟩=some (.int .i64 x.what)
 h3:w.cell? ⟨b,p+3,none⟩=some (.int .i64 x.sure)
def ApsAt(w:World)(A:Option Addr)(L:List Ap):Prop:=∀ k (h:k<L.length),∃ b,A=some ⟨b,0,none⟩∧ApAt w b (k*4) L[k]
theorem ApAt.below{W w:World}(h:Below W.heap.size W w){b p:Nat}{x:Ap}(hx:ApAt W b p x):ApAt w b p x:=
 ⟨Below.old h hx.h0,Below.old h hx.h1,Below.old h hx.h2,Below.old h hx.h3⟩
theorem yzc:∀(L:List Ap) (k j:Nat) (hk:k<L.length),j<4→(apVs L)[k*4+j]? = (apV L[k])[j]?
 | [],k,j,hk,_=>absurd hk (by simp)
 |x::L,k,j,hk,hj=>by
  have e:apVs (x::L)=apV x++apVs L:=rfl;rw[e];cases k with
  |zero=>rw[List.getElem?_append_left (by simp[apV];omega)];simp
  |succ k=>
   rw[List.getElem?_append_right (by simp[apV];omega)];have h1:=yzc L k j (by simpa using hk) hj;simp only[List.getElem_cons_succ];rw[←h1]
   congr 1
   simp[apV];omega
theorem aps_own{w:World}{base:Nat}{sl:Value}{L:List Ap}(h:w.ownsRow base 62 4 sl L.length (apVs L)):∃(A:Option Addr) (c:Nat),sl=.slice A L.length c∧L.length≤c∧ApsAt w A L:=by
 rcases h.2 with⟨rfl,h0⟩|⟨g,cap,cur,rfl,_,_,hc,_⟩
 ·refine⟨none,0,by rw[h0],by omega,fun k hk=>absurd hk (by omega)⟩
 ·refine⟨_,cap,rfl,hc,fun k hk=>⟨g,rfl,?_⟩⟩;have key:∀ j,j<4→w.cell? ⟨g,k*4+j,none⟩=(apV L[k])[j]?:=fun j hj=>by rw[h.cellAt _ (by omega),yzc L k j hk hj]
  exact⟨by simpa[apV] using key 0 (by omega),by simpa[apV] using key 1 (by omega),by simpa[apV] using key 2 (by omega),by simpa[apV] using key 3 (by omega)⟩
theorem refMatch_any(rs rl rw many:Int)(A:Option Addr)(n c:Nat)(sh:Nat→Shaft)(LA:Option Addr)(m lc:Nat)(l:Nat→Nat)(W:World)(hc:n≤c)(hst:Hid (zxa rs rl rw many n sh))(hsh:Hid (zA W A n sh))
    (hm:m≤9) (hmc:m≤lc) (hl:Hid (∀ k,k<m→l k<n)) (hi:Hid (zca W LA m fun k=>(l k:Int))) :
    CallsIn Fc 0 Tryz.prog 61 #[zga rs rl rw many A n c,.slice LA m lc] W (ya (zoc rs rl rw sh l m) W):=by
  have hB1:Below W.heap.size W (W.alloc (.cells #[.int .i64 rs,.int .i64 rl,.int .i64 rw,.int .i64 many,.slice A n c] 26)):=(Below.refl _ _).alloc (Nat.le_refl _) _;have HB1:=Lib.hid hB1;clear hB1;have hlen:(apAll rs rl rw sh l m m).length≤300:=by have:=ycb rs rl rw sh l hm m;omega
  have h2:(∃ e∈apAll rs rl rw sh l m m,e.sure=2)→zoc rs rl rw sh l m=2:=yYc.2;have h1:apAll rs rl rw sh l m m=[]→zoc rs rl rw sh l m=1:=yXc.1;have h0:apAll rs rl rw sh l m m≠[]→(∀ e∈apAll rs rl rw sh l m m,e.sure≠2)→zoc rs rl rw sh l m=0:=fun h3 h4=>by
    rcases matchZ_range rs rl rw sh l m with h|h|h
    · exact h
    · exact absurd (yXc.2 h) h3
    · obtain⟨e,he,h5⟩:=yYc.1 h;exact absurd h5 (h4 e he)
  have H2:=Lib.hid h2;have H1:=Lib.hid h1;have H0:=Lib.hid h0;clear h0 h1 h2;have hcall:=fun w (hb:Below W.heap.size W w)=>refApart_any rs rl rw many A n c sh LA m lc l w hc hst (Lib.hid (hsh.out.below hb)) hm hmc hl (Lib.hid (hi.out.below hb))
  have HC:=Lib.hid hcall;clear hcall;generalize apAll rs rl rw sh l m m=L at *;generalize zoc rs rl rw sh l m=mz at *;gi_enter Tryz.func61,Tryz.ntmps61
  gi_wp2_with (gi_at_call 67;refine(HC.out _ HB1.out).mono ?_;rintro e w2 ⟨sl,base,rfl,hown,hbase,hb2⟩
               obtain⟨LB,cb,rfl,hcb,haps⟩:=aps_own hown;have HA:=Lib.hid haps;have HB2:=Lib.hid (HB1.out.trans (hb2.mono HB1.out.size));clear hown hb2 haps hbase)
  gi_loopw [5,7] (fun ov iv wr=>∃ k:Nat,k≤L.length∧iv=.int .i64 k∧(∃ q:Int,ov=.int .i64 q∧Hid (q=if k=0 then 1 else 0))∧Below w2.heap.size w2 wr∧∀ j (h:j<L.length),j<k→L[j].sure≠2) (fun _ iv _=>L.length-(intOf iv).toNat)
  case atStart=>exact⟨0,Nat.zero_le _,rfl,⟨1,rfl,Lib.hid rfl⟩,Below.refl _ _,fun j _ h=>by omega⟩
  case round=>
    obtain⟨k,hk,rfl,⟨q,rfl,hq⟩,hb,hz⟩:=hrel;have HZ:=Lib.hid hz;clear hz;by_cases hlt:k<L.length
    · obtain⟨b,rfl,hx⟩:=HA.out k hlt;obtain⟨x0,x1,x2,x3⟩:=hx.below hb;have HB:=Lib.hid hb;clear hb hx;by_cases h2:L[k].sure=2
      · rw[h2] at x3;have hv:=H2.out ⟨L[k],List.getElem_mem hlt,h2⟩;gi_wp2;go_ret;exact⟨by first|rfl|(rw[hv];rfl),HB2.out.trans (HB.out.mono HB2.out.size)⟩
      · gi_wp2;go_roundw
        case rel=>exact⟨k+1,by omega,by go_num,⟨0,rfl,Lib.hid (by rw[if_neg (by omega)])⟩,HB.out,fun j hj hjk=>by
          rcases Nat.lt_succ_iff_lt_or_eq.1 hjk with h|rfl
          · exact HZ.out j hj h
          · exact h2⟩
        case measure=>simp[intOf];omega
    · obtain rfl:k=L.length:=by omega
      have HB:=Lib.hid hb;clear hb;have hno:∀ e∈L,e.sure≠2:=fun e he=>by obtain⟨j,hj,rfl⟩:=List.mem_iff_getElem.1 he;exact HZ.out j hj hj
      have hv:q=mz:=by
        rw[hq.out];by_cases hL:L.length=0
        · rw[if_pos hL,H1.out (List.length_eq_zero_iff.1 hL)]
        · rw[if_neg hL,H0.out (fun e=>hL (by rw[e];rfl)) hno]
      have HV:=Lib.hid hv;clear hv;gi_wp2;go_ret;exact⟨by first|rfl|(rw[HV.out];rfl)|(rw[←HV.out];rfl),HB2.out.trans (HB.out.mono HB2.out.size)⟩
end
section
open Go.RowKit
theorem ListAt.grownB{w w':World}{base b m:Nat}{u v:Value}{x:List Nat}{vs:List Value}(h:ListAt w base u x)(hv:w.ownsRow b 27 1 v m vs)(hg:w.grownBy w' v.ownBlock):ListAt w' base u x:=
 h.kept fun g e=>hg.block g (h.lt e) fun e'=>yKb hv h g e e'.symm
theorem zS.get{w:World}{b1 b2:Nat}{LA:Option Addr}{lc:Nat}{M:List (List Nat)}(h:zS w b1 b2 (.slice LA M.length lc) M){k:Nat}(hk:k<M.length) :
  ∃ b o LX kx,LA=some ⟨b,o,none⟩∧w.cell? ⟨b,o+k,none⟩=some (.slice LX (M.getD k []).length kx)∧(M.getD k []).length≤kx∧zca w LX (M.getD k []).length (fun j=>(((M.getD k []).getD j 0:Nat):Int))∧ListAt w b2 (.slice LX (M.getD k []).length kx) (M.getD k []):=by
 obtain⟨vs,h1,h2⟩:=h;have hl:vs.length=M.length:=by have:=h1.1;omega
 rcases id h1.2 with⟨e,h0⟩|⟨g,cap,cur,e,_⟩
 ·rw[Value.slice.injEq] at e;omega
 ·cases e;obtain⟨LX,kx,e,q1,q2⟩:=(h2 k hk).shape;have e2:=h2 k hk;rw[e] at e2;refine⟨g,0,LX,kx,rfl,?_,q1,q2,e2⟩;have hv:k<vs.length:=by omega
  rw[Nat.zero_add,h1.cellAt k (by omega),←e,List.getD_eq_getElem?_getD,List.getElem?_eq_getElem hv];rfl
def yea(b:Nat)(L:List (List Nat))(W:World)(e:Ending)(w':World):Prop:=∃ v,e=.returned v∧zS w' W.heap.size b v L∧Below W.heap.size W w'
theorem yxa (rs rl rw:Int) (mm:Nat) (A:Option Addr) (n c:Nat) (sh:Nat→Shaft) (LA:Option Addr) (lc:Nat) (l0:List Nat) (W:World) (hc:n≤c) (hst:Hid (zxa rs rl rw mm n sh)) (hsh:Hid (zA W A n sh)) (hl9:l0.length≤9) (hlc:l0.length≤lc) (hlt0:Hid (∀ a,a∈l0→a<n)) (hi0:Hid (zca W LA l0.length fun k=>((l0.getD k 0:Nat):Int))) :
    CallsIn Fc 0 Tryz.prog 69 #[zga rs rl rw mm A n c,.slice LA l0.length lc] W (yea W.heap.size (yc rs rl rw sh mm l0) W):=by
  obtain⟨i0,hj0,hz0,hz1,hz2⟩:=info_parts it27;have HI0:=Lib.hid hj0;have HZ0:=Lib.hid hz0;have HZ1:=Lib.hid hz1;have HZ2:=Lib.hid hz2;clear hj0 hz0 hz1 hz2;have hn:=hst.out.count;obtain⟨C,hC⟩:∃ C,chs l0=C:=⟨_,rfl⟩;have hC512:C.length≤512:=by rw[←hC,chs_len];exact ymc (by omega)
  have hCx:∀ i,i<C.length→(C.getD i []).length≤9∧∀ a,a∈C.getD i []→a<n:=fun i h=>by rw[←hC] at h ⊢;have hs:=yQc h;exact⟨Nat.le_trans hs.length_le hl9,fun a ha=>hlt0.out a (hs.subset ha)⟩
  have hres:yc rs rl rw sh mm l0=C.filter (isSet rs rl rw sh mm):=by rw[←hC];rfl
  rw[hres];have HCX:=Lib.hid hCx;have hcho:=fun w (hb:Below W.heap.size W w)=>Choices_any l0.length l0 rfl (by omega) LA lc w hlc (hi0.out.below hb)
  rw[hC] at hcho;have HCHO:=Lib.hid hcho;clear hcho hres hC hCx;gi_enter Tryz.func69,Tryz.ntmps69;obtain⟨W1,hW1⟩:∃ w,w=W.alloc (.cells #[.int .i64 rs,.int .i64 rl,.int .i64 rw,.int .i64 mm,.slice A n c] 26):=⟨_,rfl⟩;have hb1:Below W.heap.size W W1:=by rw[hW1];exact(Below.refl _ _).alloc (Nat.le_refl _) _
  have c0:W1.cell? ⟨W.heap.size,0,none⟩=some (.int .i64 rs):=by rw[hW1];go_simp
  have c1:W1.cell? ⟨W.heap.size,1,none⟩=some (.int .i64 rl):=by rw[hW1];go_simp
  have c2:W1.cell? ⟨W.heap.size,2,none⟩=some (.int .i64 rw):=by rw[hW1];go_simp
  have c3:W1.cell? ⟨W.heap.size,3,none⟩=some (.int .i64 mm):=by rw[hW1];go_simp
  have c4:W1.cell? ⟨W.heap.size,4,none⟩=some (.slice A n c):=by rw[hW1];go_simp
  have HB1:=Lib.hid hb1;have C0:=Lib.hid c0;have C1:=Lib.hid c1;have C2:=Lib.hid c2;have C3:=Lib.hid c3;have C4:=Lib.hid c4;have HW1:=Lib.hid hW1;clear c0 c1 c2 c3 c4 hb1 hW1
  gi_wp2_with (gi_at_call 113;rw[←HW1.out];refine(HCHO.out W1 HB1.out).mono ?_;rintro e w2 ⟨v2,rfl,hl2,hb2⟩;have HL2:=Lib.hid hl2;have HB12:=Lib.hid hb2;clear hl2 hb2)
  obtain⟨LC,cc,rfl,hcc,hrd⟩:=HL2.out.read;have HB2:=Lib.hid (HB1.out.trans (HB12.out.mono HB1.out.size));have E0:=Lib.hid (Below.old HB12.out C0.out);have E1:=Lib.hid (Below.old HB12.out C1.out);have E2:=Lib.hid (Below.old HB12.out C2.out);have E3:=Lib.hid (Below.old HB12.out C3.out);have E4:=Lib.hid (Below.old HB12.out C4.out);clear hrd C0 C1 C2 C3 C4 HCHO
  gi_loopw [5,7] (fun v y wr=>∃ i:Nat,i≤C.length∧y=.int .i64 i∧zS wr w2.heap.size W1.heap.size v ((C.take i).filter (isSet rs rl rw sh mm))∧Below w2.heap.size w2 wr) (fun _ y _=>C.length-(intOf y).toNat)
  case atStart=>exact⟨0,by omega,rfl,zS.nil _ _ _,Below.refl _ _⟩
  case round=>
    obtain⟨i,hi,rfl,hlp,hbw⟩:=hrel;have HLP:=Lib.hid hlp;have HBW:=Lib.hid hbw;clear hlp hbw;by_cases hlt:i<C.length
    · obtain⟨b1,o1,LX,kx,rfl,q1,hkx,hix,hux⟩:=HL2.out.get hlt;obtain⟨x,hx⟩:∃ x,C.getD i []=x:=⟨_,rfl⟩;have hcx:=HCX.out i hlt;rw[hx] at q1 hkx hix hcx hux;obtain⟨l,hl⟩:∃ l,x.length=l:=⟨_,rfl⟩;rw[hl] at q1 hkx hix hux;have hlen:((C.take i).filter (isSet rs rl rw sh mm)).length≤512:=Nat.le_trans (List.length_filter_le _ _) (by simp;omega);obtain⟨F,hF⟩:∃ F,(C.take i).filter (isSet rs rl rw sh mm)=F:=⟨_,rfl⟩;have hnext:(C.take (i+1)).filter (isSet rs rl rw sh mm)=F++if isSet rs rl rw sh mm x=true then[x] else[]:=by rw[yGb hlt,List.filter_append,hF,hx];cases h:isSet rs rl rw sh mm x<;>simp[h]
      rw[hF] at HLP hlen;have HUX:=Lib.hid hux;have HX9:=hcx.1;have hltI:(i:Int)<(C.length:Int):=by omega
      have h999:i<999:=by omega
      have Q1:=Lib.hid (Below.old HBW.out q1);obtain⟨mz,hmz⟩:∃ mz,zoc rs rl rw sh (fun k=>x.getD k 0) l=mz:=⟨_,rfl⟩;have hmat:=fun w (hb:Below w2.heap.size w2 w)=>refMatch_any rs rl rw mm A n c sh LX l kx (fun k=>x.getD k 0) w hc hst (Lib.hid (hsh.out.below (HB2.out.trans (hb.mono HB2.out.size)))) (by omega) hkx (Lib.hid fun k hk=>hcx.2 _ (yp (by omega))) (Lib.hid (hix.below hb))
      rw[hmz] at hmat;have HMAT:=Lib.hid hmat;have HMZ:=Lib.hid hmz;have HLEN:=Lib.hid hl;clear q1 hix hcx hux hF hmat hmz hx;by_cases hlm:l=mm
      · obtain rfl:mm=l:=hlm.symm;by_cases hm:mz=1
        · subst hm;have hset:isSet rs rl rw sh mm x=true:=by unfold isSet;rw[decide_eq_true HLEN.out,HLEN.out,decide_eq_true HMZ.out];rfl
          rw[if_pos hset] at hnext;have HNO:=Lib.hid hnext;clear hnext hset hl hlm;gi_wp2;refine zL (D:=[(16,.slice (some ⟨b1,o1,none⟩) C.length cc),(17,.int .i64 i),(18,.pointer (some ⟨b1,o1+i,none⟩)),(19,.slice LX mm kx),(20,.int .i64 mm),(21,.pointer (some ⟨W.heap.size,0,none⟩)),(22,.pointer (some ⟨W.heap.size,3,none⟩)),(23,.int .i64 mm),(24,.bool true),(25,.bool true),(26,zga rs rl rw mm A n c),(27,.slice (some ⟨b1,o1,none⟩) C.length cc),(28,.int .i64 i),(29,.pointer (some ⟨b1,o1+i,none⟩)),(30,.slice LX mm kx),(31,.int .i64 1),(32,.bool true),(33,.bool true)])
            (I:=fun w=>Below wr.heap.size wr w) (z:=42) (by kernel_rfl) (by kernel_rfl) (by kernel_rfl) (by kernel_rfl) (by kernel_rfl) rfl rfl (Below.refl _ _).drew ?_ ?_
          · intro j a w hj hd hz hold hf hI;have HI:=Lib.hid hI;have d0:=Below.old HBW.out E0.out;have d1:=Below.old HBW.out E1.out;have d2:=Below.old HBW.out E2.out;have d3:=Below.old HBW.out E3.out;have d4:=Below.old HBW.out E4.out;have d0:=Below.old hI d0;have d1:=Below.old hI d1;have d2:=Below.old hI d2;have d3:=Below.old hI d3;have d4:=Below.old hI d4;have a1:=Below.old hI Q1.out;clear hI;have s2:=zc hz (hold 2 (by kernel_rfl)) (by omega);have s6:=zc hz (hold 6 (by kernel_rfl)) (by omega);have s7:=zc hz (hold 7 (by kernel_rfl)) (by omega);clear hold;have hjs:j=0∨j=1∨j=2∨j=3∨j=4∨j=5∨j=6∨j=7∨j=8∨j=9∨j=10∨j=11∨j=12∨j=13∨j=14∨j=15∨j=16∨j=17:=by have:j<18:=hj;omega
            rcases hjs with rfl|rfl|rfl|rfl|rfl|rfl|rfl|rfl|rfl|rfl|rfl|rfl|rfl|rfl|rfl|rfl|rfl|rfl
            all_goals
              try have f16:=zc hz (hf 0 16 _ rfl rfl) (by omega)
              try have f17:=zc hz (hf 1 17 _ rfl rfl) (by omega)
              try have f18:=zc hz (hf 2 18 _ rfl rfl) (by omega)
              try have f19:=zc hz (hf 3 19 _ rfl rfl) (by omega)
              try have f21:=zc hz (hf 5 21 _ rfl rfl) (by omega)
              try have f22:=zc hz (hf 6 22 _ rfl rfl) (by omega)
              try have f20:=zc hz (hf 4 20 _ rfl rfl) (by omega)
              try have f23:=zc hz (hf 7 23 _ rfl rfl) (by omega)
              try have f24:=zc hz (hf 8 24 _ rfl rfl) (by omega)
              try have f25:=zc hz (hf 9 25 _ rfl rfl) (by omega)
              try have f27:=zc hz (hf 11 27 _ rfl rfl) (by omega)
              try have f28:=zc hz (hf 12 28 _ rfl rfl) (by omega)
              try have f29:=zc hz (hf 13 29 _ rfl rfl) (by omega)
              try have f26:=zc hz (hf 10 26 _ rfl rfl) (by omega)
              try have f30:=zc hz (hf 14 30 _ rfl rfl) (by omega)
              try have f31:=zc hz (hf 15 31 _ rfl rfl) (by omega)
              try have f32:=zc hz (hf 16 32 _ rfl rfl) (by omega)
              refine wpOpIn_step rfl fun K hK=>?_
              go_simp
              first
                |first|exact hK _ _ ⟨_,_,rfl,rfl,rfl,HI.out⟩|exact hK _ _ ⟨_,_,rfl,hd,rfl,HI.out⟩
                |(refine(HMAT.out w (HBW.out.trans (HI.out.mono HBW.out.size))).mono ?_;rintro e w' ⟨rfl,hb'⟩;exact hK _ _ ⟨_,_,rfl,rfl,rfl,(HI.out.trans (hb'.mono HI.out.size))⟩)
          intro w6 hI;have HB6:=Lib.hid (HBW.out.trans (hI.mono HBW.out.size));have HLP6:=Lib.hid (HLP.out.below hI);have q6:=Below.old hI Q1.out;have HUX6:=Lib.hid (HUX.out.below (HBW.out.trans (hI.mono HBW.out.size)));clear hI;simp only[List.foldl_cons,List.foldl_nil,List.setIfInBounds_toArray,List.set_cons_succ,List.set_cons_zero];obtain⟨vs,hown,hel⟩:=id HLP6.out;have hvs:vs.length=F.length:=by have:=hown.1;omega
          have hown2:∀ X,(w6.alloc X).ownsRow w2.heap.size 27 1 u5 F.length vs:=fun X=>zu hown ((Below.refl _ _).alloc (Nat.le_refl _) X)
          have HOWN:=Lib.hid hown2;have HEL:=Lib.hid hel;have HVS:=Lib.hid hvs;clear hown hown2 hel hvs
          gi_wp2_with
            (gi_at_builtin
             refine wpListIn_append_own _ rfl _ _ 40 rfl w2.heap.size 27 i0 (.slice none 0 0) 1 24 ut40 HI0.out HZ0.out HZ1.out HZ2.out rfl (by decide) u5 F.length vs rfl (HOWN.out _) ⟨_,0,none⟩ 1 1 [.slice LX mm kx] rfl rfl (yw _ _ _) (by intro u hu;rcases List.mem_singleton.1 hu with rfl;rfl) (by simp[maxLen];omega) (by omega) (by have:=HB6.out.size;simp;omega) ?_;intro v' w7 hown4 hg4 hnil4;have HO:=Lib.hid hown4;have HG:=Lib.hid hg4;clear hg4 hnil4 hown4)
          have hba:∀ X,Below w6.heap.size w6 (w6.alloc X):=fun X=>(Below.refl _ _).alloc (Nat.le_refl _) X
          refine⟨⟨i+1,by omega,by first|rfl|trivial,?_,(HB6.out.alloc HB6.out.size _).grown HG.out (by have:=HB6.out.size;simp;omega) fun g hg=>(zfb (HOWN.out (.cells #[.slice LX mm kx] 27)) hg).1⟩,by simp[intOf];omega⟩;rw[HNO.out];exact zS.more HVS.out HO.out (fun k hk=>((HEL.out k hk).below (hba _)).grownB (HOWN.out _) HG.out) ((HUX6.out.below (hba _)).grownB (HOWN.out _) HG.out)
        · have hmI:(mz==1)=false:=beq_eq_false_iff_ne.2 hm;have hset:isSet rs rl rw sh mm x=false:=by unfold isSet;rw[HLEN.out,HMZ.out,decide_eq_false hm,Bool.and_false]
          rw[if_neg (by rw[hset];decide),List.append_nil] at hnext;have HNO:=Lib.hid hnext;clear hnext hset hl hm hlm;gi_wp2;refine zL (D:=[(16,.slice (some ⟨b1,o1,none⟩) C.length cc),(17,.int .i64 i),(18,.pointer (some ⟨b1,o1+i,none⟩)),(19,.slice LX mm kx),(20,.int .i64 mm),(21,.pointer (some ⟨W.heap.size,0,none⟩)),(22,.pointer (some ⟨W.heap.size,3,none⟩)),(23,.int .i64 mm),(24,.bool true),(25,.bool true),(26,zga rs rl rw mm A n c),(27,.slice (some ⟨b1,o1,none⟩) C.length cc),(28,.int .i64 i),(29,.pointer (some ⟨b1,o1+i,none⟩)),(30,.slice LX mm kx),(31,.int .i64 mz),(32,.bool false),(33,.bool false)])
            (I:=fun w=>Below wr.heap.size wr w) (z:=42) (by kernel_rfl) (by kernel_rfl) (by kernel_rfl) (by kernel_rfl) (by kernel_rfl) rfl rfl (Below.refl _ _).drew ?_ ?_
          · intro j a w hj hd hz hold hf hI;have HI:=Lib.hid hI;have d0:=Below.old HBW.out E0.out;have d1:=Below.old HBW.out E1.out;have d2:=Below.old HBW.out E2.out;have d3:=Below.old HBW.out E3.out;have d4:=Below.old HBW.out E4.out;have d0:=Below.old hI d0;have d1:=Below.old hI d1;have d2:=Below.old hI d2;have d3:=Below.old hI d3;have d4:=Below.old hI d4;have a1:=Below.old hI Q1.out;clear hI;have s2:=zc hz (hold 2 (by kernel_rfl)) (by omega);have s6:=zc hz (hold 6 (by kernel_rfl)) (by omega);have s7:=zc hz (hold 7 (by kernel_rfl)) (by omega);clear hold;have hjs:j=0∨j=1∨j=2∨j=3∨j=4∨j=5∨j=6∨j=7∨j=8∨j=9∨j=10∨j=11∨j=12∨j=13∨j=14∨j=15∨j=16∨j=17:=by have:j<18:=hj;omega
            rcases hjs with rfl|rfl|rfl|rfl|rfl|rfl|rfl|rfl|rfl|rfl|rfl|rfl|rfl|rfl|rfl|rfl|rfl|rfl
            all_goals
              try have f16:=zc hz (hf 0 16 _ rfl rfl) (by omega)
              try have f17:=zc hz (hf 1 17 _ rfl rfl) (by omega)
              try have f18:=zc hz (hf 2 18 _ rfl rfl) (by omega)
              try have f19:=zc hz (hf 3 19 _ rfl rfl) (by omega)
              try have f21:=zc hz (hf 5 21 _ rfl rfl) (by omega)
              try have f22:=zc hz (hf 6 22 _ rfl rfl) (by omega)
              try have f20:=zc hz (hf 4 20 _ rfl rfl) (by omega)
              try have f23:=zc hz (hf 7 23 _ rfl rfl) (by omega)
              try have f24:=zc hz (hf 8 24 _ rfl rfl) (by omega)
              try have f25:=zc hz (hf 9 25 _ rfl rfl) (by omega)
              try have f27:=zc hz (hf 11 27 _ rfl rfl) (by omega)
              try have f28:=zc hz (hf 12 28 _ rfl rfl) (by omega)
              try have f29:=zc hz (hf 13 29 _ rfl rfl) (by omega)
              try have f26:=zc hz (hf 10 26 _ rfl rfl) (by omega)
              try have f30:=zc hz (hf 14 30 _ rfl rfl) (by omega)
              try have f31:=zc hz (hf 15 31 _ rfl rfl) (by omega)
              try have f32:=zc hz (hf 16 32 _ rfl rfl) (by omega)
              refine wpOpIn_step rfl fun K hK=>?_
              go_simp
              first
                |first|exact hK _ _ ⟨_,_,rfl,rfl,rfl,HI.out⟩|exact hK _ _ ⟨_,_,rfl,hd,rfl,HI.out⟩
                |(refine(HMAT.out w (HBW.out.trans (HI.out.mono HBW.out.size))).mono ?_;rintro e w' ⟨rfl,hb'⟩;exact hK _ _ ⟨_,_,rfl,rfl,rfl,(HI.out.trans (hb'.mono HI.out.size))⟩)
          intro w6 hI;have HB6:=Lib.hid (HBW.out.trans (hI.mono HBW.out.size));have HLP6:=Lib.hid (HLP.out.below hI);clear hI;simp only[List.foldl_cons,List.foldl_nil,List.setIfInBounds_toArray,List.set_cons_succ,List.set_cons_zero];gi_wp2;refine⟨⟨i+1,by omega,by first|rfl|trivial,by rw[HNO.out];exact HLP6.out,HB6.out⟩,by simp[intOf];omega⟩
      · have hlI:((l:Int)==(mm:Int))=false:=beq_eq_false_iff_ne.2 (by omega);have hset:isSet rs rl rw sh mm x=false:=by unfold isSet;rw[HLEN.out,decide_eq_false hlm,Bool.false_and]
        rw[if_neg (by rw[hset];decide),List.append_nil] at hnext;have HNO:=Lib.hid hnext;clear hnext hset hl hlm;gi_wp2;refine zL (D:=[(16,.slice (some ⟨b1,o1,none⟩) C.length cc),(17,.int .i64 i),(18,.pointer (some ⟨b1,o1+i,none⟩)),(19,.slice LX l kx),(20,.int .i64 l),(21,.pointer (some ⟨W.heap.size,0,none⟩)),(22,.pointer (some ⟨W.heap.size,3,none⟩)),(23,.int .i64 mm),(24,.bool false),(25,.bool false),(26,undef),(27,undef),(28,undef),(29,undef),(30,undef),(31,undef),(32,undef),(33,.bool false)])
          (I:=fun w=>Below wr.heap.size wr w) (z:=42) (by kernel_rfl) (by kernel_rfl) (by kernel_rfl) (by kernel_rfl) (by kernel_rfl) rfl rfl (Below.refl _ _).drew ?_ ?_
        · intro j a w hj hd hz hold hf hI;have HI:=Lib.hid hI;have d0:=Below.old HBW.out E0.out;have d1:=Below.old HBW.out E1.out;have d2:=Below.old HBW.out E2.out;have d3:=Below.old HBW.out E3.out;have d4:=Below.old HBW.out E4.out;have d0:=Below.old hI d0;have d1:=Below.old hI d1;have d2:=Below.old hI d2;have d3:=Below.old hI d3;have d4:=Below.old hI d4;have a1:=Below.old hI Q1.out;clear hI;have s2:=zc hz (hold 2 (by kernel_rfl)) (by omega);have s6:=zc hz (hold 6 (by kernel_rfl)) (by omega);have s7:=zc hz (hold 7 (by kernel_rfl)) (by omega);clear hold;have hjs:j=0∨j=1∨j=2∨j=3∨j=4∨j=5∨j=6∨j=7∨j=8∨j=9∨j=10∨j=11∨j=12∨j=13∨j=14∨j=15∨j=16∨j=17:=by have:j<18:=hj;omega
          rcases hjs with rfl|rfl|rfl|rfl|rfl|rfl|rfl|rfl|rfl|rfl|rfl|rfl|rfl|rfl|rfl|rfl|rfl|rfl
          all_goals
            try have f16:=zc hz (hf 0 16 _ rfl rfl) (by omega)
            try have f17:=zc hz (hf 1 17 _ rfl rfl) (by omega)
            try have f18:=zc hz (hf 2 18 _ rfl rfl) (by omega)
            try have f19:=zc hz (hf 3 19 _ rfl rfl) (by omega)
            try have f21:=zc hz (hf 5 21 _ rfl rfl) (by omega)
            try have f22:=zc hz (hf 6 22 _ rfl rfl) (by omega)
            try have f20:=zc hz (hf 4 20 _ rfl rfl) (by omega)
            try have f23:=zc hz (hf 7 23 _ rfl rfl) (by omega)
            try have f24:=zc hz (hf 8 24 _ rfl rfl) (by omega)
            try have f25:=zc hz (hf 9 25 _ rfl rfl) (by omega)
            try have f32:=zc hz (hf 16 32 _ rfl rfl) (by omega)
            refine wpOpIn_step rfl fun K hK=>?_
            go_simp
            first|exact hK _ _ ⟨_,_,rfl,rfl,rfl,HI.out⟩|exact hK _ _ ⟨_,_,rfl,hd,rfl,HI.out⟩
        intro w6 hI;have HB6:=Lib.hid (HBW.out.trans (hI.mono HBW.out.size));have HLP6:=Lib.hid (HLP.out.below hI);clear hI;simp only[List.foldl_cons,List.foldl_nil,List.setIfInBounds_toArray,List.set_cons_succ,List.set_cons_zero];gi_wp2;refine⟨⟨i+1,by omega,by first|rfl|trivial,by rw[HNO.out];exact HLP6.out,HB6.out⟩,by simp[intOf];omega⟩
    · obtain rfl:i=C.length:=by omega
      have hltI:¬(C.length:Int)<(C.length:Int):=by omega
      have hlp:=HLP.out;rw[List.take_length] at hlp;have HLPE:=Lib.hid hlp;clear hlp HLP;gi_wp2;go_ret;exact⟨_,rfl,HLPE.out.mono (HB2.out.size) (HB1.out.size),HB2.out.trans (HBW.out.mono HB2.out.size)⟩
end
section
open Go.RowKit
theorem own_empty{w:World}{z:Nat}(hz:z≤w.heap.size):(w.alloc (.cells #[] 3)).ownsRow z 3 1 (.slice (some ⟨w.heap.size,0,none⟩) 0 0) 0 []:=
 ⟨rfl,.inr ⟨w.heap.size,0,_,rfl,hz,heap_alloc_new _ _,by omega,by simp[maxLen],by simp,by simp⟩⟩
theorem yW{T:List Nat}{n:Nat}(h:T.Nodup)(hn:∀ a,a∈T→a<n):T.length≤n:=by
 have hp:((List.range n).filter fun s=>decide (s∈T)).Perm T:=by
  refine(List.perm_ext_iff_of_nodup (List.Nodup.sublist List.filter_sublist List.nodup_range) h).2 fun a=>?_
  rw[List.mem_filter,List.mem_range];simp only[decide_eq_true_eq];exact⟨fun h=>h.2,fun h=>⟨hn a h,h⟩⟩
 rw[←hp.length_eq];exact Nat.le_trans (List.length_filter_le _ _) (by simp)
theorem yHa:∀(L:List (List Nat)) (T:List Nat) (B:List (List Nat)) (N:Nat),L.length≤N→B.length≤N→(refL L T B).length≤N
 | [],T,B,N,_,h=>h
 |x::L,T,B,N,hL,hB=>by
  rw[refL];have h1:=yHa L (T++x) [] L.length (Nat.le_refl _) (by simp);split
  ·exact yHa L T B N (by simp at hL;omega) hB
  ·refine yHa L T _ N (by simp at hL;omega) ?_;split
   ·simp at hL ⊢;omega
   ·exact hB
theorem run_rows{w:World}{z z2:Nat}{v u:Value}{k m:Nat}{xs ys:List Value}{i0:TypeInfo}(hi:Tryz.prog.info? 27=some i0)(h0:i0.zero=some (.slice none 0 0))(h1:i0.size=1)(h2:i0.bytes=24)(hv:w.ownsRow z 27 1 v k xs)(hu:w.ownsRow z2 27 1 u m ys)(hone:∀ u∈ys,u.oneCell'=true)(hk:k+m≤9999)(hz:z≤w.heap.size) :
  ∃ v' w',(Builtin.append_ #[40,40] 40 #[v,u]).run Tryz.prog w=.ok v' w'∧w'.ownsRow z 27 1 v' (k+m) (xs++ys)∧w.grownBy w' v.ownBlock:=by
 rcases hu.2 with⟨rfl,rfl⟩|⟨g,cap,cur,rfl,_,_,_⟩
 ·have hn:ys=[]:=List.eq_nil_of_length_eq_zero (by simpa using hu.1);subst hn;exact⟨v,w,run_append_owned_none w z 40 40 27 i0 1 ut40 hi v k xs hv,by simpa using hv,⟨rfl,rfl,rfl,Nat.le_refl _,fun _ _ _=>rfl⟩⟩
 ·obtain⟨v',w',q1,q2,q3,_,q5⟩:=run_append_own_at (P:=Tryz.prog) w z 40 40 27 i0 (.slice none 0 0) 1 24 ut40 hi h0 h1 h2 rfl (by decide) v k xs hv ⟨g,0,none⟩ m cap ys hu.1 (fun j u hj=>by have hlt:j<ys.length:=(List.getElem?_eq_some_iff.1 hj).1;rw[addr_add,Nat.zero_add,hu.cellAt j (by rw[←hu.1];exact hlt),hj]) hone (by simp[maxLen];omega) (by omega) hz;exact⟨v',w',q1,q2,q3⟩
theorem lists_one{w:World}{b1 b2:Nat}{v:Value}{M:List (List Nat)}{vs:List Value}(h:w.ownsRow b1 27 1 v M.length vs)(h2:∀ k,k<M.length→ListAt w b2 (vs.getD k undef) (M.getD k [])):∀ u∈vs,u.oneCell'=true:=fun u hu=>by obtain⟨k,hk,rfl⟩:=List.mem_iff_getElem.1 hu;have hl:=h.1;obtain⟨LX,kx,e,_⟩:=(h2 k (by omega)).shape;rw[yzb hk] at e;rw[e];rfl
theorem zS.cons{w:World}{b1 b2:Nat}{v u:Value}{x:List Nat}{M:List (List Nat)}{vs:List Value}(h1:w.ownsRow b1 27 1 v (1+M.length) ([u]++vs))(hu:ListAt w b2 u x)(h2:∀ k,k<M.length→ListAt w b2 (vs.getD k undef) (M.getD k [])):zS w b1 b2 v (x::M):=by
 refine⟨u::vs,by rw[List.length_cons,Nat.add_comm];exact h1,fun k hk=>?_⟩;cases k with
 |zero=>exact hu
 |succ k=>exact h2 k (by simpa using hk)
theorem refShare_step(b0 bT b2:Nat)(LM:Option Addr)(cm:Nat)(M:List (List Nat))(sv:Value)(T:List Nat)(from_:Nat)(W:World)(h600:M.length≤600)(hb0:b0≤W.heap.size)(hM:Hid (∀ x,x∈M→x.Nodup∧x≠[]∧∀ a,a∈x→a<9))(hfr:from_≤M.length)(hT:Hid (T.Nodup∧∀ a,a∈T→a<9))(hls:Hid (zS W b2 b0 (.slice LM M.length cm) M))(htl:Hid (ListAt W bT sv T))
    (hIH:Hid (∀(j:Nat) (T':List Nat) (v':Value) (bT':Nat) (w':World),from_≤j→j<M.length→T'.Nodup∧(∀ a,a∈T'→a<9)→Below W.heap.size W w'→ListAt w' bT' v' T'→CallsIn Fc 0 Tryz.prog 74 #[.slice LM M.length cm,.int .i64 ((j:Int)+1),v'] w' (yea b0 (refL (M.drop (j+1)) T' []) w'))) :
    CallsIn Fc 0 Tryz.prog 74 #[.slice LM M.length cm,.int .i64 from_,sv] W (yea b0 (refL (M.drop from_) T []) W):=by
  obtain⟨i0,hj0,hz0,hz1,hz2⟩:=info_parts it3;have HI0:=Lib.hid hj0;have HZ0:=Lib.hid hz0;have HZ1:=Lib.hid hz1;have HZ2:=Lib.hid hz2;obtain⟨j0,hj0,hy0,hy1,hy2⟩:=info_parts it27;have HJ0:=Lib.hid hj0;have HY0:=Lib.hid hy0;have HY1:=Lib.hid hy1;have HY2:=Lib.hid hy2;obtain⟨RES,hRES⟩:∃ R,refL (M.drop from_) T []=R:=⟨_,rfl⟩;rw[hRES];have hT9:T.length≤9:=yW hT.out.1 hT.out.2;obtain⟨LT,lt,rfl,hlt9,hit⟩:=htl.out.shape;obtain⟨sv,hsv⟩:∃ sv,sv=Value.slice LT T.length lt:=⟨_,rfl⟩;have HTW:Hid (ListAt W bT sv T):=by rw[hsv];exact htl
  have HSV:=Lib.hid hsv;have HIT:=Lib.hid hit;have HRES:=Lib.hid hRES;clear hj0 hz0 hz1 hz2 hy0 hy1 hy2 hit hRES htl hsv;gi_enter Tryz.func74,Tryz.ntmps74;gi_wp2
  gi_loopw [7,8,9] (fun v y _ wr=>∃(i:Nat) (B:List (List Nat)),from_≤i∧i≤M.length∧y=.int .i64 i∧zS wr W.heap.size b0 v B∧B.length≤M.length∧refL (M.drop i) T B=RES∧Below W.heap.size W wr) (fun _ y _ _=>M.length-(intOf y).toNat)
  case atStart=>exact⟨from_,[],Nat.le_refl _,hfr,rfl,zS.nil _ _ _,by simp,HRES.out,Below.refl _ _⟩
  case round=>
    obtain⟨i,B,hfi,hi,rfl,hlp,hBM,hrf,hbw⟩:=hrel;have HLP:=Lib.hid hlp;have HBW:=Lib.hid hbw;have HRF:=Lib.hid hrf;clear hlp hbw hrf HRES;by_cases hlt:i<M.length
    · obtain⟨b1,o1,LX,kx,rfl,q1,hkx,hix,hux⟩:=hls.out.get hlt;obtain⟨x,hx⟩:∃ x,M.getD i []=x:=⟨_,rfl⟩;have hxm:M.getD i []∈M:=yp hlt;have hdr:M.drop i=M.getD i []::M.drop (i+1):=ywc hlt;have hrf:=HRF.out;rw[hdr] at hrf;rw[hx] at q1 hkx hix hux hxm hrf;rw[refL] at hrf;obtain⟨x1,x2,x3⟩:=hM.out x hxm;have hx9:x.length≤9:=yW x1 x3;obtain⟨l,hl⟩:∃ l,x.length=l:=⟨_,rfl⟩;rw[hl] at q1 hkx hix hux hx9;have hcom:=refCommon_any LX LT l kx T.length lt x T wr hl rfl hx9 hT9 hkx hlt9 (Lib.hid (hix.below HBW.out)) (Lib.hid (HIT.out.below HBW.out));obtain⟨has,hhas⟩:∃ b,decide (∃ a,a∈x∧a∈T)=b:=⟨_,rfl⟩;rw[hhas] at hcom;have HCOM:=Lib.hid hcom;have HHAS:=Lib.hid hhas;have HRFN:=Lib.hid hrf;have HUX:=Lib.hid hux;have HLEN:=Lib.hid hl;have Q1:=Lib.hid (Below.old HBW.out q1)
      have a1:=Q1.out;have hltI:(i:Int)<(M.length:Int):=by omega
      have h999:i<999:=by omega
      have hXN:=Lib.hid (And.intro x1 x3);clear hcom hhas hrf hux hl q1 hix hxm hdr x1 x2 x3 hx HRF;cases has with
      |true=>
        have hyes:=of_decide_eq_true HHAS.out;have HYES:=Lib.hid hyes;clear hyes
        gi_wp2_with (gi_at_call 122;refine HCOM.out.mono ?_;rintro e w7 ⟨rfl,rfl⟩)
        go_roundw
        case rel=>refine⟨i+1,B,by omega,by omega,by go_num,HLP.out,hBM,?_,HBW.out⟩;have h:=HRFN.out;rw[if_pos HYES.out] at h;exact h
        case measure=>simp[intOf];omega
      |false=>
        have hnot:=of_decide_eq_false HHAS.out;have hrf:=HRFN.out;rw[if_neg hnot] at hrf;have hT':(T++x).Nodup∧∀ a,a∈T++x→a<9:=by
          refine⟨List.nodup_append.2 ⟨hT.out.1,hXN.out.1,fun a ha b hb e=>hnot ⟨b,hb,e▸ha⟩⟩,fun a ha=>?_⟩;rcases List.mem_append.1 ha with h|h
          · exact hT.out.2 a h
          · exact hXN.out.2 a h
        have hTx:T.length+l≤9:=by have:=yW hT'.1 hT'.2;rw[List.length_append,HLEN.out] at this;exact this
        obtain⟨C,hC⟩:∃ C,refL (M.drop (i+1)) (T++x) []=C:=⟨_,rfl⟩;have hC6:C.length+1≤M.length:=by rw[←hC];have:=yHa (M.drop (i+1)) (T++x) [] (M.length-(i+1)) (by simp) (by simp);omega
        have hrec:∀(v':Value) (bT':Nat) (w':World),Below W.heap.size W w'→ListAt w' bT' v' (T++x)→CallsIn Fc 0 Tryz.prog 74 #[.slice (some ⟨b1,o1,none⟩) M.length cm,.int .i64 ((i:Int)+1),v'] w' (yea b0 C w'):=fun v' bT' w' h1 h2=>by rw[←hC];exact hIH.out i (T++x) v' bT' w' hfi hlt hT' h1 h2
        have HREC:=Lib.hid hrec;rw[hC] at hrf;have HRFC:=Lib.hid hrf;clear hnot hrf hT' hC hrec HRFN HHAS;rw[←HSV.out]
        gi_wp2_with (gi_at_call 122;rw[HSV.out];refine HCOM.out.mono ?_;rintro e w7 ⟨rfl,rfl⟩;rw[←HSV.out])
        refine zsa (R:=[.val 23 (.slice (some ⟨b1,o1,none⟩) M.length cm),.val 24 (.int .i64 i),.val 25 (.int .i64 ((i:Int)+1)),.any 26,.val 27 (sv),.any 28,.val 29 (.slice (some ⟨b1,o1,none⟩) M.length cm),.val 30 (.int .i64 i),.val 31 (.pointer (some ⟨b1,o1+i,none⟩)),.val 32 (.slice LX l kx),.any 33,.any 34,.any 9])
          (I:=fun L V w=>Below wr.heap.size wr w∧(L 3=true→L 5=false→w.ownsRow wr.heap.size 3 1 (V 3) 0 [])∧(L 5=true→L 10=false→ListAt w wr.heap.size (V 5) T)∧(L 10=true→L 11=false→ListAt w wr.heap.size (V 10) (T++x))∧(L 11=true→zS w wr.heap.size b0 (V 11) C)∧(L 12=true→V 12=V 11)) (z:=49) (by kernel_rfl) (by kernel_rfl) rfl (by kernel_rfl) rfl rfl ⟨(Below.refl _ _).drew,(fun h=>by cases h),(fun h=>by cases h),(fun h=>by cases h),(fun h=>by cases h),fun h=>by cases h⟩ ?_ ?_
        · intro j L V a w hj hno hdep hah hd hz hold hv hV hI;have HI:=Lib.hid hI;have a1:=Below.old HI.out.1 Q1.out;have s0:=zc hz (hold 0 (by kernel_rfl)) (by omega);have s2:=zc hz (hold 2 (by kernel_rfl)) (by omega);have s8:=zc hz (hold 8 (by kernel_rfl)) (by omega);clear hold;have hjs:j=0∨j=1∨j=2∨j=3∨j=4∨j=5∨j=6∨j=7∨j=8∨j=9∨j=10∨j=11∨j=12:=by have:j<13:=hj;omega
          rcases hjs with rfl|rfl|rfl|rfl|rfl|rfl|rfl|rfl|rfl|rfl|rfl|rfl|rfl
          all_goals try
            (try have f29:=zc hz (hv 6 29 _ rfl rfl) (by omega)
             try have f30:=zc hz (hv 7 30 _ rfl rfl) (by omega)
             try have f31:=zc hz (hv 8 31 _ rfl rfl) (by omega)
             clear hdep hah hv hV hno hI;refine wpOpIn_step rfl fun K hK=>?_
             go_simp;exact hK _ _ ⟨rfl,rfl,HI.out⟩)
          · have f24:=zc hz (hv 1 24 _ (by kernel_rfl) rfl) (by omega);have hwi:=yEc (n:=(i:Int)+1) (by omega) (by omega);clear hdep hah hv hV hno hI;refine wpOpIn_step rfl fun K hK=>?_
            go_simp;exact hK _ _ ⟨rfl,rfl,HI.out⟩
          · have h5:=hah 5 (by kernel_rfl) rfl;have h10:=hah 10 (by kernel_rfl) rfl;have h11:=hah 11 (by kernel_rfl) rfl;have h12:=hah 12 (by kernel_rfl) rfl;clear hdep hah hv hV hno hI;refine wpOpIn_step rfl fun K hK=>?_
            go_simp;exact hK _ _ ⟨rfl,_,rfl,HI.out.1.alloc HI.out.1.size _,(fun _ _=>own_empty HI.out.1.size),(fun h=>by rw[show updB L 3 5=L 5 from rfl,h5] at h;cases h),(fun h=>by rw[show updB L 3 10=L 10 from rfl,h10] at h;cases h),(fun h=>by rw[show updB L 3 11=L 11 from rfl,h11] at h;cases h),(fun h=>by rw[show updB L 3 12=L 12 from rfl,h12] at h;cases h)⟩
          · have k3:=hdep 3 (by kernel_rfl) rfl;have f26:=zc hz (hV 3 26 rfl) (by omega);have f27:=zc hz (hv 4 27 _ (by kernel_rfl) rfl) (by omega);have h5:=hno rfl;have h10:=hah 10 (by kernel_rfl) rfl;have h11:=hah 11 (by kernel_rfl) rfl;have h12:=hah 12 (by kernel_rfl) rfl;have ho:=HI.out.2.1 k3 h5;refine yd rfl rfl _ _ 27 rfl wr.heap.size 3 i0 (.int .i64 0) 1 8 ut27 HI0.out HZ0.out HZ1.out HZ2.out rfl (by decide) (V 3) 0 [] (hV 3 26 rfl) ho sv bT T.length (T.map intV) (hv 4 27 _ (by kernel_rfl) rfl) (HTW.out.below (HBW.out.trans (HI.out.1.mono HBW.out.size))) (by intro u hu;obtain⟨n,_,rfl⟩:=List.mem_map.1 hu;rfl) (by simp[maxLen];omega) (by omega) HI.out.1.size ?_;intro v' w' ho' hg' _
            exact⟨hd,_,rfl,HI.out.1.grown hg' HI.out.1.size (fun g hg=>(zfb ho hg).1),(fun _ h=>by cases h),(fun _ _=>(by show w'.ownsRow _ 3 1 v' T.length (T.map intV);simpa using ho')),(fun h=>by rw[show updB L 5 10=L 10 from rfl,h10] at h;cases h),(fun h=>by rw[show updB L 5 11=L 11 from rfl,h11] at h;cases h),(fun h=>by rw[show updB L 5 12=L 12 from rfl,h12] at h;cases h)⟩
          · have k5:=hdep 5 (by kernel_rfl) rfl;have f28:=zc hz (hV 5 28 rfl) (by omega);have f32:=zc hz (hv 9 32 _ (by kernel_rfl) rfl) (by omega);have h10:=hno rfl;have h11:=hah 11 (by kernel_rfl) rfl;have h12:=hah 12 (by kernel_rfl) rfl;have ho:=HI.out.2.2.1 k5 h10;refine yd rfl rfl _ _ 27 rfl wr.heap.size 3 i0 (.int .i64 0) 1 8 ut27 HI0.out HZ0.out HZ1.out HZ2.out rfl (by decide) (V 5) T.length (T.map intV) (hV 5 28 rfl) ho (.slice LX l kx) b0 l (x.map intV) (hv 9 32 _ (by kernel_rfl) rfl) (by have h:w.ownsRow b0 3 1 (.slice LX l kx) x.length (x.map intV):=HUX.out.below (HBW.out.trans (HI.out.1.mono HBW.out.size));rw[HLEN.out] at h;exact h) (by intro u hu;obtain⟨n,_,rfl⟩:=List.mem_map.1 hu;rfl) (by simp[maxLen];omega) (by omega) HI.out.1.size ?_;intro v' w' ho' hg' _
            exact⟨hd,_,rfl,HI.out.1.grown hg' HI.out.1.size (fun g hg=>(zfb ho hg).1),(fun h1 h2=>(by exact absurd h2 (by rw[show updB L 10 5=L 5 from rfl,k5];decide))),(fun _ h=>by cases h),(fun _ _=>(by show w'.ownsRow _ 3 1 v' (T++x).length ((T++x).map intV);rw[List.map_append,List.length_append,HLEN.out];exact ho')),(fun h=>by rw[show updB L 10 11=L 11 from rfl,h11] at h;cases h),(fun h=>by rw[show updB L 10 12=L 12 from rfl,h12] at h;cases h)⟩
          · have f23:=zc hz (hv 0 23 _ (by kernel_rfl) rfl) (by omega);have f25:=zc hz (hv 2 25 _ (by kernel_rfl) rfl) (by omega);have k10:=hdep 10 (by kernel_rfl) rfl;have f33:=zc hz (hV 10 33 rfl) (by omega);have h11:=hno rfl;have h12:=hah 12 (by kernel_rfl) rfl;have hla:=HI.out.2.2.2.1 k10 h11;have HJ:=Lib.hid HI.out.1;have HALL:=Lib.hid HI.out.2;clear hdep hah hv hV hno hI;refine wpOpIn_step rfl fun K hK=>?_
            go_simp;refine(HREC.out (V 10) wr.heap.size w (HBW.out.trans (HJ.out.mono HBW.out.size)) hla).mono ?_;rintro e w' ⟨vr,rfl,hlr,hb'⟩;exact hK _ _ ⟨rfl,_,rfl,HJ.out.trans (hb'.mono HJ.out.size),(fun h1 h2=>zu (HALL.out.1 h1 h2) hb'),(fun h1 h2=>ListAt.below (HALL.out.2.1 h1 h2) hb'),(fun _ h=>by cases h),(fun _=>hlr.mono HJ.out.size (Nat.le_refl _)),(fun h=>by rw[show updB L 11 12=L 12 from rfl,h12] at h;cases h)⟩
          · have k11:=hdep 11 (by kernel_rfl) rfl;have f34:=zc hz (hV 11 34 rfl) (by omega);clear hdep hah hv hV hno hI;refine wpOpIn_step rfl fun K hK=>?_
            go_simp;exact hK _ _ ⟨rfl,_,rfl,HI.out.1,HI.out.2.1,HI.out.2.2.1,HI.out.2.2.2.1,HI.out.2.2.2.2.1,fun _=>rfl⟩
        intro L V w5 hL hI;have HC5:=Lib.hid (hI.2.2.2.2.1 (hL 11 rfl));have e12:=hI.2.2.2.2.2 (hL 12 rfl);have HB5:=Lib.hid (HBW.out.trans (hI.1.mono HBW.out.size));have HW5:=Lib.hid hI.1;clear hI hL;simp only[outsG,Nat.zero_add,Nat.reduceAdd,e12,List.foldl_cons,List.foldl_nil,List.setIfInBounds_toArray,List.set_cons_succ,List.set_cons_zero];generalize V 11=v11 at HC5 ⊢;generalize V 10=v10;generalize V 5=v5;generalize V 3=v3;clear e12 V L;have HLP5:=Lib.hid (HLP.out.below HW5.out);have q5:=Below.old HW5.out Q1.out;have HUX5:=Lib.hid (HUX.out.below HB5.out);obtain⟨vsc,hcr,hce⟩:=id HC5.out;obtain⟨LR,cr,rfl,hcr2,_⟩:=HC5.out.read;obtain⟨LB,cb,rfl,hcb,_⟩:=HLP5.out.read;obtain⟨nc,hnc⟩:∃ nc,C.length=nc:=⟨_,rfl⟩;obtain⟨nb,hnb⟩:∃ nb,B.length=nb:=⟨_,rfl⟩;rw[hnc] at hcr hcr2 hC6 ⊢;rw[hnb] at hcb hBM ⊢
        have hrfc:=HRFC.out;rw[hnc,hnb] at hrfc;have hwc:IntKind.wrap .i64 ((nc:Int)+1)=(nc:Int)+1:=yEc (by omega) (by omega);by_cases hbig:nb<nc+1
        · have hbigI:(nb:Int)<(nc:Int)+1:=by omega
          rw[if_pos hbig] at hrfc;have HRFE:=Lib.hid hrfc;have hba:∀ X,Below w5.heap.size w5 (w5.alloc X):=fun X=>(Below.refl _ _).alloc (Nat.le_refl _) X
          obtain⟨v',w',r1,r2,r3⟩:=run_rows (w:=w5.alloc (.cells #[.slice LX l kx] 27)) HJ0.out HY0.out HY1.out HY2.out (yQa HB5.out.size) (zu hcr (hba _)) (lists_one (M:=C) (by rw[hnc];exact hcr) hce) (by omega) (by have:=HB5.out.size;simp;omega);have hrow:=yQa (w:=w5) (v:=.slice LX l kx) HB5.out.size;have hnew:zS w' W.heap.size b0 v' (x::C):=zS.cons (by rw[hnc];exact r2) ((HUX5.out.below (hba _)).grownB hrow r3) fun k hk=>((hce k hk).below (hba _)).grownB hrow r3
          have hbn:Below W.heap.size W w':=(HB5.out.alloc HB5.out.size _).grown r3 (by have:=HB5.out.size;simp;omega) fun g hg=>(zfb hrow hg).1
          have HRUN:=Lib.hid r1;have HNEW:=Lib.hid hnew;have HBN:=Lib.hid hbn;clear r1 r2 r3 hrow hnew hbn hcr hce hrfc hba
          gi_wp2_with (gi_at_builtin;refine ym rfl _ _ 40 40 rfl _ _ rfl rfl _ _ HRUN.out ?_)
          go_roundw
          case rel=>exact⟨i+1,x::C,by omega,by omega,by go_num,HNEW.out,by rw[List.length_cons];omega,HRFE.out,HBN.out⟩
          case measure=>simp[intOf];omega
        · have hbigI:¬(nb:Int)<(nc:Int)+1:=by omega
          rw[if_neg hbig] at hrfc;have HRFE:=Lib.hid hrfc;clear hcr hce hrfc;gi_wp2;go_roundw
          case rel=>exact⟨i+1,B,by omega,by omega,by go_num,by first|exact HLP5.out|(rw[←hnb];exact HLP5.out),by omega,HRFE.out,HB5.out⟩
          case measure=>simp[intOf];omega
    · obtain rfl:i=M.length:=by omega
      have hltI:¬(M.length:Int)<(M.length:Int):=by omega
      have hrf:=HRF.out;rw[List.drop_length] at hrf;rw[refL] at hrf;subst hrf;gi_wp2;go_ret;exact⟨_,rfl,HLP.out,HBW.out⟩
end
end Go.Proofs.YtpdmgecbapmgdaaGreat
