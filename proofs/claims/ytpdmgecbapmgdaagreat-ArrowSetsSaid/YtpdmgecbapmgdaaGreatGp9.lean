/- A part of the proof that ArrowSets returns true for every input: no further condition. -/
import Derived.Test.YtpdmgecbapmgdaaGreatGp8
import Derived.Test.YtpdmgecbapmgdaaGreatGp6
import Derived.Test.YtpdmgecbapmgdaaGreatGp2
import Derived.Test.YtpdmgecbapmgdaaGreatGp0
import Derived.Test.YtpdmgecbapmgdaaGreatLe1
import Derived.Conc.Own4
import Derived.Conc.LeavingOf
import Derived.Deep.Slices
import Derived.Lib.SmallJoins
import Derived.Test.YtpdmgecbapmgdaaGreatRows
import Derived.Carry
set_option linter.unusedSimpArgs false
set_option linter.unusedVariables false
set_option maxHeartbeats 4000000
set_option maxRecDepth 100000
namespace Go.Proofs.YtpdmgecbapmgdaaGreat
section
open Go.RowKit
theorem yAa(b0 b2:Nat)(LM:Option Addr)(cm:Nat)(M:List (List Nat))(h600:M.length≤600)(hM:∀ x,x∈M→x.Nodup∧x≠[]∧∀ a,a∈x→a<9):∀(d from_:Nat) (T:List Nat) (sv:Value) (bT:Nat) (W:World),M.length-from_=d→from_≤M.length→T.Nodup∧(∀ a,a∈T→a<9)→zS W b2 b0 (.slice LM M.length cm) M→b0≤W.heap.size→ListAt W bT sv T →
  CallsIn Fc 0 Tryz.prog 74 #[.slice LM M.length cm,.int .i64 from_,sv] W (yea b0 (refL (M.drop from_) T []) W):=fun d=>by
 induction d using Nat.strongRecOn with
 |ind d ih=>intro from_ T sv bT W hd hfr hT hls hb0 htl;refine refShare_step b0 bT b2 LM cm M sv T from_ W h600 hb0 (Lib.hid hM) hfr (Lib.hid hT) (Lib.hid hls) (Lib.hid htl) (Lib.hid fun j T' v' bT' w' hj hjM hT' hb hla=>?_);have:=ih (M.length-(j+1)) (by omega) (j+1) T' v' bT' w' rfl (by omega) hT' (hls.below hb) (Nat.le_trans hb0 hb.size) hla;rwa [show((j+1:Nat):Int)=(j:Int)+1 from by omega] at this
section
variable {rs rl rw:Int}{m n:Nat}{sh:Nat→Shaft}
theorem yP{l:List Nat}(hl:l.length≤9):(yc rs rl rw sh m l).length≤600:=by unfold yc;refine Nat.le_trans (List.length_filter_le _ _) ?_;rw[chs_len];exact Nat.le_trans (ymc hl) (by omega)
theorem yBa{l:List Nat}(hl:l.Pairwise (· < ·))(hm:0<m)(h9:∀ a,a∈l→a<9):∀ x,x∈yc rs rl rw sh m l→x.Nodup∧x≠[]∧∀ a,a∈x→a<9:=fun x hx=>by obtain⟨h1,h2,h3,_⟩:=(yx hl).1 hx;refine⟨h1.imp fun{a b} h=>Nat.ne_of_lt h,fun e=>?_,fun a ha=>h9 a (h2 a ha)⟩;rw[e] at h3;simp at h3;omega
end
theorem RefSets_exact(rs rl rw many:Int)(A:Option Addr)(n c:Nat)(sh:Nat→Shaft)(W:World)(hc:n≤c)(hsh:Hid (zA W A n sh))(hnm:Hid (∀ k,k<n→(sh k).name.size≤100)) :
    CallsIn Fc 0 Tryz.prog 23 #[zga rs rl rw many A n c] W (ydb (setsXZ rs rl rw many n sh) (stockZ rs rl rw many n sh) W):=by
  have hB1:∀ x,Below W.heap.size W (W.alloc x):=fun x=>(Below.refl _ _).alloc (Nat.le_refl _) _
  have HB1:=Lib.hid hB1;have hck:=fun w (hb:Below W.heap.size W w)=>yg rs rl rw many A n c sh w hc (Lib.hid (hsh.out.below hb)) hnm
  by_cases h0:stockZ rs rl rw many n sh=0
  · have hst:=yn h0;obtain⟨m,rfl⟩:∃ m:Nat,many=(m:Int):=⟨many.toNat,by have:=hst.rule.m0;omega⟩;have hm0:0<m:=by have:=hst.rule.m0;omega
    have hn:=hst.count;have e1:setsXZ rs rl rw m n sh=yc rs rl rw sh m (List.range n):=by unfold setsXZ;rw[if_pos h0,Int.toNat_natCast,refSets_all]
    rw[e1,h0];rw[h0] at hck;obtain⟨M,hM⟩:∃ M,yc rs rl rw sh m (List.range n)=M:=⟨_,rfl⟩;have hso:=fun(LU:Option Addr) (lu:Nat) (w:World) (hb:Below W.heap.size W w) (hlu:n≤lu) (hiu:zca w LU n fun k=>(((List.range n).getD k 0:Nat):Int))=>yxa rs rl rw m A n c sh LU lu (List.range n) w hc (Lib.hid hst) (Lib.hid (hsh.out.below hb)) (by rw[List.length_range];exact hn) (by rw[List.length_range];exact hlu) (Lib.hid fun a ha=>List.mem_range.1 ha) (Lib.hid (by rw[List.length_range];exact hiu))
    rw[hM] at hso;simp only[List.length_range] at hso;rw[hM];have HSO:=Lib.hid hso;have HCK:=Lib.hid hck;clear hB1 hck hso hM e1 h0;gi_enter Tryz.func23,Tryz.ntmps23
    gi_wp2_with (first
    | (gi_at_call 18;refine(HCK.out _ (HB1.out _)).mono ?_;rintro e w2 ⟨rfl,hb2⟩
       have e0:w2.cell? ⟨W.heap.size,0,none⟩=some (.int .i64 rs):=Below.old hb2 (by go_simp);have e1:w2.cell? ⟨W.heap.size,1,none⟩=some (.int .i64 rl):=Below.old hb2 (by go_simp);have e2:w2.cell? ⟨W.heap.size,2,none⟩=some (.int .i64 rw):=Below.old hb2 (by go_simp);have e3:w2.cell? ⟨W.heap.size,3,none⟩=some (.int .i64 m):=Below.old hb2 (by go_simp);have e4:w2.cell? ⟨W.heap.size,4,none⟩=some (.slice A n c):=Below.old hb2 (by go_simp);have HB2:=Lib.hid ((HB1.out _).trans (hb2.mono (HB1.out _).size));clear hb2))
    refine zsa (R:=[.val 10 (zga rs rl rw m A n c),.val 11 (.pointer (some ⟨W.heap.size,4,none⟩)),.val 12 (.slice A n c),.val 13 (.int .i64 n),.any 14,.any 15,.any 2,.val 3 (.int .i64 0)])
      (I:=fun L V w=>Below w2.heap.size w2 w∧(L 4=true→L 5=false→ListAt w w2.heap.size (V 4) (List.range n))∧(L 5=true→zS w w2.heap.size w2.heap.size (V 5) M)∧(L 6=true→V 6=V 5)) (z:=16) (by kernel_rfl) (by kernel_rfl) rfl (by kernel_rfl) rfl rfl ⟨(Below.refl _ _).drew,(fun h=>by cases h),(fun h=>by cases h),fun h=>by cases h⟩ ?_ ?_
    · intro j L V a w hj hno hdep hah hd hz hold hv hV hI;have HI:=Lib.hid hI;have d0:=Below.old HI.out.1 e0;have d1:=Below.old HI.out.1 e1;have d2:=Below.old HI.out.1 e2;have d3:=Below.old HI.out.1 e3;have d4:=Below.old HI.out.1 e4;have s1:=zc hz (hold 1 (by kernel_rfl)) (by omega);clear hold;have hjs:j=0∨j=1∨j=2∨j=3∨j=4∨j=5∨j=6∨j=7:=by have:j<8:=hj;omega
      rcases hjs with rfl|rfl|rfl|rfl|rfl|rfl|rfl|rfl
      all_goals try
        (try have f11:=zc hz (hv 1 11 _ rfl rfl) (by omega)
         try have f12:=zc hz (hv 2 12 _ rfl rfl) (by omega)
         clear hdep hah hv hV hno hI;refine wpOpIn_step rfl fun K hK=>?_
         go_simp;exact hK _ _ ⟨rfl,rfl,HI.out⟩)
      · have f13:=zc hz (hv 3 13 _ (by kernel_rfl) rfl) (by omega);have h5:=hah 5 (by kernel_rfl) rfl;have h6:=hah 6 (by kernel_rfl) rfl;clear hdep hah hv hV hno hI;refine wpOpIn_step rfl fun K hK=>?_
        go_simp;refine(yCc n w (by omega)).mono ?_;rintro e w' ⟨v,rfl,hl,hb'⟩;exact hK _ _ ⟨rfl,_,rfl,HI.out.1.trans (hb'.mono HI.out.1.size),(fun _ _=>ListAt.mono hl HI.out.1.size),(fun h=>by rw[show updB L 4 5=L 5 from rfl,h5] at h;cases h),(fun h=>by rw[show updB L 4 6=L 6 from rfl,h6] at h;cases h)⟩
      · have f10:=zc hz (hv 0 10 _ (by kernel_rfl) rfl) (by omega);have k4:=hdep 4 (by kernel_rfl) rfl;have f14:=zc hz (hV 4 14 rfl) (by omega);have h5:=hno rfl;have h6:=hah 6 (by kernel_rfl) rfl;have hla:=HI.out.2.1 k4 h5;have HJ:=Lib.hid HI.out.1;obtain⟨LU,lu,eu,hlu,hiu⟩:=hla.shape;rw[List.length_range] at eu hlu hiu;rw[eu] at f14;clear hdep hah hv hV hno hI;refine wpOpIn_step rfl fun K hK=>?_
        go_simp;have hu:=HSO.out LU lu w (HB2.out.trans (HJ.out.mono HB2.out.size)) hlu hiu;refine hu.mono ?_;rintro e w' ⟨v,rfl,hl,hb'⟩;exact hK _ _ ⟨rfl,_,rfl,HJ.out.trans (hb'.mono HJ.out.size),(fun _ h=>by cases h),(fun _=>hl.mono HJ.out.size HJ.out.size),(fun h=>by rw[show updB L 5 6=L 6 from rfl,h6] at h;cases h)⟩
      · have k5:=hdep 5 (by kernel_rfl) rfl;have f15:=zc hz (hV 5 15 rfl) (by omega);clear hdep hah hv hV hno hI;refine wpOpIn_step rfl fun K hK=>?_
        go_simp;exact hK _ _ ⟨rfl,_,rfl,HI.out.1,HI.out.2.1,HI.out.2.2.1,fun _=>rfl⟩
    intro L V w5 hL hI;have HM5:=Lib.hid (hI.2.2.1 (hL 5 rfl));have e6:=hI.2.2.2 (hL 6 rfl);have HB5:=Lib.hid (HB2.out.trans (hI.1.mono HB2.out.size));have hs2:=HB2.out.size;clear hI hL;simp only[outsG,Nat.zero_add,Nat.reduceAdd,e6,List.foldl_cons,List.foldl_nil,List.setIfInBounds_toArray,List.set_cons_succ,List.set_cons_zero];generalize V 5=v5 at HM5 ⊢;generalize V 4=v4;clear e6 V L;gi_wp2
    go_ret2
    exact⟨_,rfl,HM5.out.mono hs2 hs2,HB5.out⟩
  · have e1:setsXZ rs rl rw many n sh=[]:=by unfold setsXZ;rw[if_neg h0]
    rw[e1];obtain⟨z,hz⟩:∃ z,stockZ rs rl rw many n sh=z:=⟨_,rfl⟩;rw[hz] at hck h0 ⊢;have HCK:=Lib.hid hck;clear hB1 hck e1 hz;gi_enter Tryz.func23,Tryz.ntmps23
    gi_wp2_with (first
    | (gi_at_call 18;refine(HCK.out _ (HB1.out _)).mono ?_;rintro e w2 ⟨rfl,hb2⟩
       have e0:w2.cell? ⟨W.heap.size,0,none⟩=some (.int .i64 rs):=Below.old hb2 (by go_simp);have e1:w2.cell? ⟨W.heap.size,1,none⟩=some (.int .i64 rl):=Below.old hb2 (by go_simp);have e2:w2.cell? ⟨W.heap.size,2,none⟩=some (.int .i64 rw):=Below.old hb2 (by go_simp);have e3:w2.cell? ⟨W.heap.size,3,none⟩=some (.int .i64 many):=Below.old hb2 (by go_simp);have e4:w2.cell? ⟨W.heap.size,4,none⟩=some (.slice A n c):=Below.old hb2 (by go_simp);have HB2:=Lib.hid ((HB1.out _).trans (hb2.mono (HB1.out _).size));clear hb2))
    go_ret2
    exact⟨_,rfl,zS.nil _ _ _,HB2.out⟩
theorem RefFill_exact(rs rl rw many:Int)(A:Option Addr)(n c:Nat)(sh:Nat→Shaft)(W:World)(hc:n≤c)(hsh:Hid (zA W A n sh))(hnm:Hid (∀ k,k<n→(sh k).name.size≤100)) :
    CallsIn Fc 0 Tryz.prog 26 #[zga rs rl rw many A n c] W (yDb (fillX rs rl rw many n sh) (leftX rs rl rw many n sh) (stockZ rs rl rw many n sh) W):=by
  have hB1:∀ x,Below W.heap.size W (W.alloc x):=fun x=>(Below.refl _ _).alloc (Nat.le_refl _) _
  have HB1:=Lib.hid hB1;have hck:=fun w (hb:Below W.heap.size W w)=>yg rs rl rw many A n c sh w hc (Lib.hid (hsh.out.below hb)) hnm
  by_cases h0:stockZ rs rl rw many n sh=0
  · have hst:=yn h0;obtain⟨m,rfl⟩:∃ m:Nat,many=(m:Int):=⟨many.toNat,by have:=hst.rule.m0;omega⟩;have hm0:0<m:=by have:=hst.rule.m0;omega
    have hn:=hst.count;have e1:fillX rs rl rw m n sh=refL (yc rs rl rw sh m (List.range n)) [] []:=by unfold fillX;rw[if_pos h0,Int.toNat_natCast];exact(yib hm0 List.pairwise_lt_range fun a=>by simp).symm
    have e2:leftX rs rl rw m n sh=leftL n (fillX rs rl rw m n sh):=by unfold leftX fillX;rw[if_pos h0,if_pos h0]
    have hgood:∀ x,x∈fillX rs rl rw m n sh→x.Pairwise (· < ·)∧(∀ a,a∈x→a<n)∧x.length=m:=fun x hx=>by unfold fillX at hx;rw[if_pos h0,Int.toNat_natCast] at hx;have:=setsX_iff.1 (yeb hx);exact⟨this.1,this.2.1,this.2.2.1⟩
    have hsplit:Split (fillX rs rl rw m n sh):=by unfold fillX;rw[if_pos h0,Int.toNat_natCast];exact(yMa hm0 _).2
    obtain⟨E,hE⟩:∃ E,fillX rs rl rw m n sh=E:=⟨_,rfl⟩;rw[e2,hE,h0];rw[hE] at e1 hgood hsplit;rw[h0] at hck;obtain⟨M,hM⟩:∃ M,yc rs rl rw sh m (List.range n)=M:=⟨_,rfl⟩;rw[hM] at e1;have h600:M.length≤600:=by rw[←hM];exact yP (by rw[List.length_range];exact hn)
    have hMg:∀ x,x∈M→x.Nodup∧x≠[]∧∀ a,a∈x→a<9:=by rw[←hM];exact yBa List.pairwise_lt_range hm0 fun a ha=>by have:=List.mem_range.1 ha;omega
    have hso:=fun(LU:Option Addr) (lu:Nat) (w:World) (hb:Below W.heap.size W w) (hlu:n≤lu) (hiu:zca w LU n fun k=>(((List.range n).getD k 0:Nat):Int))=>yxa rs rl rw m A n c sh LU lu (List.range n) w hc (Lib.hid hst) (Lib.hid (hsh.out.below hb)) (by rw[List.length_range];exact hn) (by rw[List.length_range];exact hlu) (Lib.hid fun a ha=>List.mem_range.1 ha) (Lib.hid (by rw[List.length_range];exact hiu))
    rw[hM] at hso;simp only[List.length_range] at hso;have hfl9:E.flatten.length≤n:=yW (flat_nodup hsplit fun x hx=>(hgood x hx).1) fun a ha=>by obtain⟨x,hx,hax⟩:=List.mem_flatten.1 ha;exact(hgood x hx).2.1 a hax
    have hfm:=yPb (fun x hx=>(hgood x hx).2.2);have hE9:E.length≤9:=by have:E.length≤E.length*m:=Nat.le_mul_of_pos_right _ hm0;omega
    have HM:=Lib.hid hMg;have HSO:=Lib.hid hso;have HCK:=Lib.hid hck;have HGOOD:=Lib.hid hgood;clear hB1 hck hso hM hE e2 h0 hMg hgood hsplit hfm;obtain⟨i0,hj0,hz0,hz1,hz2⟩:=info_parts it3;have HI0:=Lib.hid hj0;have HZ0:=Lib.hid hz0;have HZ1:=Lib.hid hz1;have HZ2:=Lib.hid hz2;clear hj0 hz0 hz1 hz2;have HE1:=Lib.hid e1;clear e1;gi_enter Tryz.func26,Tryz.ntmps26
    gi_wp2_with (first
    | (gi_at_call 18;refine(HCK.out _ (HB1.out _)).mono ?_;rintro e w2 ⟨rfl,hb2⟩
       have e0:w2.cell? ⟨W.heap.size,0,none⟩=some (.int .i64 rs):=Below.old hb2 (by go_simp);have e1:w2.cell? ⟨W.heap.size,1,none⟩=some (.int .i64 rl):=Below.old hb2 (by go_simp);have e2:w2.cell? ⟨W.heap.size,2,none⟩=some (.int .i64 rw):=Below.old hb2 (by go_simp);have e3:w2.cell? ⟨W.heap.size,3,none⟩=some (.int .i64 m):=Below.old hb2 (by go_simp);have e4:w2.cell? ⟨W.heap.size,4,none⟩=some (.slice A n c):=Below.old hb2 (by go_simp);have HB2:=Lib.hid ((HB1.out _).trans (hb2.mono (HB1.out _).size));clear hb2))
    refine zsa (R:=[.val 16 (zga rs rl rw m A n c),.val 17 (.pointer (some ⟨W.heap.size,4,none⟩)),.val 18 (.slice A n c),.val 19 (.int .i64 n),.any 20,.any 21,.any 22,.any 6])
      (I:=fun L V w=>Below w2.heap.size w2 w∧(L 4=true→L 5=false→ListAt w w2.heap.size (V 4) (List.range n))∧(L 5=true→L 6=false→zS w w2.heap.size w2.heap.size (V 5) M)∧(L 6=true→zS w w2.heap.size w2.heap.size (V 6) E)∧(L 7=true→V 7=V 6)) (z:=52) (by kernel_rfl) (by kernel_rfl) rfl (by kernel_rfl) rfl rfl ⟨(Below.refl _ _).drew,(fun h=>by cases h),(fun h=>by cases h),(fun h=>by cases h),fun h=>by cases h⟩ ?_ ?_
    · intro j L V a w hj hno hdep hah hd hz hold hv hV hI;have HI:=Lib.hid hI;have d0:=Below.old HI.out.1 e0;have d1:=Below.old HI.out.1 e1;have d2:=Below.old HI.out.1 e2;have d3:=Below.old HI.out.1 e3;have d4:=Below.old HI.out.1 e4;have s1:=zc hz (hold 1 (by kernel_rfl)) (by omega);clear hold;have hjs:j=0∨j=1∨j=2∨j=3∨j=4∨j=5∨j=6∨j=7:=by have:j<8:=hj;omega
      rcases hjs with rfl|rfl|rfl|rfl|rfl|rfl|rfl|rfl
      · clear hdep hah hv hV hno hI;refine wpOpIn_step rfl fun K hK=>?_
        go_simp;exact hK _ _ ⟨rfl,rfl,HI.out⟩
      · clear hdep hah hv hV hno hI;refine wpOpIn_step rfl fun K hK=>?_
        go_simp;exact hK _ _ ⟨rfl,rfl,HI.out⟩
      · have f17:=zc hz (hv 1 17 _ (by kernel_rfl) rfl) (by omega);clear hdep hah hv hV hno hI;refine wpOpIn_step rfl fun K hK=>?_
        go_simp;exact hK _ _ ⟨rfl,rfl,HI.out⟩
      · have f18:=zc hz (hv 2 18 _ (by kernel_rfl) rfl) (by omega);clear hdep hah hv hV hno hI;refine wpOpIn_step rfl fun K hK=>?_
        go_simp;exact hK _ _ ⟨rfl,rfl,HI.out⟩
      · have f19:=zc hz (hv 3 19 _ (by kernel_rfl) rfl) (by omega);have h5:=hah 5 (by kernel_rfl) rfl;have h6:=hah 6 (by kernel_rfl) rfl;have h7:=hah 7 (by kernel_rfl) rfl;clear hdep hah hv hV hno hI;refine wpOpIn_step rfl fun K hK=>?_
        go_simp;refine(yCc n w (by omega)).mono ?_;rintro e w' ⟨v,rfl,hl,hb'⟩;exact hK _ _ ⟨rfl,_,rfl,HI.out.1.trans (hb'.mono HI.out.1.size),(fun _ _=>ListAt.mono hl HI.out.1.size),(fun h=>by rw[show updB L 4 5=L 5 from rfl,h5] at h;cases h),(fun h=>by rw[show updB L 4 6=L 6 from rfl,h6] at h;cases h),(fun h=>by rw[show updB L 4 7=L 7 from rfl,h7] at h;cases h)⟩
      · have f16:=zc hz (hv 0 16 _ (by kernel_rfl) rfl) (by omega);have k4:=hdep 4 (by kernel_rfl) rfl;have f20:=zc hz (hV 4 20 rfl) (by omega);have h5:=hno rfl;have h6:=hah 6 (by kernel_rfl) rfl;have h7:=hah 7 (by kernel_rfl) rfl;have hla:=HI.out.2.1 k4 h5;have HJ:=Lib.hid HI.out.1;obtain⟨LU,lu,eu,hlu,hiu⟩:=hla.shape;rw[List.length_range] at eu hlu hiu;rw[eu] at f20;clear hdep hah hv hV hno hI;refine wpOpIn_step rfl fun K hK=>?_
        go_simp;have hu:=HSO.out LU lu w (HB2.out.trans (HJ.out.mono HB2.out.size)) hlu hiu;refine hu.mono ?_;rintro e w' ⟨v,rfl,hl,hb'⟩;exact hK _ _ ⟨rfl,_,rfl,HJ.out.trans (hb'.mono HJ.out.size),(fun _ h=>by cases h),(fun _ _=>hl.mono HJ.out.size HJ.out.size),(fun h=>by rw[show updB L 5 6=L 6 from rfl,h6] at h;cases h),(fun h=>by rw[show updB L 5 7=L 7 from rfl,h7] at h;cases h)⟩
      · have k5:=hdep 5 (by kernel_rfl) rfl;have f21:=zc hz (hV 5 21 rfl) (by omega);have h6:=hno rfl;have h7:=hah 7 (by kernel_rfl) rfl;have hls:=HI.out.2.2.1 k5 h6;have HJ:=Lib.hid HI.out.1;have HALL:=Lib.hid HI.out.2.1;obtain⟨LM,cm,em,hcm,_⟩:=hls.read;rw[em] at f21 hls;clear hdep hah hv hV hno hI;refine wpOpIn_step rfl fun K hK=>?_
        go_simp;refine(yAa w2.heap.size w2.heap.size LM cm M h600 HM.out M.length 0 [] (.slice none 0 0) w.heap.size w (by omega) (by omega) ⟨List.nodup_nil,fun a h=>by cases h⟩ hls HJ.out.size (ListAt.nil _ _)).mono ?_;rintro e w' ⟨v,rfl,hl,hb'⟩;exact hK _ _ ⟨rfl,_,rfl,HJ.out.trans (hb'.mono HJ.out.size),(fun h1 h2=>ListAt.below (HALL.out h1 h2) hb'),(fun _ h=>by cases h),(fun _=>by rw[HE1.out];exact hl.mono HJ.out.size (Nat.le_refl _)),(fun h=>by rw[show updB L 6 7=L 7 from rfl,h7] at h;cases h)⟩
      · have k6:=hdep 6 (by kernel_rfl) rfl;have f22:=zc hz (hV 6 22 rfl) (by omega);clear hdep hah hv hV hno hI;refine wpOpIn_step rfl fun K hK=>?_
        go_simp;exact hK _ _ ⟨rfl,_,rfl,HI.out.1,HI.out.2.1,HI.out.2.2.1,HI.out.2.2.2.1,fun _=>rfl⟩
    intro L V w5 hL hI;have HE5:=Lib.hid (hI.2.2.2.1 (hL 6 rfl));have e7:=hI.2.2.2.2 (hL 7 rfl);have HB5:=Lib.hid (HB2.out.trans (hI.1.mono HB2.out.size));have e4:=Below.old hI.1 e4;have hs2:=HB2.out.size;clear hI hL e0 e1 e2 e3;simp only[outsG,Nat.zero_add,Nat.reduceAdd,e7,List.foldl_cons,List.foldl_nil,List.setIfInBounds_toArray,List.set_cons_succ,List.set_cons_zero];generalize V 6=v6 at HE5 ⊢;generalize V 5=v5;generalize V 4=v4;clear e7 V L;obtain⟨LE,ce,rfl,hce,hre⟩:=HE5.out.read;have HRE:=Lib.hid hre;clear hre;gi_wp2
    gi_loopw [7,9] (fun v y wr=>∃ k:Nat,k≤E.length∧y=.int .i64 k∧ListAt wr w5.heap.size v (E.take k).flatten∧Below w5.heap.size w5 wr) (fun _ y _=>E.length-(intOf y).toNat)
    case atStart=>exact⟨0,by omega,rfl,ListAt.nil _ _,Below.refl _ _⟩
    case round=>
      obtain⟨k,hk,rfl,hla,hbw⟩:=hrel;have HLA:=Lib.hid hla;have HBW:=Lib.hid hbw;clear hla hbw;by_cases hlt:k<E.length
      · obtain⟨b1,o1,LX,kx,rfl,q1,hkx,hix⟩:=HRE.out k hlt;obtain⟨x,hx⟩:∃ x,E.getD k []=x:=⟨_,rfl⟩;have hxm:E.getD k []∈E:=yp hlt;have hfn:=yaa hlt;rw[hx] at q1 hkx hix hxm hfn;have x3:=(HGOOD.out x hxm).2.2;rw[x3] at q1 hkx hix;obtain⟨bx,ox,rfl,_⟩:=hix 0 hm0;obtain⟨F,hF⟩:∃ F,(E.take k).flatten=F:=⟨_,rfl⟩;have hF9:F.length+m≤9:=by
          have h1:((E.take (k+1)).flatten).length≤E.flatten.length:=by
            conv=>rhs;rw[←List.take_append_drop (k+1) E]
            rw[List.flatten_append,List.length_append];omega
          rw[hfn,List.length_append,hF,x3] at h1;omega
        have hla:=HLA.out;rw[hF] at hla hfn;have hcl:∀(j:Nat) (u:Value),(x.map intV)[j]? = some u→wr.cell? ((⟨bx,ox,none⟩:Addr).add j)=some u:=ynb (by rw[x3];exact hix.below HBW.out);have HCL:=Lib.hid hcl;have HFN:=Lib.hid hfn;have HLAF:=Lib.hid hla;have X3:=Lib.hid x3;have q1:=Below.old HBW.out q1;have hltI:(k:Int)<(E.length:Int):=by omega
        have h99:k<99:=by omega
        clear hfn hla hcl hxm hx hix hF HLA x3
        gi_wp2_with
          (gi_at_builtin
           refine wpListIn_append_own _ rfl _ _ 27 rfl w5.heap.size 3 i0 (.int .i64 0) 1 8 ut27 HI0.out HZ0.out HZ1.out HZ2.out rfl (by decide) u7 F.length (F.map intV) rfl HLAF.out ⟨bx,ox,none⟩ m kx (x.map intV) rfl (by rw[List.length_map,X3.out,Nat.mul_one]) HCL.out (by intro u hu;obtain⟨n,_,rfl⟩:=List.mem_map.1 hu;rfl) (by simp[maxLen];omega) (by omega) (HBW.out.size) ?_;intro v' w8 hown4 hg4 hnil4;have HO:=Lib.hid hown4;have HG:=Lib.hid hg4;clear hg4 hnil4 hown4)
        refine⟨⟨k+1,by omega,by first|rfl|trivial,?_,HBW.out.grown HG.out HBW.out.size fun g hg=>(zfb HLAF.out hg).1⟩,by simp[intOf];omega⟩;rw[HFN.out];have h:=HO.out;show w8.ownsRow w5.heap.size 3 1 v' (F++x).length ((F++x).map intV);rw[List.map_append,List.length_append,X3.out];exact h
      · obtain rfl:k=E.length:=by omega
        have hltI:¬(E.length:Int)<(E.length:Int):=by omega
        have hla:=HLA.out;rw[List.take_length] at hla;obtain⟨F,hF⟩:∃ F,E.flatten=F:=⟨_,rfl⟩;rw[hF] at hla hfl9;obtain⟨LF,lf,rfl,hlf,hif⟩:=hla.shape;have HIF:=Lib.hid hif;have HF:=Lib.hid hF;have e4:=Below.old HBW.out e4;obtain⟨w6,hw6⟩:∃ w6,wr=w6:=⟨_,rfl⟩;subst hw6;have HB6:=Lib.hid (HB5.out.trans (HBW.out.mono HB5.out.size));have HE6:=Lib.hid (HE5.out.below HBW.out);have hhas:∀(k:Nat) w,Below wr.heap.size wr w→CallsIn Fc 0 Tryz.prog 40 #[.slice LF F.length lf,.int .i64 k] w fun e w'=>e=.returned (.bool (decide (k∈F)))∧w=w':=fun k w hb=>by
          refine(yub LF F.length lf (fun j=>F.getD j 0) k w (by omega) hlf (Lib.hid (hif.below hb))).mono ?_;rintro e w' ⟨g,rfl,hg,rfl⟩;refine⟨?_,rfl⟩;have:g=decide (k∈F):=by
            rw[Bool.eq_iff_iff,decide_eq_true_iff,hg];constructor
            · rintro⟨j,hj,e⟩;rw[←e];exact yp hj
            · intro h;obtain⟨j,hj,e⟩:=List.mem_iff_getElem.1 h;exact⟨j,hj,by rw[yzb hj];exact e⟩
          rw[this]
        have HHAS:=Lib.hid hhas;obtain⟨w9,hw9⟩:∃ w9,w9=wr:=⟨_,rfl⟩;have hHAS9:∀(k:Nat) w,Below w9.heap.size w9 w→CallsIn Fc 0 Tryz.prog 40 #[.slice LF F.length lf,.int .i64 k] w fun e w'=>e=.returned (.bool (decide (k∈F)))∧w=w':=by rw[hw9];exact hhas
        have HH9:=Lib.hid hHAS9;rw[←hw9] at e4 HB6 HE6 ⊢;have k9:=World.block_lt_of_cell? w9 _ e4;clear hla hif hF HLA hhas hHAS9 HHAS HIF HBW hw9;gi_wp2
        gi_loopw [8,10] (fun lv y wr=>∃ k:Nat,k≤n∧y=.int .i64 k∧ListAt wr w9.heap.size lv ((List.range k).filter fun s=>decide (s∉F))∧Below w9.heap.size w9 wr) (fun _ y _=>n-(intOf y).toNat)
        case atStart=>exact⟨0,by omega,rfl,ListAt.nil _ _,Below.refl _ _⟩
        case round=>
          obtain⟨k,hk,rfl,hla,hbw⟩:=hrel;have HLA:=Lib.hid hla;have HBW:=Lib.hid hbw;have e4:=Below.old hbw e4;clear hla hbw;by_cases hlt:k<n
          · have hltI:(k:Int)<(n:Int):=by omega
            have h99:k<9:=by omega
            have hck:=HH9.out k wr HBW.out;have hnext:(List.range (k+1)).filter (fun s=>decide (s∉F))=(List.range k).filter (fun s=>decide (s∉F))++if k∈F then[] else[k]:=by rw[List.range_succ,List.filter_append];by_cases h:k∈F<;>simp[h]
            have hlen:((List.range k).filter fun s=>decide (s∉F)).length≤9:=Nat.le_trans (List.length_filter_le _ _) (by simp;omega);by_cases hin:k∈F
            · rw[show decide (k∈F)=true from decide_eq_true hin] at hck;rw[if_pos hin,List.append_nil] at hnext;have HN:=Lib.hid hnext;have HCK:=Lib.hid hck;clear hnext hck hin hlen
              gi_wp2_with (gi_at_call 40;refine HCK.out.mono ?_;rintro e w6 ⟨rfl,rfl⟩)
              exact⟨⟨k+1,by omega,rfl,by rw[HN.out];exact HLA.out,HBW.out⟩,by show n-(intOf (Value.int IntKind.i64 ((k:Int)+1))).toNat<n-(intOf (Value.int IntKind.i64 (k:Int))).toNat;simp only[intOf];omega⟩
            · rw[show decide (k∈F)=false from decide_eq_false hin] at hck;rw[if_neg hin] at hnext;have HN:=Lib.hid hnext;have HCK:=Lib.hid hck;obtain⟨L,hL⟩:∃ L,(List.range k).filter (fun s=>decide (s∉F))=L:=⟨_,rfl⟩;rw[hL] at hlen HN;have hla:∀ X,(wr.alloc X).ownsRow w9.heap.size 3 1 u8 L.length (L.map intV):=fun X=>by rw[←hL];exact zu HLA.out ((Below.refl _ _).alloc (Nat.le_refl _) X)
              have HLA2:=Lib.hid hla;clear hnext hck hin hL hla
              gi_wp2_with (first
                |(gi_at_call 40;refine HCK.out.mono ?_;rintro e w6 ⟨rfl,rfl⟩)
                | (gi_at_builtin
                   refine wpListIn_append_own _ rfl _ _ 27 rfl w9.heap.size 3 i0 (.int .i64 0) 1 8 ut27 HI0.out HZ0.out HZ1.out HZ2.out rfl (by decide) u8 L.length (L.map intV) rfl (HLA2.out _) ⟨_,0,none⟩ 1 1 [.int .i64 (k:Int)] rfl rfl (yw _ _ _) (by intro u hu;rcases List.mem_singleton.1 hu with rfl;rfl) (by simp[maxLen];omega) (by omega) (by have:=HBW.out.size;simp;omega) ?_;intro v' w4 hown4 hg4 hnil4;have HO:=Lib.hid hown4;have HG:=Lib.hid hg4;clear hg4 hnil4 hown4))
              refine⟨⟨k+1,by omega,rfl,?_,(HBW.out.alloc HBW.out.size _).grown HG.out (by have:=HBW.out.size;simp;omega) fun g hg=>(zfb (HLA2.out (.cells #[.int .i64 (k:Int)] 3)) hg).1⟩,by show n-(intOf (Value.int IntKind.i64 ((k:Int)+1))).toNat<n-(intOf (Value.int IntKind.i64 (k:Int))).toNat;simp only[intOf];omega⟩;rw[HN.out];have h:=HO.out;show w4.ownsRow w9.heap.size 3 1 v' (L++[k]).length ((L++[k]).map intV);rw[List.map_append,List.length_append];exact h
          · obtain rfl:k=n:=by omega
            have hltI:¬(k:Int)<(k:Int):=by omega
            gi_wp2;refine bodyPost_ret (results_tmp3 rfl _ _ _) rfl ?_;refine⟨_,_,rfl,?_,?_,HB6.out.trans (HBW.out.mono HB6.out.size)⟩
            · exact(HE6.out.below HBW.out).mono hs2 hs2
            · unfold leftL;rw[HF.out];exact HLA.out.mono HB6.out.size
  · have e1:fillX rs rl rw many n sh=[]:=by unfold fillX;rw[if_neg h0]
    have e2:leftX rs rl rw many n sh=[]:=by unfold leftX;rw[if_neg h0]
    rw[e1,e2];obtain⟨z,hz⟩:∃ z,stockZ rs rl rw many n sh=z:=⟨_,rfl⟩;rw[hz] at hck h0 ⊢;have HCK:=Lib.hid hck;clear hB1 hck e1 e2 hz;gi_enter Tryz.func26,Tryz.ntmps26
    gi_wp2_with (first
    | (gi_at_call 18;refine(HCK.out _ (HB1.out _)).mono ?_;rintro e w2 ⟨rfl,hb2⟩
       have e0:w2.cell? ⟨W.heap.size,0,none⟩=some (.int .i64 rs):=Below.old hb2 (by go_simp);have e1:w2.cell? ⟨W.heap.size,1,none⟩=some (.int .i64 rl):=Below.old hb2 (by go_simp);have e2:w2.cell? ⟨W.heap.size,2,none⟩=some (.int .i64 rw):=Below.old hb2 (by go_simp);have e3:w2.cell? ⟨W.heap.size,3,none⟩=some (.int .i64 many):=Below.old hb2 (by go_simp);have e4:w2.cell? ⟨W.heap.size,4,none⟩=some (.slice A n c):=Below.old hb2 (by go_simp);have HB2:=Lib.hid ((HB1.out _).trans (hb2.mono (HB1.out _).size));clear hb2))
    refine bodyPost_ret (results_tmp3 rfl _ _ _) rfl ?_;exact⟨_,_,rfl,zS.nil _ _ _,ListAt.nil _ _,HB2.out⟩
theorem RefWithout_exact(rs rl rw many:Int)(A:Option Addr)(n c:Nat)(sh:Nat→Shaft)(s:Int)(W:World)(hn20:n≤20)(hc:n≤c)(hsh:Hid (zA W A n sh))(hnm:Hid (∀ k,k<n→(sh k).name.size≤100)) :
    CallsIn Fc 0 Tryz.prog 29 #[zga rs rl rw many A n c,.int .i64 s] W (fun e w'=>e=.returned (.tuple #[.int .i64 (withoutZ rs rl rw many n sh s:Nat),.int .i64 (askZ rs rl rw many n sh s)])∧Below W.heap.size W w'):=by
  have hB1:∀ x,Below W.heap.size W (W.alloc x):=fun x=>(Below.refl _ _).alloc (Nat.le_refl _) _
  have HB1:=Lib.hid hB1;have hck:=fun w (hb:Below W.heap.size W w)=>askedShaft_any rs rl rw many A n c sh s w hn20 hc (Lib.hid (hsh.out.below hb)) hnm
  by_cases h0:askZ rs rl rw many n sh s=0
  · obtain⟨hz0,hs0,hsn⟩:=ySb h0;have hst:=yn hz0;obtain⟨m,rfl⟩:∃ m:Nat,many=(m:Int):=⟨many.toNat,by have:=hst.rule.m0;omega⟩;obtain⟨s,rfl⟩:∃ k:Nat,s=(k:Int):=⟨s.toNat,by omega⟩;have hm0:0<m:=by have:=hst.rule.m0;omega
    have hn:=hst.count;have hl:((List.range n).filter fun a=>decide (a≠s)).Pairwise (· < ·):=List.Pairwise.filter _ List.pairwise_lt_range;have e1:withoutZ rs rl rw m n sh s=(refL (yc rs rl rw sh m ((List.range n).filter fun a=>decide (a≠s))) [] []).length:=by unfold withoutZ;rw[if_pos h0,Int.toNat_natCast,Int.toNat_natCast,yib (n:=n) (T:=updT (fun _=>false) s) hm0 hl fun a=>?_];rw[List.mem_filter,List.mem_range,decide_eq_true_eq];unfold updT;by_cases e:a=s<;>simp[e]
    have hl9:((List.range n).filter fun a=>decide (a≠s)).length≤9:=Nat.le_trans (List.length_filter_le _ _) (by simpa using hn);have hlt:∀ a,a∈(List.range n).filter (fun a=>decide (a≠s))→a<n:=fun a ha=>List.mem_range.1 (List.mem_filter.1 ha).1
    have hmem:∀ k,k<n→(List.range (k+1)).filter (fun a=>decide (a≠s))=(List.range k).filter (fun a=>decide (a≠s))++if k=s then[] else[k]:=fun k _=>by rw[List.range_succ,List.filter_append];by_cases h:k=s<;>simp[h]
    have HNEXT:=Lib.hid hmem;obtain⟨RL,hRL⟩:∃ RL,withoutZ rs rl rw m n sh s=RL:=⟨_,rfl⟩;rw[hRL,h0];rw[hRL] at e1;rw[h0] at hck;obtain⟨M,hM⟩:∃ M,yc rs rl rw sh m ((List.range n).filter fun a=>decide (a≠s))=M:=⟨_,rfl⟩;rw[hM] at e1;have h600:M.length≤600:=by rw[←hM];exact yP hl9
    have hMg:∀ x,x∈M→x.Nodup∧x≠[]∧∀ a,a∈x→a<9:=by rw[←hM];exact yBa hl hm0 fun a ha=>by have:=hlt a ha;omega
    obtain⟨O,hO⟩:∃ O,(List.range n).filter (fun a=>decide (a≠s))=O:=⟨_,rfl⟩;rw[hO] at hM hl9 hlt;have hso:=fun(LU:Option Addr) (lu:Nat) (w:World) (hb:Below W.heap.size W w) (hlu:O.length≤lu) (hiu:zca w LU O.length fun k=>((O.getD k 0:Nat):Int))=>yxa rs rl rw m A n c sh LU lu O w hc (Lib.hid hst) (Lib.hid (hsh.out.below hb)) hl9 hlu (Lib.hid hlt) (Lib.hid hiu)
    rw[hM] at hso;have hsI:(s:Int)<(n:Int):=hsn;have HO1:=Lib.hid hO;have HM:=Lib.hid hMg;have HSO:=Lib.hid hso;have HCK:=Lib.hid hck;have HE1:=Lib.hid e1;clear hB1 hck hso hM h0 hMg e1 hRL hl hlt hmem hO hz0 hs0;obtain⟨i0,hj0,hz0,hz1,hz2⟩:=info_parts it3;have HI0:=Lib.hid hj0;have HZ0:=Lib.hid hz0;have HZ1:=Lib.hid hz1;have HZ2:=Lib.hid hz2;clear hj0 hz0 hz1 hz2;gi_enter Tryz.func29,Tryz.ntmps29
    gi_wp2_with (first
    | (gi_at_call 76;refine(HCK.out _ (HB1.out _)).mono ?_;rintro e w2 ⟨rfl,hb2⟩
       have e0:w2.cell? ⟨W.heap.size,0,none⟩=some (.int .i64 rs):=Below.old hb2 (by go_simp);have e1:w2.cell? ⟨W.heap.size,1,none⟩=some (.int .i64 rl):=Below.old hb2 (by go_simp);have e2:w2.cell? ⟨W.heap.size,2,none⟩=some (.int .i64 rw):=Below.old hb2 (by go_simp);have e3:w2.cell? ⟨W.heap.size,3,none⟩=some (.int .i64 m):=Below.old hb2 (by go_simp);have e4:w2.cell? ⟨W.heap.size,4,none⟩=some (.slice A n c):=Below.old hb2 (by go_simp);have HB2:=Lib.hid ((HB1.out _).trans (hb2.mono (HB1.out _).size));clear hb2))
    gi_loopw [7,8] (fun lv y wr=>∃ k:Nat,k≤n∧y=.int .i64 k∧ListAt wr w2.heap.size lv ((List.range k).filter fun a=>decide (a≠s))∧Below w2.heap.size w2 wr) (fun _ y _=>n-(intOf y).toNat)
    case atStart=>exact⟨0,by omega,rfl,ListAt.nil _ _,Below.refl _ _⟩
    case round=>
      obtain⟨k,hk,rfl,hla,hbw⟩:=hrel;have HLA:=Lib.hid hla;have HBW:=Lib.hid hbw;have d4:=Below.old hbw e4;clear hla hbw;by_cases hlt:k<n
      · have hltI:(k:Int)<(n:Int):=by omega
        have h99:k<9:=by omega
        have hnext:=HNEXT.out k hlt;have hlen:((List.range k).filter fun a=>decide (a≠s)).length≤9:=Nat.le_trans (List.length_filter_le _ _) (by simp;omega);by_cases hin:k=s
        · rw[if_pos hin,List.append_nil] at hnext;have hinI:((k:Int) != (s:Int))=false:=by simp[hin]
          have HN:=Lib.hid hnext;clear hnext hin hlen;gi_wp2;refine⟨⟨k+1,by omega,by first|rfl|trivial,by rw[HN.out];exact HLA.out,HBW.out⟩,by simp[intOf];omega⟩
        · rw[if_neg hin] at hnext;have hinI:((k:Int) != (s:Int))=true:=bne_iff_ne.2 (by omega);have HN:=Lib.hid hnext;obtain⟨L,hL⟩:∃ L,(List.range k).filter (fun a=>decide (a≠s))=L:=⟨_,rfl⟩;rw[hL] at hlen HN;have hla:∀ X,(wr.alloc X).ownsRow w2.heap.size 3 1 u7 L.length (L.map intV):=fun X=>by rw[←hL];exact zu HLA.out ((Below.refl _ _).alloc (Nat.le_refl _) X)
          have HLA2:=Lib.hid hla;clear hnext hin hL hla
          gi_wp2_with
            (gi_at_builtin
             refine wpListIn_append_own _ rfl _ _ 27 rfl w2.heap.size 3 i0 (.int .i64 0) 1 8 ut27 HI0.out HZ0.out HZ1.out HZ2.out rfl (by decide) u7 L.length (L.map intV) rfl (HLA2.out _) ⟨_,0,none⟩ 1 1 [.int .i64 (k:Int)] rfl rfl (yw _ _ _) (by intro u hu;rcases List.mem_singleton.1 hu with rfl;rfl) (by simp[maxLen];omega) (by omega) (by have:=HBW.out.size;simp;omega) ?_;intro v' w4 hown4 hg4 hnil4;have HO:=Lib.hid hown4;have HG:=Lib.hid hg4;clear hg4 hnil4 hown4)
          refine⟨⟨k+1,by omega,by first|rfl|trivial,?_,(HBW.out.alloc HBW.out.size _).grown HG.out (by have:=HBW.out.size;simp;omega) fun g hg=>(zfb (HLA2.out (.cells #[.int .i64 (k:Int)] 3)) hg).1⟩,by simp[intOf];omega⟩;rw[HN.out];have h:=HO.out;show w4.ownsRow w2.heap.size 3 1 v' (L++[k]).length ((L++[k]).map intV);rw[List.map_append,List.length_append];exact h
      · obtain rfl:k=n:=by omega
        have hltI:¬(k:Int)<(k:Int):=by omega
        have hla:=HLA.out;rw[HO1.out] at hla;obtain⟨LU,lu,rfl,hlu,hiu⟩:=hla.shape;obtain⟨w6,hw6⟩:∃ w6,wr=w6:=⟨_,rfl⟩;subst hw6;have HB6:=Lib.hid (HB2.out.trans (HBW.out.mono HB2.out.size));have hso:=HSO.out LU lu wr HB6.out hlu hiu;have HS:=Lib.hid hso;have d0:=Below.old HBW.out e0;have d1:=Below.old HBW.out e1;have d2:=Below.old HBW.out e2;have d3:=Below.old HBW.out e3;clear hla hiu hso HLA e0 e1 e2 e3 e4
        gi_wp2_with (first
          | (gi_at_call 69;refine HS.out.mono ?_;rintro e w7 ⟨v7,rfl,hl7,hb7⟩
             obtain⟨LM,cm,rfl,hcm,_⟩:=hl7.read;have HL7:=Lib.hid hl7;have HB67:=Lib.hid hb7;clear hb7 hl7 HS)
          | (gi_at_call 74;refine(yAa wr.heap.size wr.heap.size LM cm M h600 HM.out M.length 0 [] (.slice none 0 0) w7.heap.size w7 (by omega) (by omega) ⟨List.nodup_nil,fun a h=>by cases h⟩ HL7.out HB67.out.size (ListAt.nil _ _)).mono ?_
             rintro e w8 ⟨v8,rfl,hl8,hb8⟩;have hl8':zS w8 w7.heap.size wr.heap.size v8 (refL M [] []):=hl8;obtain⟨LQ,cq,rfl,hcq,_⟩:=hl8'.read;have HB78:=Lib.hid hb8;clear hb8 hl8 hl8'))
        go_ret2
        refine⟨?_,HB6.out.trans ((HB67.out.trans (HB78.out.mono HB67.out.size)).mono HB6.out.size)⟩;rw[HE1.out];rfl
  · obtain⟨z,hz⟩:∃ z,askZ rs rl rw many n sh s=z:=⟨_,rfl⟩;have e1:withoutZ rs rl rw many n sh s=0:=by unfold withoutZ;rw[if_neg h0]
    rw[e1];rw[hz] at hck h0 ⊢;have HCK:=Lib.hid hck;clear hB1 hck hz e1;gi_enter Tryz.func29,Tryz.ntmps29
    gi_wp2_with (first
    | (gi_at_call 76;refine(HCK.out _ (HB1.out _)).mono ?_;rintro e w2 ⟨rfl,hb2⟩
       have e0:w2.cell? ⟨W.heap.size,0,none⟩=some (.int .i64 rs):=Below.old hb2 (by go_simp);have e1:w2.cell? ⟨W.heap.size,1,none⟩=some (.int .i64 rl):=Below.old hb2 (by go_simp);have e2:w2.cell? ⟨W.heap.size,2,none⟩=some (.int .i64 rw):=Below.old hb2 (by go_simp);have e3:w2.cell? ⟨W.heap.size,3,none⟩=some (.int .i64 many):=Below.old hb2 (by go_simp);have e4:w2.cell? ⟨W.heap.size,4,none⟩=some (.slice A n c):=Below.old hb2 (by go_simp);have HB2:=Lib.hid ((HB1.out _).trans (hb2.mono (HB1.out _).size));clear hb2))
    go_ret2
    exact⟨rfl,HB2.out⟩
end
section
open Go.RowKit Go.Cx Go.Conc
def yfc(P:Program)(o:Op):Prop:=∃(f:FuncId) (args:Array Operand) (ats:Array TypeId) (fn:Func),o=.call {callee:=.value (.func f),args,argTypes:=ats}∧P.funcs[f]? = some fn∧(fn.name == "runtime.NumGoroutine")=false∧fn.body.isNone=false
section
variable {F:Fence}{n:Nat}{P:Program}{Post:Act→World→Prop}{a:Act}{w:World}{b:Frame}{k:List Item}{cs:List Frame}
theorem comes_call{ops:Array Oper}{i:Nat}{l:List Nat}{o:Oper}{S:FuncId}{args:Array Value}{w1:World}{next:Act→World→Prop}(ho:ops[i]? = some o)(hw:Region.wanted o (yielded ops a.tmps)=true)(hro:b.roundOf=F.round)(hb:F.fn b.fn)(hr:F.room (cs.length+1+n))
  (hrun:(o.semAt F.round a.eval).run P w=.ok (.enter S args) w1) (h:o.wpIn F n P a w next (zJb Post)) :
  ∃ v w2,next (a.put o.dst v) w2∧Comes F P b cs a (.inRegion ops (i::l)::k) w (a.put o.dst v) (.inRegion ops l::k) w2:=by
 obtain⟨hab,h⟩:=h;rw[hrun] at h;simp only[Oper.uponIn] at h;obtain⟨hn,hF,h⟩:=h;have h0:(lone (b.atR a (.inRegion ops (i::l)::k)) cs w).fenced P F:=fenced_oper hb hr ho hab;have hg:=stepGR_op (P:=P) (b:=b) (k:=k) (cs:=cs) (w:=w) (rest:=l) ho hw;rw[hro] at hg;have hroom:F.room ((b.atR a (.inRegion ops (i::l)::k)::cs).length+1+(n-1)):=Fence.room_enter hr hn;obtain⟨e,w2,fr,hR,hsteps,hfn,hleave⟩:=h (b.atR a (.inRegion ops (i::l)::k)::cs) hroom;have henter:step P (lone (b.atR a (.inRegion ops (i::l)::k)) cs w)=.next (lone (Frame.enter P S args .normal) (b.atR a (.inRegion ops (i::l)::k)::cs) w1):=
  step_lone_go (by rw[hg];simp[stepG.apply,hrun,Frame.atR])
 cases e with
 |returned v=>
  refine⟨v,w2,hR,.head h0 henter (StepsIn.trans hsteps (.one (fenced_leaving (hfn▸hF) hroom hleave) ?_))⟩;have hfin:(b.atR a (.inRegion ops (i::l)::k)).finish v=b.atR (a.put o.dst v) (.inRegion ops l::k):=by rw[Frame.finish_atR,ho];rfl
  rw[←hfin];exact step_leave_returned hleave
 |panicked chain=>exact hR.elim
 |outgrown=>obtain⟨_,_,hq⟩:=hR;exact hq.elim
theorem comes_list{ops:Array Oper}(l:List Oper):∀(i:Nat) (rest:List Nat) (a:Act) (w:World),(∀ j,j<l.length→ops[i+j]? = l[j]?)→(∀ o∈l,reckons o.op=true∨yfc P o.op) →
  wpListIn F n P ops (zJb Post) l a w→b.roundOf=F.round→F.fn b.fn→F.room (cs.length+1+n) →
  ∃ a' w',Post a' w'∧Comes F P b cs a (.inRegion ops (List.range' i l.length++rest)::k) w a' (.inRegion ops rest::k) w':=by
 induction l with
 |nil=>exact fun i rest a w _ _ h _ _ _=>⟨a,w,h,.refl _⟩
 |cons o l ih=>
  intro i rest a w hops hall h hro hb hr;have ho:ops[i]? = some o:=by simpa using hops 0 (by simp)
  have hops':∀ j,j<l.length→ops[i+1+j]? = l[j]?:=fun j hj=>by have:=hops (j+1) (by simp;omega);simpa[Nat.add_assoc,Nat.add_comm 1 j] using this
  have hall':∀ o∈l,reckons o.op=true∨yfc P o.op:=fun o ho=>hall o (List.mem_cons_of_mem _ ho)
  rw[List.length_cons,List.range'_succ,List.cons_append];simp only[wpListIn] at h;by_cases hw:Region.wanted o (yielded ops a.tmps)=true
  ·rw[if_pos hw] at h;rcases hall o (List.mem_cons_self ..) with hrk|⟨f,args,ats,fn,hop,hf,hname,hbody⟩
   ·have h1:wpListIn F n P ops (zJb fun a w=>wpListIn F n P ops (zJb Post) l a w) [o] a w:=by
     simp only[wpListIn];rw[if_pos hw];refine⟨h.1,?_⟩;have h2:=h.2
     revert h2
     have hsem:o.semAt F.round a.eval=execOp a.eval o:=Oper.semAt_eq _ _ _ fun c hc=>by rw[hc] at hrk;exact absurd hrk (by simp[reckons])
     rw[hsem];rcases yOa hrk P w a.eval with⟨v,w1,hrun⟩|⟨x,w1,hrun⟩
     ·rw[hrun];exact fun h=>h
     ·rw[hrun];cases x<;>exact fun h=>h
    obtain⟨a1,w1,h2,h3⟩:=comes_pre (b:=b) (cs:=cs) (k:=k) (ops:=ops) [o] i (List.range' (i+1) l.length++rest) a w (fun j hj=>by simp at hj;subst hj;simpa using ho) (by simpa using hrk) h1 hro hb hr;obtain⟨a',w',hp,hs⟩:=ih (i+1) rest a1 w1 hops' hall' h2 hro hb hr;exact⟨a',w',hp,StepsIn.trans (by simpa using h3) hs⟩
   ·have hsem:o.semAt F.round a.eval=execOp a.eval o:=Oper.semAt_eq _ _ _ fun c hc=>by rw[hop] at hc;cases hc
    obtain⟨v,w2,h2,h3⟩:=comes_call (l:=List.range' (i+1) l.length++rest) ho hw hro hb hr (by rw[hsem];exact run_call_body hop hf hname hbody) h;obtain⟨a',w',hp,hs⟩:=ih (i+1) rest _ w2 hops' hall' h2 hro hb hr;exact⟨a',w',hp,StepsIn.trans h3 hs⟩
  ·rw[if_neg hw] at h;obtain⟨a',w',hp,hs⟩:=ih (i+1) rest _ _ hops' hall' h.2 hro hb hr;have hk:=stepR_op_skip (P:=P) (b:=b) (a:=a) (k:=k) (cs:=cs) (w:=w) (ops:=ops) (i:=i) (rest:=List.range' (i+1) l.length++rest) (by simp[ho];simpa using hw);simp only[ho,Option.bind_some] at hk;exact⟨a',w',hp,.head (fenced_oper hb hr ho h.1) hk hs⟩
theorem reach_list{S:Act→List Item→World→Prop}{ops:Array Oper}(t:Nat)(rest:List Nat)(hr2:List.range ops.size=List.range' 0 (ops.toList.take t).length++rest)(hall:∀ o∈ops.toList.take t,reckons o.op=true∨yfc P o.op)(hro:b.roundOf=F.round)(hb:F.fn b.fn)(hr:F.room (cs.length+1+n))
  (h:∀ R:Act→World→Prop,(∀ a' w',Reach F P b cs S a' (.inRegion ops rest::k) w'→R a' w')→wpListIn F n P ops (zJb R) (ops.toList.take t) a w):Reach F P b cs S a (.inRegion ops (List.range ops.size)::k) w:=by
 rw[hr2];obtain⟨a1,w1,⟨a',k',w',h1,h2⟩,h3⟩:=comes_list (b:=b) (cs:=cs) (k:=k) (ops.toList.take t) 0 rest a w (fun j hj=>by rw[Nat.zero_add,List.getElem?_take,if_pos (Nat.lt_of_lt_of_le hj (List.length_take_le ..))];simp) hall (h (fun a' w'=>Reach F P b cs S a' (.inRegion ops rest::k) w') fun a' w' h=>h) hro hb hr;exact⟨a',k',w',h1,h3.trans h2⟩
end
end
section
open Go.RowKit Go.Cx Go.Conc
noncomputable def A4:Code:=match Tryz.f4.body with
 |some c=>c
 |none=>.skip
theorem fin4:Fc.fn (lawFr 4).fn:=by show(4:FuncId)∈_;simp
theorem room4:Fc.room (([]:List Frame).length+1+0):=fun d hd=>by cases hd
abbrev SeekS(W:World)(a:Act)(k:List Item)(w:World):Prop:=zLb 14 4 85 a k∧Below W.heap.size W w
def BoxS(rs rl rw many:Int)(w:World)(p:Nat)(v:Value):Prop:=w.heap[p]? = some (.cells #[.int .i64 rs,.int .i64 rl,.int .i64 rw,.int .i64 many,v] 26 (0,0))
section
variable {rs rl rw many:Int}{w:World}{p:Nat}{v:Value}
theorem BoxS.lt(h:BoxS rs rl rw many w p v):p<w.heap.size:=(Array.getElem?_eq_some_iff.1 h).1
theorem BoxS.below{w':World}(h:BoxS rs rl rw many w p v)(hb:Below w.heap.size w w'):BoxS rs rl rw many w' p v:=(hb.block p h.lt).trans h
theorem BoxS.cells(h:BoxS rs rl rw many w p v):w.cell? ⟨p,0,none⟩=some (.int .i64 rs)∧w.cell? ⟨p,1,none⟩=some (.int .i64 rl)∧w.cell? ⟨p,2,none⟩=some (.int .i64 rw)∧w.cell? ⟨p,3,none⟩=some (.int .i64 many)∧w.cell? ⟨p,4,none⟩=some v:=by unfold BoxS at h;refine⟨?_,?_,?_,?_,?_⟩<;>simp[World.cell?,h]
theorem zlc.below{w w':World}{v:Value}{M:List (List Nat)}(h:zlc w v M)(hb:Below w.heap.size w w'):zlc w' v M:=by obtain⟨LA,lc,e,h1,h2⟩:=h;exact⟨LA,lc,e,h1,fun k hk=>by obtain⟨b,o,LX,kx,e,q1,q2,q3⟩:=h2 k hk;exact⟨b,o,LX,kx,e,Below.old hb q1,q2,q3.below hb⟩⟩
end
theorem sets_small(rs rl rw many:Int)(n:Nat)(sh:Nat→Shaft):(setsXZ rs rl rw many n sh).length≤600∧∀ k,k<(setsXZ rs rl rw many n sh).length→((setsXZ rs rl rw many n sh).getD k []).length≤9:=by
 unfold setsXZ;split
 ·next h=>have hst:=yn h;have h0:=hst.rule.m0;have h4:=hst.rule.m1;refine⟨by rw[←refSets_all];exact yP (by rw[List.length_range];exact hst.count),fun k hk=>?_⟩;have hm:(setsX rs rl rw sh n many.toNat).getD k []∈setsX rs rl rw sh n many.toNat:=yp hk;have:=(setsX_iff.1 hm).2.2.1;omega
 ·exact⟨by simp,fun k hk=>by simp at hk⟩
theorem fill_small(rs rl rw many:Int)(n:Nat)(sh:Nat→Shaft)(hn:n≤20):(fillX rs rl rw many n sh).length≤600∧(∀ k,k<(fillX rs rl rw many n sh).length→((fillX rs rl rw many n sh).getD k []).length≤9)∧(leftX rs rl rw many n sh).length≤20:=by
 unfold fillX leftX;split
 ·next h=>
  have hst:=yn h;have h0:=hst.rule.m0;have h4:=hst.rule.m1;refine⟨Nat.le_trans (share_few ..) (by omega),fun k hk=>?_,Nat.le_trans (List.length_filter_le _ _) (by simpa using hn)⟩;have hm:(zgc rs rl rw sh n many.toNat fun _=>false).getD k []∈zgc rs rl rw sh n many.toNat fun _=>false:=yp hk
  have:=(setsX_iff.1 (yeb hm)).2.2.1;omega
 ·exact⟨by simp,fun k hk=>by simp at hk,by simp⟩
theorem sets_walk(rs rl rw many:Int)(A:Option Addr)(n c:Nat)(sh:Nat→Shaft)(s:Int)(W:World)(hc:n≤c)(hsh:Hid (zA W A n sh)) :
    Reach Fc Tryz.prog (lawFr 4) [] (SeekS W) {tmps:=#[zga rs rl rw many A n c,.int .i64 s]++Array.replicate 83 undef,defers:=[]} [.code A4] W:=by
  generalize hS:SeekS W=S;have HS:=Lib.hid hS;clear hS;simp only[A4,Tryz.f4];simp only[List.size_toArray,List.length_cons,List.length_nil,Nat.reduceAdd,Nat.reduceSub,Array.replicate_succ,Array.replicate_zero,List.push_toArray,List.append_toArray,List.nil_append,List.cons_append];refine zK fin4 room4 ?_;refine zO (n:=0) rfl fin4 room4 fun R hR=>?_
  have HR:=Lib.hid hR;clear hR;gi_wp2;change R _ _;refine HR.out _ _ ?_;clear HR;obtain⟨w1,hw1⟩:∃ w,w=W.alloc (.cells #[.int .i64 rs,.int .i64 rl,.int .i64 rw,.int .i64 many,.slice A n c] 26):=⟨_,rfl⟩;rw[←hw1];have hb1:Below W.heap.size W w1:=by rw[hw1];exact(Below.refl _ _).alloc (Nat.le_refl _) _
  have hx0:BoxS rs rl rw many w1 W.heap.size (.slice A n c):=by rw[hw1];exact heap_alloc_new _ _
  have HB1:=Lib.hid hb1;have HX:=Lib.hid hx0;obtain⟨e0,e1,e2,e3,e4⟩:=hx0.cells;clear hb1 hw1 hx0;refine zK fin4 room4 (zK fin4 room4 ?_);refine zO (n:=0) rfl fin4 room4 fun R hR=>?_
  have HR:=Lib.hid hR;clear hR
  gi_wp2_with (gi_at_call 13;refine(Great_any _ _ _ _ _ _ _ sh _ hc (Lib.hid (hsh.out.below HB1.out))).mono ?_;rintro e w2 ⟨gr,rfl,hgr,hb2⟩
               have HX:=Lib.hid (HX.out.below hb2);have HB2:=Lib.hid (HB1.out.trans (hb2.mono HB1.out.size));have HGR:=Lib.hid hgr;clear hb2 hgr e0 e1 e2 e3 e4)
  change R _ _;refine HR.out _ _ ?_;clear HR;refine yja gr rfl fin4 room4 ?_;cases gr with
  |true=>simp only[if_true];refine zK fin4 room4 (yCa fin4 room4 (Reach.here ?_));rw[←HS.out];exact⟨.early _ _ _ 0 1 15 ⟨⟨_,rfl,rfl,rfl,rfl⟩,⟨_,rfl,rfl,rfl,rfl⟩⟩ (by omega) rfl rfl,HB2.out⟩
  |false=>
    simp only[Bool.false_eq_true,if_false];refine yia (n:=0) fin4 room4 rfl ?_;obtain⟨hn,hnm⟩:=HGR.out rfl;have HNM:Hid (∀ k,k<n→(sh k).name.size≤100):=Lib.hid hnm;have c1:=fun w (hb:Below W.heap.size W w)=>Sets_exact rs rl rw many A n c sh w hn hc (Lib.hid (hsh.out.below hb)) HNM yn
    have c2:=fun w (hb:Below W.heap.size W w)=>RefSets_exact rs rl rw many A n c sh w hc (Lib.hid (hsh.out.below hb)) HNM
    have c3:=fun w (hb:Below W.heap.size W w)=>Fill_exact rs rl rw many A n c sh w hn hc (Lib.hid (hsh.out.below hb)) HNM
    have c4:=fun w (hb:Below W.heap.size W w)=>RefFill_exact rs rl rw many A n c sh w hc (Lib.hid (hsh.out.below hb)) HNM
    have c5:=fun w (hb:Below W.heap.size W w)=>Without_exact rs rl rw many A n c sh s w hn hc (Lib.hid (hsh.out.below hb)) HNM
    have c6:=fun w (hb:Below W.heap.size W w)=>RefWithout_exact rs rl rw many A n c sh s w hn hc (Lib.hid (hsh.out.below hb)) HNM
    have k1:=sets_small rs rl rw many n sh;have k2:=fill_small rs rl rw many n sh hn;generalize setsXZ rs rl rw many n sh=M at c1 c2 k1;generalize fillX rs rl rw many n sh=E at c3 c4 k2;generalize leftX rs rl rw many n sh=L at c3 c4 k2;generalize stockZ rs rl rw many n sh=z at c1 c2 c3 c4;generalize withoutZ rs rl rw many n sh s=wn at c5 c6;generalize askZ rs rl rw many n sh s=az at c5 c6;have H1:=Lib.hid c1;have H2:=Lib.hid c2;have H3:=Lib.hid c3;have H4:=Lib.hid c4;have H5:=Lib.hid c5;have H6:=Lib.hid c6;have K1:=Lib.hid k1;have K2:=Lib.hid k2;clear c1 c2 c3 c4 c5 c6 k1 k2 HGR hnm;refine zK fin4 room4 ?_;refine zO (n:=0) rfl fin4 room4 fun R hR=>?_
    have HR:=Lib.hid hR;clear hR;obtain⟨e0,e1,e2,e3,e4⟩:=HX.out.cells
    gi_wp2_with (gi_at_call 22;refine(H1.out _ HB2.out).mono ?_;rintro e w3 ⟨v3,rfl,hl,hb⟩;have HV3:=Lib.hid hl;clear hl
                 have HX:=Lib.hid (HX.out.below hb);have HW3:=Lib.hid hb;have HB3:=Lib.hid (HB2.out.trans (hb.mono HB2.out.size));clear hb e0 e1 e2 e3 e4)
    change R _ _;refine HR.out _ _ ?_;clear HR;refine zK fin4 room4 ?_;refine zO (n:=0) rfl fin4 room4 fun R hR=>?_
    have HR:=Lib.hid hR;clear hR;obtain⟨e0,e1,e2,e3,e4⟩:=HX.out.cells
    gi_wp2_with (gi_at_call 23;refine(H2.out _ HB3.out).mono ?_;rintro e w4 ⟨v4,rfl,hl,hb⟩;have HV4:=Lib.hid hl;clear hl
                 have HX:=Lib.hid (HX.out.below hb);have HW4:=Lib.hid hb;have HB4:=Lib.hid (HB3.out.trans (hb.mono HB3.out.size));clear hb e0 e1 e2 e3 e4)
    change R _ _;refine HR.out _ _ ?_;clear HR;obtain⟨LA,la,rfl,hla,_⟩:=HV3.out.read;obtain⟨LB,lb,rfl,hlb,_⟩:=HV4.out.read;have hsame:=yga LA LB la lb M w4 K1.out.1 K1.out.2 hla hlb (Lib.hid (HV3.out.read.below HW4.out)) (Lib.hid HV4.out.read);have HSAME:=Lib.hid hsame;clear hsame;refine zK fin4 room4 (zK fin4 room4 ?_);refine zO (n:=0) rfl fin4 room4 fun R hR=>?_
    have HR:=Lib.hid hR;clear hR
    gi_wp2_with (gi_at_call 24;refine HSAME.out.mono ?_;rintro e w5 ⟨rfl,hb⟩
                 have HX:=Lib.hid (HX.out.below hb);have HB5:=Lib.hid (HB4.out.trans (hb.mono HB4.out.size));clear hb)
    change R _ _;refine HR.out _ _ ?_;clear HR HSAME HV3 HV4 HW3 HW4;refine yja false (by first|rfl|(simp;done)) fin4 room4 ?_;simp only[Bool.false_eq_true,if_false];refine yia (n:=0) fin4 room4 rfl ?_;refine zK fin4 room4 ?_;refine zO (n:=0) rfl fin4 room4 fun R hR=>?_
    have HR:=Lib.hid hR;clear hR;obtain⟨e0,e1,e2,e3,e4⟩:=HX.out.cells
    gi_wp2_with (gi_at_call 25;refine(H3.out _ HB5.out).mono ?_;rintro e w6 ⟨v6,u6,rfl,hl,hu,hb⟩;have HV6:=Lib.hid hl;have HU6:=Lib.hid hu;clear hl hu
                 have HX:=Lib.hid (HX.out.below hb);have HW6:=Lib.hid hb;have HB6:=Lib.hid (HB5.out.trans (hb.mono HB5.out.size));clear hb e0 e1 e2 e3 e4)
    change R _ _;refine HR.out _ _ ?_;clear HR;refine zK fin4 room4 ?_;refine zO (n:=0) rfl fin4 room4 fun R hR=>?_
    have HR:=Lib.hid hR;clear hR;obtain⟨e0,e1,e2,e3,e4⟩:=HX.out.cells
    gi_wp2_with (gi_at_call 26;refine(H4.out _ HB6.out).mono ?_;rintro e w7 ⟨v7,u7,rfl,hl,hu,hb⟩;have HV7:=Lib.hid hl;have HU7:=Lib.hid hu;clear hl hu
                 have HX:=Lib.hid (HX.out.below hb);have HW7:=Lib.hid hb;have HB7:=Lib.hid (HB6.out.trans (hb.mono HB6.out.size));clear hb e0 e1 e2 e3 e4)
    change R _ _;refine HR.out _ _ ?_;clear HR;obtain⟨LE,le,rfl,hle,_⟩:=HV6.out.read;obtain⟨LF,lf,rfl,hlf,_⟩:=HV7.out.read;obtain⟨LG,lg,rfl,hlg,hig⟩:=HU6.out.shape;obtain⟨LH,lh,rfl,hlh,hih⟩:=HU7.out.shape;have hsame:=yga LE LF le lf E w7 K2.out.1 K2.out.2.1 hle hlf (Lib.hid (HV6.out.read.below HW7.out)) (Lib.hid HV7.out.read);have hnum:=fun w (hb:Below w7.heap.size w7 w)=>yDa LG LH L.length lg L.length lh (fun j=>L.getD j 0) (fun j=>L.getD j 0) w K2.out.2.2 K2.out.2.2 hlg hlh (Lib.hid ((hig.below HW7.out).below hb)) (Lib.hid (hih.below hb))
    have HSAME:=Lib.hid hsame;have HNUM:=Lib.hid hnum;clear hsame hnum hig hih;refine zK fin4 room4 (zK fin4 room4 ?_);refine zO (n:=0) rfl fin4 room4 fun R hR=>?_
    have HR:=Lib.hid hR;clear hR
    gi_wp2_with (first
      | (gi_at_call 24;refine HSAME.out.mono ?_;rintro e w8 ⟨rfl,hb⟩
         have HX:=Lib.hid (HX.out.below hb);have HW8:=Lib.hid hb;have HB8:=Lib.hid (HB7.out.trans (hb.mono HB7.out.size));clear hb HSAME)
      | (gi_at_call 27;refine(HNUM.out _ HW8.out).mono ?_;rintro e w9 ⟨g,rfl,hg,hb⟩
         obtain rfl:g=true:=hg.2 (by simp);have HX:=Lib.hid (HX.out.below hb);have HB9:=Lib.hid (HB8.out.trans (hb.mono HB8.out.size));clear hb hg HNUM))
    change R _ _;refine HR.out _ _ ?_;clear HR HV6 HV7 HU6 HU7 HW6 HW7 HW8;refine yja false (by first|rfl|(simp;done)) fin4 room4 ?_;simp only[Bool.false_eq_true,if_false];refine yia (n:=0) fin4 room4 rfl ?_;refine zK fin4 room4 ?_;refine zO (n:=0) rfl fin4 room4 fun R hR=>?_
    have HR:=Lib.hid hR;clear hR;obtain⟨e0,e1,e2,e3,e4⟩:=HX.out.cells
    gi_wp2_with (gi_at_call 28;refine(H5.out _ HB9.out).mono ?_;rintro e w10 ⟨rfl,hb⟩
                 have HX:=Lib.hid (HX.out.below hb);have HW10:=Lib.hid hb;have HB10:=Lib.hid (HB9.out.trans (hb.mono HB9.out.size));clear hb e0 e1 e2 e3 e4)
    change R _ _;refine HR.out _ _ ?_;clear HR;refine zK fin4 room4 ?_;refine zO (n:=0) rfl fin4 room4 fun R hR=>?_
    have HR:=Lib.hid hR;clear hR;obtain⟨e0,e1,e2,e3,e4⟩:=HX.out.cells
    gi_wp2_with (gi_at_call 29;refine(H6.out _ HB10.out).mono ?_;rintro e w11 ⟨rfl,hb⟩
                 have HX:=Lib.hid (HX.out.below hb);have HW11:=Lib.hid hb;have HB11:=Lib.hid (HB10.out.trans (hb.mono HB10.out.size));clear hb e0 e1 e2 e3 e4)
    change R _ _;refine HR.out _ _ ?_;clear HR;refine zK fin4 room4 (yCa fin4 room4 ?_);refine reach_list (n:=0) 9 [9,10,11] rfl (fun o ho=>?_) rfl fin4 room4 fun R hR=>?_
    · simp only[List.take_succ_cons,List.take_zero,List.mem_cons,List.not_mem_nil,or_false] at ho;rcases ho with rfl|rfl|rfl|rfl|rfl|rfl|rfl|rfl|rfl
      all_goals exact .inl rfl
    have HR:=Lib.hid hR;clear hR;simp only[List.take_succ_cons,List.take_zero];gi_wp2;change R _ _;refine HR.out _ _ (Reach.here ?_);rw[←HS.out];exact⟨.late _ _ _ 9 10 11 8 82 83 84 ⟨⟨_,rfl,rfl,rfl,rfl⟩,rfl,⟨_,rfl,rfl,rfl,rfl⟩,⟨_,rfl,rfl,rfl,rfl⟩,by decide⟩ (by omega) (by omega) rfl rfl (by first|rfl|(simp;done)|(simp;assumption)) (by omega),HB11.out⟩
end
section
open Go.RowKit Go.Cx Go.Conc
end
section
open Go.RowKit Go.Cx Go.Conc
theorem yAb:zfa Tryz.prog Fc.fn:=fenceOk_of (L:=[7,33,34,15,13,18,55,56,57,58,59,62,63,64,65,66,77,96,97,98,99,100,101,102,103,104,105,106,107,108,109,110,124,138,78,159,160,161,125,172,3,5,6,8,16,17,19,20,21,30,31,32,35,36,37,38,39,40,41,43,60,61,67,75,76,79,80,81,82,83,84,111,123,22,25,28,68,71,72,73,112,114,115,116,117,118,119,120,121,137,139,140,141,142,157,158,23,24,26,27,29,69,70,74,113,122,4,9,10,11,12,42,44,45]) (by kernel_rfl)
theorem shafts_strike{W:World}{A:Option Addr}{n:Nat}{sh:Nat→Shaft}(h:zA W A n sh):zA (strike W) A n sh:=fun k hk=>by
 obtain⟨b,o,e,hx⟩:=h k hk;have c:=fun a=>(twin_strike W fun _=>True).cell a
 exact⟨b,o,e,by rw[←c];exact hx.h0,by rw[←c];exact hx.h1,by rw[←c];exact hx.h2,by rw[←c];exact hx.h3,by rw[←c];exact hx.h4,by rw[←c];exact hx.h5,by rw[←c];exact hx.h6⟩
theorem shot_there:∃ fn,Tryz.prog.funcs[14]? = some fn∧(fn.name == "runtime.NumGoroutine")=false∧fn.body.isNone=false:=⟨_,Tryz.func14,by kernel_rfl,by kernel_rfl⟩
theorem law_calls{f:FuncId}{r z:Nat}{C0:Code}{a0:Act}{args:Array Value}{W:World}(hen:Frame.enter Tryz.prog f args .normal=(lawFr f).atR a0 [.code C0])(hin:Fc.fn f)
  (h:Reach Fc Tryz.prog (lawFr f) [] (fun a k w=>zLb 14 r z a k∧Below (strike W).heap.size (strike W) w) a0 [.code C0] (strike W)) :
  ∃ a k w N t,zLb 14 r z a k∧Below W.heap.size W w∧Lone t∧runNT Tryz.prog N (solo (G (Frame.enter Tryz.prog f args .normal) []) W) #[]=(.next (solo (G (Frame.enter Tryz.prog 14 #[] .normal) [(lawFr f).at a k]) w),t):=by
 obtain⟨a,k,v,⟨hat,hb⟩,hs⟩:=h;have hs:StepsIn (Machine.fenced Tryz.prog Fc) Tryz.prog (lone (Frame.enter Tryz.prog f args .normal) [] (strike W)) (lone ((lawFr f).atR a k) [] v):=by rw[hen];exact hs
 obtain⟨N,w,t,hr,hl,htw⟩:=chain_calm (Fc:=Fc) (B:=⟨W,zka Tryz.prog Fc.fn⟩) (fun l=>Iff.rfl) rfl yAb hs (G (Frame.enter Tryz.prog f args .normal) []) (strike W) W #[] rfl
  ⟨_,[],rfl,frIn_enter yAb hin _,.inl rfl,fun c h=>by simp at h⟩ (twin_strike W _) (fun op h=>by simp at h) ((lawFr f).atR a k) [] v rfl rfl
 have hsz:(strike W).heap.size=W.heap.size:=by simp[strike]
 rw[hsz] at hb;refine⟨a,k,w,N+1,t,hat,twin_below htw hb,hl,?_⟩;rw[runNT_add,hr];simp only[Frame.atR_of_none (show(lawFr f).roundOf=none from rfl),runNT,stepT_solo (show(G ((lawFr f).at a k) []).status=.running from rfl),runT_solo_go (call_step shot_there hat w)];simp[MemOp.ofEvents]
theorem env_below{w w1:World}(h:Env (OldL w) w w1):Below w.heap.size w w1 where
 os:=h.os
 tape:=h.tape
 output:=h.output
 size:=h.size
 block:=by
  intro k hk;have hs:=h.same k w.heap[k] (by simp[hk]);rw[Array.getElem?_eq_getElem hk];cases ho:w.heap[k] with
  |cells c e fr=>
   rw[ho] at hs;obtain⟨c',h1,h2,h3⟩:=hs;rw[h1];have:c'=c:=by apply Array.ext h2;intro i hi hi';have:=h3 i ⟨k,rfl,hk⟩;rw[Array.getElem?_eq_getElem hi,Array.getElem?_eq_getElem hi'] at this;exact Option.some.inj this
   rw[this]
  |_=>rw[ho] at hs;exact hs ⟨k,rfl,hk⟩
theorem entry_rel(hp:TabOk Tryz.tab)(b:Frame)(w:World):XRel (fun _=>none) (fun _=>False) (fun _=>False) [b] Tryz.x0 (G (Frame.enter Tryz.prog 14 #[] .normal) [b]) w:=by
 obtain⟨fr,he⟩:∃ fr,zIa Tryz.tab 14 [] false=some fr:=by
  cases h:zIa Tryz.tab 14 [] false with
  |some fr=>exact⟨fr,rfl⟩
  |none=>exact absurd (show(zIa Tryz.tab 14 [] false).isSome=true by kernel_rfl) (by rw[h];simp)
 have hr:=zib (f:=fun _=>none) hp (args':=#[]) (kind:=.normal) .nil he rfl;unfold Tryz.x0;rw[he];refine .plain (Bd:=0) ⟨⟨_,[],rfl,hr,.nil⟩,?_⟩ (Nat.zero_le _) .nil;exact{
  wf:=⟨fun b o h=>by simp[T.get] at h,fun b c x r ba m h=>by simp[T.get] at h,fun r m h=>by simp[members,T.get] at h⟩
  obj:=fun b x h=>by cases h
  mine:=fun b x h=>by cases h
  part:=fun b x i h=>by cases h
  apart:=fun b b' x x' o o' h=>by cases h
  coord:=fun b b' x x' o o' h=>by cases h
  home:=fun b x h=>by cases h}
theorem law_run{f:FuncId}{fl:Func}{r z:Nat}{C0:Code}{a0:Act}{args:Array Value}{W:World}(hen:Frame.enter Tryz.prog f args .normal=(lawFr f).atR a0 [.code C0])(hin:Fc.fn f)(hfl:Tryz.prog.funcs[f]? = some fl)(hres:fl.results=#[.tmp r])(hrz:r<z)
  (h:Reach Fc Tryz.prog (lawFr f) [] (fun a k w=>zLb 14 r z a k∧Below (strike W).heap.size (strike W) w) a0 [.code C0] (strike W)) :
  ∃ M last o w' t',runNT Tryz.prog (M+1) (solo (G (Frame.enter Tryz.prog f args .normal) []) W) #[]=(.ended o w',t') ∧
   runN Tryz.prog M (solo (G (Frame.enter Tryz.prog f args .normal) []) W)=.next last∧Go.step Tryz.prog last=.ended o w' ∧
   Go.Conc.Good Tryz.prog (fun v w1=>v=.bool true∧Below W.heap.size W w1) last o w' t':=by
 obtain⟨a,k,w,N,t,hat,hb,hl,hr⟩:=law_calls hen hin h;obtain⟨K,last,o,w2,t2,h1,h2,h3,h4⟩:=Tryz.shot_run (b:=(lawFr f).at a k) (bot:=[]) (sl:=none) hl (fun l h=>h.elim) (entry_rel Tryz.tabOk _ w) (Post:=fun v w1=>v=.bool true∧Env (OldL w) w w1) (n:=4) (fun w' he=>after_callG yAb hin hfl hres hrz hat he);rw[←solo_eq_crowd] at h1 h2;obtain⟨r1,r2⟩:=run_then hr h1 h2;exact⟨N+K,last,o,w2,t2,r1,r2,h3,h4.mono fun v hp=>⟨hp.1,hb.trans ((env_below hp.2).mono hb.size)⟩⟩
end
section
open Go.RowKit Go.ChangeShapes Go.WideShapes Go.Joins
def zZa(P:Program)(t:TypeId):Option (List (Nat×TypeId)):=match P.underlying t with
 |some (.struct fs)=>some (fs.toList.map fun f=>(f.offset,f.type))
 |_=>none
theorem yra{P:Program}{t:TypeId}{o0 o1:Nat}{t0 t1:TypeId}(h:zZa P t=some [(o0,t0),(o1,t1)]):∃ f0 f1:Field,P.underlying t=some (.struct #[f0,f1])∧f0.offset=o0∧f0.type=t0∧f1.offset=o1∧f1.type=t1:=by
 unfold zZa at h;split at h
 ·next fs e=>
  obtain⟨l⟩:=fs
  match l,h with
  | [f0,f1],h=>simp at h;exact⟨f0,f1,e,h.1.1,h.1.2,h.2.1,h.2.2⟩
  | [],h=>simp at h
  | [_],h=>simp at h
  |_::_::_::_,h=>simp at h
 ·cases h
theorem yWa{P:Program}{t:TypeId}{o0 o1 o2 o3:Nat}{t0 t1 t2 t3:TypeId}(h:zZa P t=some [(o0,t0),(o1,t1),(o2,t2),(o3,t3)]) :
  ∃ f0 f1 f2 f3:Field,P.underlying t=some (.struct #[f0,f1,f2,f3])∧f0.offset=o0∧f0.type=t0∧f1.offset=o1∧f1.type=t1∧f2.offset=o2∧f2.type=t2∧f3.offset=o3∧f3.type=t3:=by
 unfold zZa at h;split at h
 ·next fs e=>
  obtain⟨l⟩:=fs
  match l,h with
  | [f0,f1,f2,f3],h=>simp at h;obtain⟨⟨h1,h2⟩,⟨h3,h4⟩,⟨h5,h6⟩,h7,h8⟩:=h;exact⟨f0,f1,f2,f3,e,h1,h2,h3,h4,h5,h6,h7,h8⟩
  | [],h=>simp at h
  | [_],h=>simp at h
  | [_,_],h=>simp at h
  | [_,_,_],h=>simp at h
  |_::_::_::_::_::_,h=>simp at h
 ·cases h
theorem fo26:zZa Tryz.prog 26=some [(0,23),(4,24)]:=by kernel_rfl
theorem fo23:zZa Tryz.prog 23=some [(0,3),(1,3),(2,3),(3,3)]:=by kernel_rfl
theorem fo52:zZa Tryz.prog 52=some [(0,3),(1,3)]:=by kernel_rfl
theorem fo65:zZa Tryz.prog 65=some [(0,9),(1,52),(3,52),(5,52)]:=by kernel_rfl
theorem ul24:Tryz.prog.underlying 24=some (.slice 65):=by kernel_rfl
theorem ul3:Tryz.prog.underlying 3=some (.int .i64):=by kernel_rfl
theorem ul9:Tryz.prog.underlying 9=some .string:=by kernel_rfl
theorem co26:Tryz.prog.cellsOf 26=5:=by kernel_rfl
theorem co23:Tryz.prog.cellsOf 23=4:=by kernel_rfl
theorem co24:Tryz.prog.cellsOf 24=1:=by kernel_rfl
theorem co3:Tryz.prog.cellsOf 3=1:=by kernel_rfl
theorem co9:Tryz.prog.cellsOf 9=1:=by kernel_rfl
theorem co52:Tryz.prog.cellsOf 52=2:=by kernel_rfl
theorem co65:Tryz.prog.cellsOf 65=7:=by kernel_rfl
section
variable {H:Type}{enc:TypeId×Value→H}{W:World}{base:Nat}{sp:Nat→Bool}{held:Bool}
theorem yPa{fuel:Nat}{c0 c1:Value}{x:DataW H×List MemPlace}(h:DataW.trod enc Tryz.prog W base sp held fuel 52 [c0,c1]=some x):∃ u v:Int,c0=.int .i64 u∧c1=.int .i64 v:=by obtain⟨f0,f1,e,a0,b0,a1,b1⟩:=yra fo52;obtain⟨y0,y1,n,_,_,t0,t1⟩:=trod_struct2 e h;rw[a0,b0,co3] at t0;rw[a1,b1,co3] at t1;obtain⟨u,h0,_⟩:=DataW.trod_int ul3 t0;obtain⟨v,h1,_⟩:=DataW.trod_int ul3 t1;simp at h0 h1;exact⟨u,v,h0,h1⟩
theorem open_rule{fuel:Nat}{c0 c1 c2 c3:Value}{x:DataW H×List MemPlace}(h:DataW.trod enc Tryz.prog W base sp held fuel 23 [c0,c1,c2,c3]=some x) :
  ∃ a b c d:Int,c0=.int .i64 a∧c1=.int .i64 b∧c2=.int .i64 c∧c3=.int .i64 d:=by
 obtain⟨f0,f1,f2,f3,e,a0,b0,a1,b1,a2,b2,a3,b3⟩:=yWa fo23;obtain⟨y0,y1,y2,y3,n,_,_,t0,t1,t2,t3⟩:=trod_struct4 e h;rw[a0,b0,co3] at t0;rw[a1,b1,co3] at t1;rw[a2,b2,co3] at t2;rw[a3,b3,co3] at t3;obtain⟨u0,h0,_⟩:=DataW.trod_int ul3 t0;obtain⟨u1,h1,_⟩:=DataW.trod_int ul3 t1;obtain⟨u2,h2,_⟩:=DataW.trod_int ul3 t2;obtain⟨u3,h3,_⟩:=DataW.trod_int ul3 t3;simp at h0 h1 h2 h3;exact⟨u0,u1,u2,u3,h0,h1,h2,h3⟩
theorem yjb{fuel:Nat}{cs:List Value}{x:DataW H×List MemPlace}(h:DataW.trod enc Tryz.prog W base sp held fuel 65 cs=some x) :
  ∃ y:Shaft,cs=[.string y.name,.int .i64 y.s0,.int .i64 y.s1,.int .i64 y.l0,.int .i64 y.l1,.int .i64 y.w0,.int .i64 y.w1]:=by
 obtain⟨f0,f1,f2,f3,e,a0,b0,a1,b1,a2,b2,a3,b3⟩:=yWa fo65;obtain⟨y0,y1,y2,y3,n,_,hl,t0,t1,t2,t3⟩:=trod_struct4 e h;rw[co65] at hl
 match cs,hl with
 | [c0,c1,c2,c3,c4,c5,c6],_=>rw[a0,b0,co9] at t0;rw[a1,b1,co52] at t1;rw[a2,b2,co52] at t2;rw[a3,b3,co52] at t3;simp only[List.drop,List.take] at t0 t1 t2 t3;obtain⟨s,h0,_⟩:=DataW.trod_string ul9 t0;obtain⟨u1,v1,rfl,rfl⟩:=yPa t1;obtain⟨u2,v2,rfl,rfl⟩:=yPa t2;obtain⟨u3,v3,rfl,rfl⟩:=yPa t3;simp at h0;subst h0;exact⟨⟨s,u1,v1,u2,v2,u3,v3⟩,rfl⟩
theorem add_spot{a:Addr}{w:World}{v:Value}{k:Nat}(h:w.cell? (a.add k)=some v)(hk:k=0):a=⟨a.block,a.off,none⟩:=by
 subst hk;simp only[Addr.add,if_true] at h;unfold World.cell? at h;obtain⟨b,o,sp⟩:=a;cases sp with
 |none=>rfl
 |some s=>
  dsimp only at h;split at h
  ·simp at h
  ·cases h
theorem open_shafts{fuel:Nat}{v:Value}{x:DataW H×List MemPlace}(h:DataW.trod enc Tryz.prog W base sp held fuel 24 [v]=some x):∃(A:Option Addr) (n c:Nat) (sh:Nat→Shaft),v=.slice A n c∧n≤c∧zA W A n sh:=by
 rcases Go.Deep.open_slice ul24 h with⟨h0,_⟩|⟨a,len,cap,m,n,D,Pl,h0,hb,hl,hm,hmm,rfl,hx⟩
 ·simp at h0;subst h0;exact⟨none,0,0,fun _=>⟨.empty,0,0,0,0,0,0⟩,rfl,Nat.le_refl _,fun k hk=>by omega⟩
 ·simp at h0;subst h0;have hlm:len≤m:=by rw[hmm];split<;>omega
  have each:∀ i,i<len→∃ y:Shaft,a=⟨a.block,a.off,none⟩∧zKb W a.block (a.off+i*7) y:=by
   intro i hi;obtain⟨cs',h1,h2⟩:=hx i (by omega);rw[co65] at h1;obtain⟨_,hlen,hcell⟩:=World.cells?_some h1;obtain⟨y,rfl⟩:=yjb h2;have hsp:a=⟨a.block,a.off,none⟩:=by
    obtain⟨cs0,g1,g2⟩:=hx 0 (by omega);rw[co65] at g1;obtain⟨_,glen,gcell⟩:=World.cells?_some g1;obtain⟨z,rfl⟩:=yjb g2;have g0:=gcell 0 (by omega);simp only[Nat.zero_mul] at g0;have g3:((a.add 0).add 0)=a.add 0:=by simp[Addr.add]
    rw[g3] at g0;exact add_spot (k:=0) g0 rfl
   refine⟨y,hsp,?_⟩;have key:∀ j,(a.add (i*7)).add j=⟨a.block,a.off+i*7+j,none⟩:=by intro j;rw[hsp];unfold Addr.add;by_cases h1:i*7=0<;>by_cases h2:j=0<;>simp[h1,h2]
   have e0:=hcell 0 (by omega);have e1:=hcell 1 (by omega);have e2:=hcell 2 (by omega);have e3:=hcell 3 (by omega);have e4:=hcell 4 (by omega);have e5:=hcell 5 (by omega);have e6:=hcell 6 (by omega);rw[key] at e0 e1 e2 e3 e4 e5 e6;exact⟨by simpa using e0,by simpa using e1,by simpa using e2,by simpa using e3,by simpa using e4,by simpa using e5,by simpa using e6⟩
  refine⟨some a,len,cap,fun i=>if hi:i<len then(each i hi).choose else⟨.empty,0,0,0,0,0,0⟩,rfl,hl,fun k hk=>⟨a.block,a.off,?_,?_⟩⟩
  ·rw[←(each k hk).choose_spec.1]
  ·dsimp only;rw[dif_pos hk];exact(each k hk).choose_spec.2
theorem open_stock{fuel:Nat}{cs:List Value}{x:DataW H×List MemPlace}(h:DataW.trod enc Tryz.prog W base sp held fuel 26 cs=some x) :
  ∃(rs rl rw many:Int) (A:Option Addr) (n c:Nat) (sh:Nat→Shaft),cs=[.int .i64 rs,.int .i64 rl,.int .i64 rw,.int .i64 many,.slice A n c]∧n≤c∧zA W A n sh:=by
 obtain⟨f0,f1,e,a0,b0,a1,b1⟩:=yra fo26;obtain⟨y0,y1,n,_,hl,t0,t1⟩:=trod_struct2 e h;rw[co26] at hl
 match cs,hl with
 | [c0,c1,c2,c3,c4],_=>rw[a0,b0,co23] at t0;rw[a1,b1,co24] at t1;simp only[List.drop,List.take] at t0 t1;obtain⟨a,b,c,d,rfl,rfl,rfl,rfl⟩:=open_rule t0;obtain⟨A,n',cap,sh,rfl,h1,h2⟩:=open_shafts t1;exact⟨a,b,c,d,A,n',cap,sh,rfl,h1,h2⟩
end
end
section
open Go.RowKit Go.Cx Go.Conc Go.ChangeShapes Go.WideShapes Go.ChangeAt
theorem own:ownKnob Tryz.prog.godebug=none:=by kernel_rfl
theorem laidOut:laidOutB Tryz.prog=true:=by kernel_rfl
theorem ul4:Tryz.prog.underlying 4=some .bool:=by kernel_rfl
theorem shut_true{H:Type}{enc:TypeId×Value→H}{w:World}{base:Nat}{sp:Nat→Bool}{held:Bool}:DataW.Trod enc Tryz.prog w base sp held 4 (.bool true) (.lit (.bool true)) []:=by refine⟨1,?_⟩;simp only[DataW.trod,Value.cells,ul4]
end
section
open Go.RowKit Go.Cx Go.Conc Go.ChangeShapes Go.WideShapes Go.ChangeAt
theorem enter4(v0 v1:Value):Frame.enter Tryz.prog 4 #[v0,v1] .normal=(lawFr 4).atR {tmps:=#[v0,v1]++Array.replicate 83 undef,defers:=[]} [.code A4]:=by have hb:Tryz.f4.body=some A4:=rfl;simp[Frame.enter,Frame.atR,Tryz.func4,hb]
theorem sets_run(rs rl rw many:Int)(A:Option Addr)(n c:Nat)(sh:Nat→Shaft)(s:Int)(W:World)(hc:n≤c)(hsh:zA W A n sh) :
  ∃ M last o w' t',runNT Tryz.prog (M+1) (solo (G (Frame.enter Tryz.prog 4 #[zga rs rl rw many A n c,.int .i64 s] .normal) []) W) #[]=(.ended o w',t') ∧
   runN Tryz.prog M (solo (G (Frame.enter Tryz.prog 4 #[zga rs rl rw many A n c,.int .i64 s] .normal) []) W)=.next last∧Go.step Tryz.prog last=.ended o w' ∧
   Go.Conc.Good Tryz.prog (fun v w1=>v=.bool true∧Below W.heap.size W w1) last o w' t':=
 law_run (enter4 _ _) fin4 Tryz.func4 rfl (by omega) (sets_walk rs rl rw many A n c sh s (strike W) hc (Lib.hid (shafts_strike hsh)))
theorem ul3s:Tryz.prog.underlying 3=some (.int .i64):=by kernel_rfl
theorem params4:Tryz.f4.params.toList=[26,3]:=rfl
theorem sets_lifted(os:Os)(started:os.Started)(H:Type)(enc:TypeId×Value→H) :
  ReturnsInLeavingWide {} Tryz.checked os 4 .any (Rows.arrowSetsSpec.pre6 enc Tryz.prog Tryz.f4 Rows.arrowSetsRow.domain false) (Rows.arrowSetsSpec.post enc Tryz.prog Tryz.f4 false true false false):=by
 refine returnsInLeavingWide_of_change_sized (C:=Tryz.checked) own started Tryz.func4
  (ChangeSpec.witness6 (enc:=enc) (C:=Tryz.checked) false ⟨#[],#[.agg #[.int .i64 0,.int .i64 0,.int .i64 0,.int .i64 0,.slice none 0 0],.int .i64 0],[]⟩ 8 (by kernel_rfl) (by kernel_rfl) (by kernel_rfl) (by kernel_rfl)) ?_
 intro W base args ds gs before hval0 hW _ _ _;have hval:∀(j:Nat) t v,Tryz.f4.params[j]? = some t→args[j]? = some v→Value.okWide Tryz.prog W .any base t v:=hval0;have hW':=hW;obtain⟨p,q,hA0,hV,rfl,_,_⟩:=hW;have hA:DataW.TrodAll enc Tryz.prog W 0 (fun _=>true) true Tryz.f4.params.toList args.toList ds p:=hA0;rw[params4] at hA;obtain⟨v0,vs0,d0,e0,p0,q0,hargs,rfl,rfl,h0,r0⟩:=trodAll_cons hA;obtain⟨v1,vs1,d1,e1,p1,q1,rfl,rfl,rfl,h1,r1⟩:=trodAll_cons r0;obtain⟨rfl,rfl,rfl⟩:=trodAll_nil r1;obtain rfl:args=#[v0,v1]:=by cases args;simp_all
 obtain⟨rfl,rfl⟩:=trodVars_none hV;obtain⟨s,rfl,rfl,rfl,hws⟩:=open_int ul3s (hval 1 3 v1 rfl rfl) h1;have hv0:=hval 0 26 v0 rfl rfl;obtain⟨f0,f1,e26,_⟩:=yra fo26;have hagg:∃ cs,v0=.agg cs:=by unfold Value.okWide at hv0;rw[e26] at hv0;obtain⟨cs,h,_⟩:=hv0;exact⟨cs,h⟩
 obtain⟨cs,rfl⟩:=hagg;have h0k:=h0;obtain⟨fuel,hf⟩:=h0;obtain⟨rs,rl,rw',many,A,n,c,sh,hcs,hc,hsh⟩:=open_stock hf;have hcs':cs=#[.int .i64 rs,.int .i64 rl,.int .i64 rw',.int .i64 many,.slice A n c]:=by have:cs.toList=[.int .i64 rs,.int .i64 rl,.int .i64 rw',.int .i64 many,.slice A n c]:=hcs;exact Array.toList_inj.1 this
 subst hcs';clear hA0 hval0;have hlt:∀ x,x∈p0→x.block<W.heap.size:=fun x hx=>hW'.lt x (by simp[hx])
 obtain⟨M,last,o,w',t',r1,r2,r3,r4⟩:=sets_run rs rl rw' many A n c sh s W hc hsh;refine⟨M,last,o,w',t',r1,r2,r3,r4.mono fun v hF=>?_⟩;obtain⟨rfl,hb⟩:=hF;refine⟨_,_,_,[],p0++[],[],hW',?_,?_,rfl,hb.frame _,fun h=>by cases h⟩
 ·exact trodAll_mk1 (t:=4) (v:=.bool true) (d:=.lit (.bool true)) shut_true
 ·exact trodAll_mk2 (Below.trod laidOut (by kernel_rfl) (of_decide_eq_true (by kernel_rfl)) h0k hb fun x hx=>hlt x hx) (shut_int (enc:=enc) (w:=w') (base:=0) (spare:=fun b=>decide (b<W.heap.size)) (held:=true) ul3s hws)
theorem arrowSets_holds:Rows.ArrowSetsSaid:=
 OpenClaim.holds_of_wide_leaving 4 Tryz.f4 rfl rfl rfl rfl rfl rfl rfl ⟨rfl,rfl,rfl,rfl,rfl⟩ rfl rfl rfl rfl rfl (by kernel_rfl) Tryz.func4 (by kernel_rfl)
  (of_decide_eq_true (by kernel_rfl)) (by unfold Func.isWrapper;first|(rw[if_pos (by decide +kernel)];kernel_rfl)|(rw[if_neg (by decide +kernel)];exact⟨rfl,rfl⟩))
  (fun os started H enc _=>sets_lifted os started H enc)
end
end Go.Proofs.YtpdmgecbapmgdaaGreat
