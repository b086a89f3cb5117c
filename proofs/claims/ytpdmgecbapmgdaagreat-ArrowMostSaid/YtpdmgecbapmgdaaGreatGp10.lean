/- A part of the proof that ArrowMost returns true for every input: no further condition. -/
import Derived.Test.YtpdmgecbapmgdaaGreatGp9
import Derived.Test.YtpdmgecbapmgdaaGreatGp5
import Derived.Test.YtpdmgecbapmgdaaGreatGp6
import Derived.Test.YtpdmgecbapmgdaaGreatGp0
import Derived.Test.YtpdmgecbapmgdaaGreatLe1
import Derived.Conc.Own4
import Derived.Conc.LeavingOf
import Derived.Deep.Slices
import Derived.Lib.SmallJoins
import Derived.Test.YtpdmgecbapmgdaaGreatRows
import Derived.Carry
set_option linter.unusedSimpArgs false
set_option linter.unusedVariables false
set_option maxHeartbeats 8000000
set_option maxRecDepth 100000
namespace Go.Proofs.YtpdmgecbapmgdaaGreat
section
open Go.RowKit Go.Cx Go.Conc
theorem most_walk(rs rl rw many:Int)(A:Option Addr)(n c:Nat)(sh:Nat→Shaft)(OA:Option Addr)(on oc:Nat)(q:Nat→Int)(PA:Option Addr)(pn pc:Nat)(p:Nat→Int)(W:World)(hc:n≤c)(hpc:pn≤pc)(hsh:Hid (zA W A n sh))(hq:Hid (ye W OA on q))(hp:Hid (ye W PA pn p)) :
    Reach Fc Tryz.prog (lawFr 9) [] (SeekM W) {tmps:=#[zga rs rl rw many A n c,.slice OA on oc,.slice PA pn pc]++Array.replicate 206 undef,defers:=[]} [.code A9] W:=by
  generalize hS:SeekM W=S;have HS:=Lib.hid hS;clear hS;simp only[A9,Tryz.f9];simp only[List.size_toArray,List.length_cons,List.length_nil,Nat.reduceAdd,Nat.reduceSub,Array.replicate_succ,Array.replicate_zero,List.push_toArray,List.append_toArray,List.nil_append,List.cons_append];refine zK fin9 room9 ?_;refine zO (n:=0) rfl fin9 room9 fun R hR=>?_
  have HR:=Lib.hid hR;clear hR;gi_wp2;change R _ _;refine HR.out _ _ ?_;clear HR;obtain⟨w1,hw1⟩:∃ w,w=W.alloc (.cells #[.int .i64 rs,.int .i64 rl,.int .i64 rw,.int .i64 many,.slice A n c] 26):=⟨_,rfl⟩;rw[←hw1];have hb1:Below W.heap.size W w1:=by rw[hw1];exact(Below.refl _ _).alloc (Nat.le_refl _) _
  have hx0:BoxM rs rl rw many w1 W.heap.size (.slice A n c):=by rw[hw1];exact heap_alloc_new _ _
  obtain⟨c0,c1,c2,c3,c4⟩:=hx0.cells;have HB1:=Lib.hid hb1;clear hb1 hw1;refine zK fin9 room9 (zK fin9 room9 ?_);refine zO (n:=0) rfl fin9 room9 fun R hR=>?_
  have HR:=Lib.hid hR;clear hR;by_cases ho:20<on
  · have hoI:(20:Int)<(on:Int):=by omega
    gi_wp2_with (first
    | (gi_at_call 33;refine(yUb _ _ _ _ _ _ _ sh _ hc (Lib.hid (hsh.out.below HB1.out))).mono ?_;rintro e w2 ⟨fit,rfl,hfit,hb2⟩
       have hx0:=hx0.below hb2;obtain⟨e0,e1,e2,e3,e4⟩:=hx0.cells;have HB2:=Lib.hid (HB1.out.trans (hb2.mono HB1.out.size));have hw0:W.heap.size<w2.heap.size:=hx0.lt;clear hb2;cases fit))
    all_goals
      change R _ _;refine HR.out _ _ ?_;clear HR;refine yc true rfl fin9 room9 ?_;simp only[if_true];refine zK fin9 room9 (yh fin9 room9 (Reach.here ?_));rw[←HS.out];exact⟨.early _ _ _ 0 1 28 ⟨⟨_,rfl,rfl,rfl,rfl⟩,⟨_,rfl,rfl,rfl,rfl⟩⟩ (by omega) rfl rfl,HB2.out⟩
  have hoI:¬(20:Int)<(on:Int):=by omega
  gi_wp2_with (first
    | (gi_at_call 33;refine(yUb _ _ _ _ _ _ _ sh _ hc (Lib.hid (hsh.out.below HB1.out))).mono ?_;rintro e w2 ⟨fit,rfl,hfit,hb2⟩
       have hx0:=hx0.below hb2;obtain⟨e0,e1,e2,e3,e4⟩:=hx0.cells;have HB2:=Lib.hid (HB1.out.trans (hb2.mono HB1.out.size));have hw0:W.heap.size<w2.heap.size:=hx0.lt;clear hb2;cases fit))
  · change R _ _;refine HR.out _ _ ?_;clear HR;refine yc true rfl fin9 room9 ?_;simp only[if_true];refine zK fin9 room9 (yh fin9 room9 (Reach.here ?_));rw[←HS.out];exact⟨.early _ _ _ 0 1 28 ⟨⟨_,rfl,rfl,rfl,rfl⟩,⟨_,rfl,rfl,rfl,rfl⟩⟩ (by omega) rfl rfl,HB2.out⟩
  change R _ _;refine HR.out _ _ ?_;clear HR;rw[show decide ((20:Int)<(on:Int))=false from decide_eq_false (by omega)];refine yc false rfl fin9 room9 ?_;simp only[Bool.false_eq_true,if_false];refine yg (n:=0) fin9 room9 rfl ?_;have hst:=Lib.hid (hfit trivial);clear hfit c0 c1 c2 c3 c4;have hn:=hst.out.count;have hmany:2≤many:=hst.out.rule.m0;have hmany4:many≤4:=hst.out.rule.m1;obtain⟨mm,rfl⟩:∃ mm:Nat,many=(mm:Int):=⟨many.toNat,by omega⟩;have hm0:0<mm:=by omega
  obtain⟨E,hE⟩:∃ E,zgc rs rl rw sh n mm (fun _=>false)=E:=⟨_,rfl⟩;obtain⟨hfr,hsp⟩:=shareX_good (rs:=rs) (rl:=rl) (rw:=rw) (sh:=sh) (n:=n) hm0 fun _=>false
  have hbest:=fun M (h1:FreeR (setsX rs rl rw sh n mm) (fun _=>false) M) (h2:Split M)=>shareX_best (rs:=rs) (rl:=rl) (rw:=rw) (sh:=sh) (n:=n) hm0 h1 h2
  have hfl:=fun w (hb:Below W.heap.size W w)=>Fill_fair rs rl rw mm A n c sh w hc (Lib.hid (hsh.out.below hb)) hst.out
  rw[hE] at hfr hsp hbest hfl;have hEs:∀ x,x∈E→x.Pairwise (· < ·)∧(∀ k,k∈x→k<n)∧x.length=mm:=fun x hx=>by have:=yf.1 (hfr x hx).1;exact⟨this.1,this.2.1,this.2.2.1⟩
  have hlen:=left_len (n:=n) hsp (fun x hx=>(hEs x hx).1) (fun x hx=>(hEs x hx).2.1) fun x hx=>(hEs x hx).2.2
  have hflat:=ypa (fun x hx=>(hEs x hx).2.2);obtain⟨LL,hLL⟩:∃ LL,leftL n E=LL:=⟨_,rfl⟩;have hasc:LL.Pairwise (· < ·):=by rw[←hLL];exact left_asc
  have hlt':∀ a,a∈LL→a<n∧∀ i,i<E.length→a∉E.getD i []:=fun a ha=>left_lt (by rw[hLL];exact ha)
  rw[hLL] at hlen hfl;have hE9:E.length≤9:=by rw[←hE];exact Nat.le_trans (share_few ..) hn
  obtain⟨pm,hpm⟩:∃ pm,E.length*mm=pm:=⟨_,rfl⟩;rw[hpm] at hlen hflat;have hmul:(E.length:Int)*(mm:Int)=(pm:Int):=by rw[←hpm];simp
  have HFL:=Lib.hid hfl;have HFR:=Lib.hid hfr;have HSP:=Lib.hid hsp;have HBEST:=Lib.hid hbest;have HES:=Lib.hid hEs;have HASC:=Lib.hid hasc;have HLT:=Lib.hid hlt';have HMUL:=Lib.hid hmul;have HX0:=Lib.hid hx0;clear hfl hfr hsp hbest hEs hasc hlt' hE hLL hpm hmul hx0;refine zK fin9 room9 ?_;refine zO (n:=0) rfl fin9 room9 fun R hR=>?_
  have HR:=Lib.hid hR;clear hR
  gi_wp2_with (gi_at_call 25;refine(HFL.out _ HB2.out).mono ?_;rintro e w4 ⟨v4,u4,rfl,hl4,hu4,hb4⟩
               have HB4:=Lib.hid (HB2.out.trans (hb4.mono HB2.out.size));have HX0:=Lib.hid (HX0.out.below hb4);have HL4:=Lib.hid hl4;have HU4:=Lib.hid hu4;clear hb4 hl4 hu4 e0 e1 e2 e3 e4)
  change R _ _;refine HR.out _ _ ?_;clear HR;obtain⟨LF,cf,rfl,hcf,hrd⟩:=HL4.out.read;have HLR:Hid (zlc w4 (.slice LF E.length cf) E):=Lib.hid ⟨LF,cf,rfl,hcf,hrd⟩;obtain⟨LA,lc,rfl,hlc,hil⟩:=HU4.out.shape;have HIL:=Lib.hid hil;have HRD:=Lib.hid hrd;have hll9:LL.length≤9:=by omega
  clear hil hrd HL4 HU4;have hshare:=fun w (hb:Below w4.heap.size w4 w)=>ownShare_any rs rl rw mm A n c sh LF cf E PA pn pc p w hc hpc hst (Lib.hid (hsh.out.below (HB4.out.trans (hb.mono HB4.out.size)))) (Lib.hid (hp.out.below (HB4.out.trans (hb.mono HB4.out.size)))) hE9 (by omega) HFR HSP (Lib.hid ⟨LF,cf,rfl,hcf,fun k hk=>by obtain⟨b,o,LX,kx,e,g1,g2,g3⟩:=HRD.out k hk;exact⟨b,o,LX,kx,e,Below.old hb g1,g2,g3.below hb⟩⟩)
  have HSHARE:=Lib.hid hshare;obtain⟨e0,e1,e2,e3,e4⟩:=HX0.out.cells;have hmul:=HMUL.out;have hwm:IntKind.wrap .i64 (pm:Int)=pm:=yL (by omega) (by omega);have hsub:(n:Int)-(pm:Int)=(LL.length:Int):=by omega
  have hws:IntKind.wrap .i64 (LL.length:Int)=LL.length:=yL (by omega) (by omega);clear hshare;refine zK fin9 room9 (zK fin9 room9 ?_);refine zO (n:=0) rfl fin9 room9 fun R hR=>?_
  have HR:=Lib.hid hR;clear hR
  gi_wp2_with (gi_at_call 42;refine(HSHARE.out _ (Below.refl _ _)).mono ?_;rintro e w5 ⟨rfl,hb5⟩
               have e0:=Below.old hb5 e0;have e1:=Below.old hb5 e1;have e2:=Below.old hb5 e2;have e3:=Below.old hb5 e3;have e4:=Below.old hb5 e4;have HB45:=Lib.hid hb5;clear hb5)
  change R _ _;refine HR.out _ _ ?_;clear HR;refine yc false (by first|rfl|(simp;done)) fin9 room9 ?_;simp only[Bool.false_eq_true,if_false];refine yg (n:=0) fin9 room9 rfl ?_;have HB5:=Lib.hid (HB4.out.trans (HB45.out.mono HB4.out.size));have HX0:=Lib.hid (HX0.out.below HB45.out);have HIL:=Lib.hid (HIL.out.below HB45.out);have hrd5:∀ k,k<E.length→∃ b o LX kx,LF=some ⟨b,o,none⟩∧w5.cell? ⟨b,o+k,none⟩=some (.slice LX (E.getD k []).length kx)∧(E.getD k []).length≤kx∧zca w5 LX (E.getD k []).length (fun j=>(((E.getD k []).getD j 0:Nat):Int)):=fun k hk=>by obtain⟨b,o,LX,kx,e,g1,g2,g3⟩:=HRD.out k hk;exact⟨b,o,LX,kx,e,Below.old HB45.out g1,g2,g3.below HB45.out⟩
  have HRD5:=Lib.hid hrd5;clear hrd5 hmul hwm hsub hws HSHARE e0 e1 e2 e3 e4 HFL;refine zK fin9 room9 ?_;refine zO (n:=0) rfl fin9 room9 fun R hR=>?_
  have HR:=Lib.hid hR;clear hR;gi_wp2
  gi_loopw [6,10,11] (fun _ y _ wr=>∃ i:Nat,i≤LL.length∧y=.int .i64 i∧Below w5.heap.size w5 wr) (fun _ y _ _=>LL.length-(intOf y).toNat)
  case atStart=>exact⟨0,by omega,rfl,Below.refl _ _⟩
  case round=>
    obtain⟨i,hi,rfl,hbw⟩:=hrel;have HBW:=Lib.hid hbw;clear hbw;by_cases hlt:i<LL.length
    · obtain⟨bl,ol,rfl,ql⟩:=HIL.out i hlt;have hltI:(i:Int)<(LL.length:Int):=by omega
      have h99:i<99:=by omega
      obtain⟨li,hli⟩:∃ li,LL.getD i 0=li:=⟨_,rfl⟩
      replace ql:w5.cell? ⟨bl,ol+i,none⟩=some (.int .i64 ((LL.getD i 0:Nat):Int)):=ql
      rw[hli] at ql;have hno:∀ k,k<E.length→LL.getD i 0∉E.getD k []:=fun k hk=>(HLT.out _ (ya hlt)).2 k hk
      rw[hli] at hno;have HNO:=Lib.hid hno;have QL:=Lib.hid ql;clear ql hno hli;gi_wp2
      gi_loopw [6,11] (fun _ y wr=>∃ k:Nat,k≤E.length∧y=.int .i64 k∧Below w5.heap.size w5 wr) (fun _ y _=>E.length-(intOf y).toNat)
      case atStart=>exact⟨0,by omega,rfl,HBW.out⟩
      case round=>
        clear HBW;obtain⟨k,hk,rfl,hbw⟩:=hrel;have HBV:=Lib.hid hbw;clear hbw;by_cases hkE:k<E.length
        · obtain⟨bf,of_,LX,kx,rfl,qx,hkx,hix⟩:=HRD5.out k hkE;have x3:(E.getD k []).length=mm:=(HES.out _ (ya hkE)).2.2;have hnk:=HNO.out k hkE;obtain⟨x,hx⟩:∃ x,E.getD k []=x:=⟨_,rfl⟩;rw[hx] at qx hkx hix x3 hnk;rw[x3] at qx hkx hix;obtain⟨bx,ox,rfl,_⟩:=hix 0 hm0;have hhas:∀ w,Below w5.heap.size w5 w→CallsIn Fc 0 Tryz.prog 40 #[.slice (some ⟨bx,ox,none⟩) mm kx,.int .i64 li] w fun e w'=>e=.returned (.bool false)∧w=w':=fun w hb=>by
            refine(yPa (some ⟨bx,ox,none⟩) mm kx (fun j=>x.getD j 0) li w (by omega) hkx (Lib.hid (hix.below hb))).mono ?_;rintro e w' ⟨g,rfl,hg,rfl⟩;refine⟨?_,rfl⟩;cases g with
            |false=>rfl
            |true=>obtain⟨j,hj,e⟩:=hg.1 rfl;exact absurd (e▸ya (by omega)) hnk
          have HHAS:=Lib.hid hhas;have q1:=Below.old HBV.out qx;have q2:=Below.old HBV.out QL.out;have hkI:(k:Int)<(E.length:Int):=by omega
          have k99:k<99:=by omega
          clear hhas qx hix hx hnk x3;gi_wp2;refine zL (D:=[(71,.slice (some ⟨bf,of_,none⟩) E.length cf),(72,.int .i64 k),(73,.pointer (some ⟨bf,of_+k,none⟩)),(74,.slice (some ⟨bx,ox,none⟩) mm kx),(75,.slice (some ⟨bl,ol,none⟩) LL.length lc),(76,.int .i64 i),(77,.pointer (some ⟨bl,ol+i,none⟩)),(78,.int .i64 li),(79,.bool false)])
            (I:=fun w=>Below wr.heap.size wr w) (z:=209) (by kernel_rfl) (by kernel_rfl) (by kernel_rfl) (by kernel_rfl) (by kernel_rfl) rfl rfl (Below.refl _ _).drew ?_ ?_
          · intro j a w hj hd hz hold hf hI;have HI:=Lib.hid hI;have a1:=Below.old hI q1;have a2:=Below.old hI q2;clear hI;have s7:=zc hz (hold 7 (by kernel_rfl)) (by omega);have s8:=zc hz (hold 8 (by kernel_rfl)) (by omega);have s10:=zc hz (hold 10 (by kernel_rfl)) (by omega);have s11:=zc hz (hold 11 (by kernel_rfl)) (by omega);clear hold;have hjs:j=0∨j=1∨j=2∨j=3∨j=4∨j=5∨j=6∨j=7∨j=8:=by have:j<9:=hj;omega
            rcases hjs with rfl|rfl|rfl|rfl|rfl|rfl|rfl|rfl|rfl
            · refine wpOpIn_step rfl fun K hK=>?_
              go_simp;exact hK _ _ ⟨_,_,rfl,rfl,rfl,HI.out⟩
            · refine wpOpIn_step rfl fun K hK=>?_
              go_simp;exact hK _ _ ⟨_,_,rfl,rfl,rfl,HI.out⟩
            · have f71:=zc hz (hf 0 71 _ (by kernel_rfl) rfl) (by omega);have f72:=zc hz (hf 1 72 _ (by kernel_rfl) rfl) (by omega);refine wpOpIn_step rfl fun K hK=>?_
              go_simp;exact hK _ _ ⟨_,_,rfl,rfl,rfl,HI.out⟩
            · have f73:=zc hz (hf 2 73 _ (by kernel_rfl) rfl) (by omega);refine wpOpIn_step rfl fun K hK=>?_
              go_simp;exact hK _ _ ⟨_,_,rfl,rfl,rfl,HI.out⟩
            · refine wpOpIn_step rfl fun K hK=>?_
              go_simp;exact hK _ _ ⟨_,_,rfl,rfl,rfl,HI.out⟩
            · refine wpOpIn_step rfl fun K hK=>?_
              go_simp;exact hK _ _ ⟨_,_,rfl,rfl,rfl,HI.out⟩
            · have f75:=zc hz (hf 4 75 _ (by kernel_rfl) rfl) (by omega);have f76:=zc hz (hf 5 76 _ (by kernel_rfl) rfl) (by omega);refine wpOpIn_step rfl fun K hK=>?_
              go_simp;exact hK _ _ ⟨_,_,rfl,rfl,rfl,HI.out⟩
            · have f77:=zc hz (hf 6 77 _ (by kernel_rfl) rfl) (by omega);refine wpOpIn_step rfl fun K hK=>?_
              go_simp;exact hK _ _ ⟨_,_,rfl,rfl,rfl,HI.out⟩
            · have f74:=zc hz (hf 3 74 _ (by kernel_rfl) rfl) (by omega);have f78:=zc hz (hf 7 78 _ (by kernel_rfl) rfl) (by omega);refine wpOpIn_step rfl fun K hK=>?_
              go_simp;refine(HHAS.out w (HBV.out.trans (HI.out.mono HBV.out.size))).mono ?_;rintro e w' ⟨rfl,rfl⟩;exact hK _ _ ⟨_,_,rfl,rfl,rfl,HI.out⟩
          intro w6 hI;have HB6:=Lib.hid (HBV.out.trans (hI.mono HBV.out.size));clear hI q1 q2;simp only[List.foldl_cons,List.foldl_nil,List.setIfInBounds_toArray,List.set_cons_succ,List.set_cons_zero];gi_wp2
          first
            |(refine⟨⟨k+1,by omega,by first|rfl|trivial,HB6.out⟩,by simp[intOf];omega⟩)
            | (go_roundw
               case rel=>exact⟨k+1,by omega,by go_num,HB6.out⟩
               case measure=>simp[intOf];omega)
        · have hkI:¬(k:Int)<(E.length:Int):=by omega
          gi_wp2
          first
            |(refine⟨⟨i+1,by omega,by first|rfl|trivial,HBV.out⟩,by simp[intOf];omega⟩)
            | (go_roundw
               case rel=>exact⟨i+1,by omega,by go_num,HBV.out⟩
               case measure=>simp[intOf];omega)
    · have hltI:¬(i:Int)<(LL.length:Int):=by omega
      obtain⟨w8,hw8⟩:∃ w8,wr=w8:=⟨_,rfl⟩;subst hw8;gi_wp2;change R _ _;refine HR.out _ _ ?_;clear HR;have HB8:=Lib.hid (HB5.out.trans (HBW.out.mono HB5.out.size));have HX0:=Lib.hid (HX0.out.below HBW.out);have hil:=HIL.out.below HBW.out;have HIL:=Lib.hid hil;have hasy:=yK LA LL.length lc (fun k=>LL.getD k 0) n wr (by omega) (by omega) hlc HIL (Lib.hid fun j hj=>(HLT.out _ (ya hj)).1) (Lib.hid fun j hj=>ypb HASC.out (Nat.lt_succ_self j) hj);have HASY:=Lib.hid hasy;obtain⟨e0,e1,e2,e3,e4⟩:=HX0.out.cells;clear hil hasy;refine zK fin9 room9 (zK fin9 room9 ?_);refine zO (n:=0) rfl fin9 room9 fun R hR=>?_
      have HR:=Lib.hid hR;clear hR
      gi_wp2_with (gi_at_call 43;refine HASY.out.mono ?_;rintro e w9 ⟨rfl,hb9⟩;have HB89:=Lib.hid hb9;clear hb9)
      change R _ _;refine HR.out _ _ ?_;clear HR;refine yc false (by first|rfl|(simp;done)) fin9 room9 ?_;simp only[Bool.false_eq_true,if_false];refine yg (n:=0) fin9 room9 rfl ?_;rw[←HS.out];exact most_others rs rl rw mm A n c sh OA on oc q E LF cf W _ hc (by omega) hsh hst hq hE9 (Lib.hid fun x hx=>(HES.out x hx).2.2) HBEST (Lib.hid (HB8.out.trans (HB89.out.mono HB8.out.size))) (Lib.hid (HX0.out.below HB89.out))
        (Lib.hid ⟨LF,cf,rfl,hcf,fun k hk=>by obtain⟨b,o,LX,kx,e,g1,g2,g3⟩:=HRD5.out k hk;exact⟨b,o,LX,kx,e,Below.old HB89.out (Below.old HBW.out g1),g2,(g3.below HBW.out).below HB89.out⟩⟩)
end
section
open Go.RowKit Go.Cx Go.Conc
end
section
open Go.RowKit Go.Cx Go.Conc
theorem yWa:zfa Tryz.prog Fc.fn:=fenceOk_of (L:=[7,33,34,15,13,18,55,56,57,58,59,62,63,64,65,66,77,96,97,98,99,100,101,102,103,104,105,106,107,108,109,110,124,138,78,159,160,161,125,172,3,5,6,8,16,17,19,20,21,30,31,32,35,36,37,38,39,40,41,43,60,61,67,75,76,79,80,81,82,83,84,111,123,22,25,28,68,71,72,73,112,114,115,116,117,118,119,120,121,137,139,140,141,142,157,158,23,24,26,27,29,69,70,74,113,122,4,9,10,11,12,42,44,45]) (by kernel_rfl)
theorem shafts_strike{W:World}{A:Option Addr}{n:Nat}{sh:Nat→Shaft}(h:zA W A n sh):zA (strike W) A n sh:=fun k hk=>by
 obtain⟨b,o,e,hx⟩:=h k hk;have c:=fun a=>(twin_strike W fun _=>True).cell a
 exact⟨b,o,e,by rw[←c];exact hx.h0,by rw[←c];exact hx.h1,by rw[←c];exact hx.h2,by rw[←c];exact hx.h3,by rw[←c];exact hx.h4,by rw[←c];exact hx.h5,by rw[←c];exact hx.h6⟩
theorem shot_there:∃ fn,Tryz.prog.funcs[14]? = some fn∧(fn.name == "runtime.NumGoroutine")=false∧fn.body.isNone=false:=⟨_,Tryz.func14,by kernel_rfl,by kernel_rfl⟩
theorem law_calls{f:FuncId}{r z:Nat}{C0:Code}{a0:Act}{args:Array Value}{W:World}(hen:Frame.enter Tryz.prog f args .normal=(lawFr f).atR a0 [.code C0])(hin:Fc.fn f)
  (h:Reach Fc Tryz.prog (lawFr f) [] (fun a k w=>zLb 14 r z a k∧Below (strike W).heap.size (strike W) w) a0 [.code C0] (strike W)) :
  ∃ a k w N t,zLb 14 r z a k∧Below W.heap.size W w∧Lone t∧runNT Tryz.prog N (solo (G (Frame.enter Tryz.prog f args .normal) []) W) #[]=(.next (solo (G (Frame.enter Tryz.prog 14 #[] .normal) [(lawFr f).at a k]) w),t):=by
 obtain⟨a,k,v,⟨hat,hb⟩,hs⟩:=h;have hs:StepsIn (Machine.fenced Tryz.prog Fc) Tryz.prog (lone (Frame.enter Tryz.prog f args .normal) [] (strike W)) (lone ((lawFr f).atR a k) [] v):=by rw[hen];exact hs
 obtain⟨N,w,t,hr,hl,htw⟩:=chain_calm (Fc:=Fc) (B:=⟨W,zka Tryz.prog Fc.fn⟩) (fun l=>Iff.rfl) rfl yWa hs (G (Frame.enter Tryz.prog f args .normal) []) (strike W) W #[] rfl
  ⟨_,[],rfl,frIn_enter yWa hin _,.inl rfl,fun c h=>by simp at h⟩ (twin_strike W _) (fun op h=>by simp at h) ((lawFr f).atR a k) [] v rfl rfl
 have hsz:(strike W).heap.size=W.heap.size:=by simp[strike]
 rw[hsz] at hb;refine⟨a,k,w,N+1,t,hat,twin_below htw hb,hl,?_⟩;rw[runNT_add,hr];simp only[Frame.atR_of_none (show(lawFr f).roundOf=none from rfl),runNT,stepT_solo (show(G ((lawFr f).at a k) []).status=.running from rfl),runT_solo_go (call_step shot_there hat w)];simp[MemOp.ofEvents]
theorem env_below{w w1:World}(h:Env (OldL w) w w1):Below w.heap.size w w1 where
 os:=h.os
 tape:=h.tape
 output:=h.output
 size:=h.size
 block:=by
  intro k hk;have hs:=h.same k w.heap[k] (by simp[hk]);rw[Array.getElem?_eq_getElem hk];cases ho:w.heap[k] with
  |cells c e fr=>
   rw[ho] at hs;obtain⟨c',h1,h2,h3⟩:=hs;rw[h1];have:c'=c:=by apply Array.ext h2;intro i hi hi';have:=h3 i ⟨k,rfl,hk⟩;rw[Array.getElem?_eq_getElem hi,Array.getElem?_eq_getElem hi'] at this;exact Option.some.inj this
   rw[this]
  |_=>rw[ho] at hs;exact hs ⟨k,rfl,hk⟩
theorem entry_rel(hp:TabOk Tryz.tab)(b:Frame)(w:World):XRel (fun _=>none) (fun _=>False) (fun _=>False) [b] Tryz.x0 (G (Frame.enter Tryz.prog 14 #[] .normal) [b]) w:=by
 obtain⟨fr,he⟩:∃ fr,zIa Tryz.tab 14 [] false=some fr:=by
  cases h:zIa Tryz.tab 14 [] false with
  |some fr=>exact⟨fr,rfl⟩
  |none=>exact absurd (show(zIa Tryz.tab 14 [] false).isSome=true by kernel_rfl) (by rw[h];simp)
 have hr:=zib (f:=fun _=>none) hp (args':=#[]) (kind:=.normal) .nil he rfl;unfold Tryz.x0;rw[he];refine .plain (Bd:=0) ⟨⟨_,[],rfl,hr,.nil⟩,?_⟩ (Nat.zero_le _) .nil;exact{
  wf:=⟨fun b o h=>by simp[T.get] at h,fun b c x r ba m h=>by simp[T.get] at h,fun r m h=>by simp[members,T.get] at h⟩
  obj:=fun b x h=>by cases h
  mine:=fun b x h=>by cases h
  part:=fun b x i h=>by cases h
  apart:=fun b b' x x' o o' h=>by cases h
  coord:=fun b b' x x' o o' h=>by cases h
  home:=fun b x h=>by cases h}
theorem law_run{f:FuncId}{fl:Func}{r z:Nat}{C0:Code}{a0:Act}{args:Array Value}{W:World}(hen:Frame.enter Tryz.prog f args .normal=(lawFr f).atR a0 [.code C0])(hin:Fc.fn f)(hfl:Tryz.prog.funcs[f]? = some fl)(hres:fl.results=#[.tmp r])(hrz:r<z)
  (h:Reach Fc Tryz.prog (lawFr f) [] (fun a k w=>zLb 14 r z a k∧Below (strike W).heap.size (strike W) w) a0 [.code C0] (strike W)) :
  ∃ M last o w' t',runNT Tryz.prog (M+1) (solo (G (Frame.enter Tryz.prog f args .normal) []) W) #[]=(.ended o w',t') ∧
   runN Tryz.prog M (solo (G (Frame.enter Tryz.prog f args .normal) []) W)=.next last∧Go.step Tryz.prog last=.ended o w' ∧
   Go.Conc.Good Tryz.prog (fun v w1=>v=.bool true∧Below W.heap.size W w1) last o w' t':=by
 obtain⟨a,k,w,N,t,hat,hb,hl,hr⟩:=law_calls hen hin h;obtain⟨K,last,o,w2,t2,h1,h2,h3,h4⟩:=Tryz.shot_run (b:=(lawFr f).at a k) (bot:=[]) (sl:=none) hl (fun l h=>h.elim) (entry_rel Tryz.tabOk _ w) (Post:=fun v w1=>v=.bool true∧Env (OldL w) w w1) (n:=4) (fun w' he=>after_callG yWa hin hfl hres hrz hat he);rw[←solo_eq_crowd] at h1 h2;obtain⟨r1,r2⟩:=run_then hr h1 h2;exact⟨N+K,last,o,w2,t2,r1,r2,h3,h4.mono fun v hp=>⟨hp.1,hb.trans ((env_below hp.2).mono hb.size)⟩⟩
end
section
open Go.RowKit Go.ChangeShapes Go.WideShapes Go.Joins
def zZa(P:Program)(t:TypeId):Option (List (Nat×TypeId)):=match P.underlying t with
 |some (.struct fs)=>some (fs.toList.map fun f=>(f.offset,f.type))
 |_=>none
theorem yT{P:Program}{t:TypeId}{o0 o1:Nat}{t0 t1:TypeId}(h:zZa P t=some [(o0,t0),(o1,t1)]):∃ f0 f1:Field,P.underlying t=some (.struct #[f0,f1])∧f0.offset=o0∧f0.type=t0∧f1.offset=o1∧f1.type=t1:=by
 unfold zZa at h;split at h
 ·next fs e=>
  obtain⟨l⟩:=fs
  match l,h with
  | [f0,f1],h=>simp at h;exact⟨f0,f1,e,h.1.1,h.1.2,h.2.1,h.2.2⟩
  | [],h=>simp at h
  | [_],h=>simp at h
  |_::_::_::_,h=>simp at h
 ·cases h
theorem yqa{P:Program}{t:TypeId}{o0 o1 o2 o3:Nat}{t0 t1 t2 t3:TypeId}(h:zZa P t=some [(o0,t0),(o1,t1),(o2,t2),(o3,t3)]) :
  ∃ f0 f1 f2 f3:Field,P.underlying t=some (.struct #[f0,f1,f2,f3])∧f0.offset=o0∧f0.type=t0∧f1.offset=o1∧f1.type=t1∧f2.offset=o2∧f2.type=t2∧f3.offset=o3∧f3.type=t3:=by
 unfold zZa at h;split at h
 ·next fs e=>
  obtain⟨l⟩:=fs
  match l,h with
  | [f0,f1,f2,f3],h=>simp at h;obtain⟨⟨h1,h2⟩,⟨h3,h4⟩,⟨h5,h6⟩,h7,h8⟩:=h;exact⟨f0,f1,f2,f3,e,h1,h2,h3,h4,h5,h6,h7,h8⟩
  | [],h=>simp at h
  | [_],h=>simp at h
  | [_,_],h=>simp at h
  | [_,_,_],h=>simp at h
  |_::_::_::_::_::_,h=>simp at h
 ·cases h
theorem fo26:zZa Tryz.prog 26=some [(0,23),(4,24)]:=by kernel_rfl
theorem fo23:zZa Tryz.prog 23=some [(0,3),(1,3),(2,3),(3,3)]:=by kernel_rfl
theorem fo52:zZa Tryz.prog 52=some [(0,3),(1,3)]:=by kernel_rfl
theorem fo65:zZa Tryz.prog 65=some [(0,9),(1,52),(3,52),(5,52)]:=by kernel_rfl
theorem ul24:Tryz.prog.underlying 24=some (.slice 65):=by kernel_rfl
theorem ul3:Tryz.prog.underlying 3=some (.int .i64):=by kernel_rfl
theorem ul9:Tryz.prog.underlying 9=some .string:=by kernel_rfl
theorem co26:Tryz.prog.cellsOf 26=5:=by kernel_rfl
theorem co23:Tryz.prog.cellsOf 23=4:=by kernel_rfl
theorem co24:Tryz.prog.cellsOf 24=1:=by kernel_rfl
theorem co3:Tryz.prog.cellsOf 3=1:=by kernel_rfl
theorem co9:Tryz.prog.cellsOf 9=1:=by kernel_rfl
theorem co52:Tryz.prog.cellsOf 52=2:=by kernel_rfl
theorem co65:Tryz.prog.cellsOf 65=7:=by kernel_rfl
section
variable {H:Type}{enc:TypeId×Value→H}{W:World}{base:Nat}{sp:Nat→Bool}{held:Bool}
theorem yja{fuel:Nat}{c0 c1:Value}{x:DataW H×List MemPlace}(h:DataW.trod enc Tryz.prog W base sp held fuel 52 [c0,c1]=some x):∃ u v:Int,c0=.int .i64 u∧c1=.int .i64 v:=by obtain⟨f0,f1,e,a0,b0,a1,b1⟩:=yT fo52;obtain⟨y0,y1,n,_,_,t0,t1⟩:=trod_struct2 e h;rw[a0,b0,co3] at t0;rw[a1,b1,co3] at t1;obtain⟨u,h0,_⟩:=DataW.trod_int ul3 t0;obtain⟨v,h1,_⟩:=DataW.trod_int ul3 t1;simp at h0 h1;exact⟨u,v,h0,h1⟩
theorem open_rule{fuel:Nat}{c0 c1 c2 c3:Value}{x:DataW H×List MemPlace}(h:DataW.trod enc Tryz.prog W base sp held fuel 23 [c0,c1,c2,c3]=some x) :
  ∃ a b c d:Int,c0=.int .i64 a∧c1=.int .i64 b∧c2=.int .i64 c∧c3=.int .i64 d:=by
 obtain⟨f0,f1,f2,f3,e,a0,b0,a1,b1,a2,b2,a3,b3⟩:=yqa fo23;obtain⟨y0,y1,y2,y3,n,_,_,t0,t1,t2,t3⟩:=trod_struct4 e h;rw[a0,b0,co3] at t0;rw[a1,b1,co3] at t1;rw[a2,b2,co3] at t2;rw[a3,b3,co3] at t3;obtain⟨u0,h0,_⟩:=DataW.trod_int ul3 t0;obtain⟨u1,h1,_⟩:=DataW.trod_int ul3 t1;obtain⟨u2,h2,_⟩:=DataW.trod_int ul3 t2;obtain⟨u3,h3,_⟩:=DataW.trod_int ul3 t3;simp at h0 h1 h2 h3;exact⟨u0,u1,u2,u3,h0,h1,h2,h3⟩
theorem yEa{fuel:Nat}{cs:List Value}{x:DataW H×List MemPlace}(h:DataW.trod enc Tryz.prog W base sp held fuel 65 cs=some x) :
  ∃ y:Shaft,cs=[.string y.name,.int .i64 y.s0,.int .i64 y.s1,.int .i64 y.l0,.int .i64 y.l1,.int .i64 y.w0,.int .i64 y.w1]:=by
 obtain⟨f0,f1,f2,f3,e,a0,b0,a1,b1,a2,b2,a3,b3⟩:=yqa fo65;obtain⟨y0,y1,y2,y3,n,_,hl,t0,t1,t2,t3⟩:=trod_struct4 e h;rw[co65] at hl
 match cs,hl with
 | [c0,c1,c2,c3,c4,c5,c6],_=>rw[a0,b0,co9] at t0;rw[a1,b1,co52] at t1;rw[a2,b2,co52] at t2;rw[a3,b3,co52] at t3;simp only[List.drop,List.take] at t0 t1 t2 t3;obtain⟨s,h0,_⟩:=DataW.trod_string ul9 t0;obtain⟨u1,v1,rfl,rfl⟩:=yja t1;obtain⟨u2,v2,rfl,rfl⟩:=yja t2;obtain⟨u3,v3,rfl,rfl⟩:=yja t3;simp at h0;subst h0;exact⟨⟨s,u1,v1,u2,v2,u3,v3⟩,rfl⟩
theorem yFb{a:Addr}{w:World}{v:Value}{k:Nat}(h:w.cell? (a.add k)=some v)(hk:k=0):a=⟨a.block,a.off,none⟩:=by
 subst hk;simp only[Addr.add,if_true] at h;unfold World.cell? at h;obtain⟨b,o,sp⟩:=a;cases sp with
 |none=>rfl
 |some s=>
  dsimp only at h;split at h
  ·simp at h
  ·cases h
theorem open_shafts{fuel:Nat}{v:Value}{x:DataW H×List MemPlace}(h:DataW.trod enc Tryz.prog W base sp held fuel 24 [v]=some x):∃(A:Option Addr) (n c:Nat) (sh:Nat→Shaft),v=.slice A n c∧n≤c∧zA W A n sh:=by
 rcases Go.Deep.open_slice ul24 h with⟨h0,_⟩|⟨a,len,cap,m,n,D,Pl,h0,hb,hl,hm,hmm,rfl,hx⟩
 ·simp at h0;subst h0;exact⟨none,0,0,fun _=>⟨.empty,0,0,0,0,0,0⟩,rfl,Nat.le_refl _,fun k hk=>by omega⟩
 ·simp at h0;subst h0;have hlm:len≤m:=by rw[hmm];split<;>omega
  have each:∀ i,i<len→∃ y:Shaft,a=⟨a.block,a.off,none⟩∧zKb W a.block (a.off+i*7) y:=by
   intro i hi;obtain⟨cs',h1,h2⟩:=hx i (by omega);rw[co65] at h1;obtain⟨_,hlen,hcell⟩:=World.cells?_some h1;obtain⟨y,rfl⟩:=yEa h2;have hsp:a=⟨a.block,a.off,none⟩:=by
    obtain⟨cs0,g1,g2⟩:=hx 0 (by omega);rw[co65] at g1;obtain⟨_,glen,gcell⟩:=World.cells?_some g1;obtain⟨z,rfl⟩:=yEa g2;have g0:=gcell 0 (by omega);simp only[Nat.zero_mul] at g0;have g3:((a.add 0).add 0)=a.add 0:=by simp[Addr.add]
    rw[g3] at g0;exact yFb (k:=0) g0 rfl
   refine⟨y,hsp,?_⟩;have key:∀ j,(a.add (i*7)).add j=⟨a.block,a.off+i*7+j,none⟩:=by intro j;rw[hsp];unfold Addr.add;by_cases h1:i*7=0<;>by_cases h2:j=0<;>simp[h1,h2]
   have e0:=hcell 0 (by omega);have e1:=hcell 1 (by omega);have e2:=hcell 2 (by omega);have e3:=hcell 3 (by omega);have e4:=hcell 4 (by omega);have e5:=hcell 5 (by omega);have e6:=hcell 6 (by omega);rw[key] at e0 e1 e2 e3 e4 e5 e6;exact⟨by simpa using e0,by simpa using e1,by simpa using e2,by simpa using e3,by simpa using e4,by simpa using e5,by simpa using e6⟩
  refine⟨some a,len,cap,fun i=>if hi:i<len then(each i hi).choose else⟨.empty,0,0,0,0,0,0⟩,rfl,hl,fun k hk=>⟨a.block,a.off,?_,?_⟩⟩
  ·rw[←(each k hk).choose_spec.1]
  ·dsimp only;rw[dif_pos hk];exact(each k hk).choose_spec.2
theorem open_stock{fuel:Nat}{cs:List Value}{x:DataW H×List MemPlace}(h:DataW.trod enc Tryz.prog W base sp held fuel 26 cs=some x) :
  ∃(rs rl rw many:Int) (A:Option Addr) (n c:Nat) (sh:Nat→Shaft),cs=[.int .i64 rs,.int .i64 rl,.int .i64 rw,.int .i64 many,.slice A n c]∧n≤c∧zA W A n sh:=by
 obtain⟨f0,f1,e,a0,b0,a1,b1⟩:=yT fo26;obtain⟨y0,y1,n,_,hl,t0,t1⟩:=trod_struct2 e h;rw[co26] at hl
 match cs,hl with
 | [c0,c1,c2,c3,c4],_=>rw[a0,b0,co23] at t0;rw[a1,b1,co24] at t1;simp only[List.drop,List.take] at t0 t1;obtain⟨a,b,c,d,rfl,rfl,rfl,rfl⟩:=open_rule t0;obtain⟨A,n',cap,sh,rfl,h1,h2⟩:=open_shafts t1;exact⟨a,b,c,d,A,n',cap,sh,rfl,h1,h2⟩
end
end
section
open Go.RowKit Go.Cx Go.Conc Go.ChangeShapes Go.WideShapes Go.ChangeAt
theorem yaa{W:World}{A:Option Addr}{n:Nat}{p:Nat→Int}(h:ye W A n p):ye (strike W) A n p:=fun k hk=>by obtain⟨b,o,e,hx,h2⟩:=h k hk;exact⟨b,o,e,by rw[←(twin_strike W fun _=>True).cell];exact hx,h2⟩
theorem own:ownKnob Tryz.prog.godebug=none:=by kernel_rfl
theorem ymb:laidOutB Tryz.prog=true:=by kernel_rfl
theorem ul4:Tryz.prog.underlying 4=some .bool:=by kernel_rfl
theorem ul57:Tryz.prog.underlying 57=some (.int .u16):=by kernel_rfl
theorem ul58:Tryz.prog.underlying 58=some (.slice 57):=by kernel_rfl
theorem co57:Tryz.prog.cellsOf 57=1:=by kernel_rfl
theorem shut_true{H:Type}{enc:TypeId×Value→H}{w:World}{base:Nat}{sp:Nat→Bool}{held:Bool}:DataW.Trod enc Tryz.prog w base sp held 4 (.bool true) (.lit (.bool true)) []:=by refine⟨1,?_⟩;simp only[DataW.trod,Value.cells,ul4]
theorem yFa{H:Type}{enc:TypeId×Value→H}{W:World}{base:Nat}{sp:Nat→Bool}{held:Bool}{fuel:Nat}{v:Value}{x:DataW H×List MemPlace}(h:DataW.trod enc Tryz.prog W base sp held fuel 58 [v]=some x) :
  ∃(A:Option Addr) (n c:Nat) (p:Nat→Int),v=.slice A n c∧n≤c∧ye W A n p:=by
 rcases Go.Deep.open_slice ul58 h with⟨h0,_⟩|⟨a,len,cap,m,n,D,Pl,h0,hb,hl,hm,hmm,rfl,hx⟩
 ·simp at h0;subst h0;exact⟨none,0,0,fun _=>0,rfl,Nat.le_refl _,fun k hk=>by omega⟩
 ·simp at h0;subst h0;have hlm:len≤m:=by rw[hmm];split<;>omega
  have each:∀ i,i<len→∃ y:Int,a=⟨a.block,a.off,none⟩∧W.cell? ⟨a.block,a.off+i,none⟩=some (.int .u16 y)∧0≤y∧y≤65535:=by
   intro i hi;obtain⟨cs',h1,h2⟩:=hx i (by omega);rw[co57] at h1;obtain⟨_,hlen,hcell⟩:=World.cells?_some h1;obtain⟨y,rfl,_,hwf⟩:=DataW.trod_int ul57 h2;have hsp:a=⟨a.block,a.off,none⟩:=by
    obtain⟨cs0,g1,g2⟩:=hx 0 (by omega);rw[co57] at g1;obtain⟨_,glen,gcell⟩:=World.cells?_some g1;obtain⟨z,rfl,_,_⟩:=DataW.trod_int ul57 g2;have g0:=gcell 0 (by omega);simp only[Nat.zero_mul] at g0;have g3:((a.add 0).add 0)=a.add 0:=by simp[Addr.add]
    rw[g3] at g0;exact yFb (k:=0) g0 rfl
   refine⟨y,hsp,?_,?_⟩
   ·have e0:=hcell 0 (by omega);have key:(a.add (i*1)).add 0=⟨a.block,a.off+i,none⟩:=by
     rw[hsp];unfold Addr.add;by_cases h1:i=0
     ·subst h1;simp
     ·simp[h1]
    rw[key] at e0;simpa using e0
   ·simp[Lit.wf,IntKind.min,IntKind.max,IntKind.signed,IntKind.bits] at hwf;omega
  refine⟨some a,len,cap,fun i=>if hi:i<len then(each i hi).choose else 0,rfl,hl,fun k hk=>⟨a.block,a.off,?_,?_⟩⟩
  ·rw[←(each k hk).choose_spec.1]
  ·dsimp only;rw[dif_pos hk];exact(each k hk).choose_spec.2
end
section
open Go.RowKit Go.Cx Go.Conc Go.ChangeShapes Go.WideShapes Go.ChangeAt
theorem enter9(v0 v1 v2:Value):Frame.enter Tryz.prog 9 #[v0,v1,v2] .normal=(lawFr 9).atR {tmps:=#[v0,v1,v2]++Array.replicate 206 undef,defers:=[]} [.code A9]:=by have hb:Tryz.f9.body=some A9:=rfl;have hn:Tryz.f9.ntmps=209:=rfl;simp[Frame.enter,Frame.atR,Tryz.func9,hb]
theorem most_run(rs rl rw many:Int)(A:Option Addr)(n c:Nat)(sh:Nat→Shaft)(OA:Option Addr)(on oc:Nat)(q:Nat→Int)(PA:Option Addr)(pn pc:Nat)(p:Nat→Int)(W:World)(hc:n≤c)(hpc:pn≤pc)(hsh:zA W A n sh)(hq:ye W OA on q)(hp:ye W PA pn p) :
  ∃ M last o w' t',runNT Tryz.prog (M+1) (solo (G (Frame.enter Tryz.prog 9 #[zga rs rl rw many A n c,.slice OA on oc,.slice PA pn pc] .normal) []) W) #[]=(.ended o w',t') ∧
   runN Tryz.prog M (solo (G (Frame.enter Tryz.prog 9 #[zga rs rl rw many A n c,.slice OA on oc,.slice PA pn pc] .normal) []) W)=.next last∧Go.step Tryz.prog last=.ended o w' ∧
   Go.Conc.Good Tryz.prog (fun v w1=>v=.bool true∧Below W.heap.size W w1) last o w' t':=
 law_run (enter9 _ _ _) fin9 Tryz.func9 rfl (by omega) (most_walk rs rl rw many A n c sh OA on oc q PA pn pc p (strike W) hc hpc (Lib.hid (shafts_strike hsh)) (Lib.hid (yaa hq)) (Lib.hid (yaa hp)))
theorem params9:Tryz.f9.params.toList=[26,58,58]:=rfl
theorem most_lifted(os:Os)(started:os.Started)(H:Type)(enc:TypeId×Value→H) :
  ReturnsInLeavingWide {} Tryz.checked os 9 .any (Rows.arrowMostSpec.pre6 enc Tryz.prog Tryz.f9 Rows.arrowMostRow.domain false) (Rows.arrowMostSpec.post enc Tryz.prog Tryz.f9 false true false false):=by
 refine returnsInLeavingWide_of_change_sized (C:=Tryz.checked) own started Tryz.func9
  (ChangeSpec.witness6 (enc:=enc) (C:=Tryz.checked) false ⟨#[],#[.agg #[.int .i64 0,.int .i64 0,.int .i64 0,.int .i64 0,.slice none 0 0],.slice none 0 0,.slice none 0 0],[]⟩ 8 (by kernel_rfl) (by kernel_rfl) (by kernel_rfl) (by kernel_rfl)) ?_
 intro W base args ds gs before hval0 hW _ _ _;have hval:∀(j:Nat) t v,Tryz.f9.params[j]? = some t→args[j]? = some v→Value.okWide Tryz.prog W .any base t v:=hval0;have hW':=hW;obtain⟨p,q,hA0,hV,rfl,_,_⟩:=hW;have hA:DataW.TrodAll enc Tryz.prog W 0 (fun _=>true) true Tryz.f9.params.toList args.toList ds p:=hA0;rw[params9] at hA;obtain⟨v0,v1,v2,d0,d1,d2,p0,p1,p2,rfl,rfl,rfl,h0,h1,h2⟩:=trodAll_three hA;obtain⟨rfl,rfl⟩:=trodVars_none hV;have hv0:=hval 0 26 v0 rfl rfl;obtain⟨f0,f1,e26,_⟩:=yT fo26;have hagg:∃ cs,v0=.agg cs:=by unfold Value.okWide at hv0;rw[e26] at hv0;obtain⟨cs,h,_⟩:=hv0;exact⟨cs,h⟩
 obtain⟨cs,rfl⟩:=hagg;have h0k:=h0;have h1k:=h1;have h2k:=h2;obtain⟨fuel,hf⟩:=h0;obtain⟨rs,rl,rw',many,A,n,c,sh,hcs,hc,hsh⟩:=open_stock hf;have hcs':cs=#[.int .i64 rs,.int .i64 rl,.int .i64 rw',.int .i64 many,.slice A n c]:=by have:cs.toList=[.int .i64 rs,.int .i64 rl,.int .i64 rw',.int .i64 many,.slice A n c]:=hcs;exact Array.toList_inj.1 this
 subst hcs';obtain⟨fuel1,hf1⟩:=h1;obtain⟨OA0,on0,oc0,rfl⟩:=okWide_slice ul58 (hval 1 58 v1 rfl rfl);obtain⟨OA,on,oc,ok,e1,hoc,hok⟩:=yFa hf1;cases e1;obtain⟨fuel2,hf2⟩:=h2;obtain⟨PA0,pn0,pc0,rfl⟩:=okWide_slice ul58 (hval 2 58 v2 rfl rfl);obtain⟨PA,pn,pc,pk,e2,hpc,hpk⟩:=yFa hf2;cases e2;clear hA0 hval0;have hlt:∀ x,x∈p0∨x∈p1∨x∈p2→x.block<W.heap.size:=fun x hx=>hW'.lt x (by simp;rcases hx with h|h|h<;>simp[h])
 obtain⟨M,last,o,w',t',r1,r2,r3,r4⟩:=most_run rs rl rw' many A n c sh OA0 on0 oc0 ok PA0 pn0 pc0 pk W hc hpc hsh hok hpk;refine⟨M,last,o,w',t',r1,r2,r3,r4.mono fun v hF=>?_⟩;obtain⟨rfl,hb⟩:=hF;refine⟨_,_,_,[],p0++(p1++p2),[],hW',?_,?_,rfl,hb.frame _,fun h=>by cases h⟩
 ·exact trodAll_mk1 (t:=4) (v:=.bool true) (d:=.lit (.bool true)) shut_true
 ·have h3:=trodAll_mk3 (Below.trod ymb (by kernel_rfl) (of_decide_eq_true (by kernel_rfl)) h0k hb fun x hx=>hlt x (.inl hx)) (Below.trod ymb (by kernel_rfl) (of_decide_eq_true (by kernel_rfl)) h1k hb fun x hx=>hlt x (.inr (.inl hx))) (Below.trod ymb (by kernel_rfl) (of_decide_eq_true (by kernel_rfl)) h2k hb fun x hx=>hlt x (.inr (.inr hx)));exact h3
theorem arrowMost_holds:Rows.ArrowMostSaid:=
 OpenClaim.holds_of_wide_leaving 9 Tryz.f9 rfl rfl rfl rfl rfl rfl rfl ⟨rfl,rfl,rfl,rfl,rfl⟩ rfl rfl rfl rfl rfl (by kernel_rfl) Tryz.func9 (by kernel_rfl)
  (of_decide_eq_true (by kernel_rfl)) (by unfold Func.isWrapper;first|(rw[if_pos (by decide +kernel)];kernel_rfl)|(rw[if_neg (by decide +kernel)];exact⟨rfl,rfl⟩))
  (fun os started H enc _=>most_lifted os started H enc)
end
end Go.Proofs.YtpdmgecbapmgdaaGreat
