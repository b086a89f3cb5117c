/- A part of the proof that ArrowMost returns true for every input: no further condition. -/
import Derived.Test.YtpdmgecbapmgdaaGreatGp6
import Derived.Test.YtpdmgecbapmgdaaGreatGp5
import Derived.Test.YtpdmgecbapmgdaaGreatGp3
set_option linter.unusedSimpArgs false
set_option linter.unusedVariables false
set_option maxHeartbeats 4000000
set_option maxRecDepth 100000
namespace Go.Proofs.YtpdmgecbapmgdaaGreat
section
open Go.RowKit
theorem ypb{x:List Nat}(h:x.Pairwise (· < ·)){j k:Nat}(hjk:j<k)(hk:k<x.length):x.getD j 0<x.getD k 0:=by rw[yl hk,yl (show j<x.length by omega)];exact List.pairwise_iff_getElem.1 h j k (by omega) hk hjk
theorem headD_at{x:List Nat}:x.headD 0=x.getD 0 0:=by cases x<;>rfl
theorem ownShare_any(rs rl rw:Int)(mm:Nat)(A:Option Addr)(n c:Nat)(sh:Nat→Shaft)(LA:Option Addr)(c5:Nat)(R:List (List Nat))(PA:Option Addr)(pn pc:Nat)(p:Nat→Int)(W:World)(hc:n≤c)(hpc:pn≤pc)(hst:Hid (zxa rs rl rw mm n sh))(hsh:Hid (zA W A n sh))(hp:Hid (ye W PA pn p))
    (h9:R.length≤9) (hf:R.flatten.length≤9) (hR:Hid (FreeR (setsX rs rl rw sh n mm) (fun _=>false) R)) (hS:Hid (Split R)) (hl:Hid (zlc W (.slice LA R.length c5) R)) :
    CallsIn Fc 0 Tryz.prog 42 #[zga rs rl rw mm A n c,.slice LA R.length c5,.slice PA pn pc] W fun e w'=>e=.returned (.bool true)∧Below W.heap.size W w':=by
  obtain⟨i0,hi0,hz0,hz1,hz2⟩:=info_parts it3;have HI0:=Lib.hid hi0;have HZ0:=Lib.hid hz0;have HZ1:=Lib.hid hz1;have HZ2:=Lib.hid hz2;clear hi0 hz0 hz1 hz2;obtain⟨_,_,e,hlc,hr⟩:=hl.out;cases e;have HRR:=Lib.hid hr;have hn:=hst.out.count;have hm2:2≤mm:=by have:=hst.out.rule.m0;omega
  have hm4:mm≤4:=by have:=hst.out.rule.m1;omega
  clear hr hl;gi_enter Tryz.func42,Tryz.ntmps42;gi_wp2;obtain⟨W1,hW1⟩:∃ w,w=W.alloc (.cells #[.int .i64 rs,.int .i64 rl,.int .i64 rw,.int .i64 mm,.slice A n c] 26):=⟨_,rfl⟩;rw[←hW1];have hb1:Below W.heap.size W W1:=by rw[hW1];exact(Below.refl _ _).alloc (Nat.le_refl _) _
  have hs1:W1.heap.size=W.heap.size+1:=by rw[hW1];simp
  have c0:W1.cell? ⟨W.heap.size,0,none⟩=some (.int .i64 rs):=by rw[hW1];go_simp
  have c1:W1.cell? ⟨W.heap.size,1,none⟩=some (.int .i64 rl):=by rw[hW1];go_simp
  have c2:W1.cell? ⟨W.heap.size,2,none⟩=some (.int .i64 rw):=by rw[hW1];go_simp
  have c3:W1.cell? ⟨W.heap.size,3,none⟩=some (.int .i64 mm):=by rw[hW1];go_simp
  have c4:W1.cell? ⟨W.heap.size,4,none⟩=some (.slice A n c):=by rw[hW1];go_simp
  have C0:=Lib.hid c0;have C1:=Lib.hid c1;have C2:=Lib.hid c2;have C3:=Lib.hid c3;have C4:=Lib.hid c4;have HB1:=Lib.hid hb1;clear c0 c1 c2 c3 c4 hb1 hW1
  gi_loopw [6,7,8] (fun _ v y wr=>∃ i:Nat,i≤R.length∧y=.int .i64 i∧ListAt wr W1.heap.size v (R.take i).flatten∧Below W1.heap.size W1 wr) (fun _ _ y _=>R.length-(intOf y).toNat)
  case atStart=>exact⟨0,by omega,rfl,ListAt.nil _ _,Below.refl _ _⟩
  case round=>
    obtain⟨i,hi,rfl,hla,hbw⟩:=hrel;have HLA:=Lib.hid hla;have HBW:=Lib.hid hbw;clear hla hbw;by_cases hlt:i<R.length
    · obtain⟨b5,o5,LX,kx,rfl,qx,hkx,hix⟩:=HRR.out i hlt;obtain⟨x,hx⟩:∃ x,R.getD i []=x:=⟨_,rfl⟩;have hxm:R.getD i []∈setsX rs rl rw sh n mm:=(hR.out _ (ya hlt)).1;have htk:∀ a,a∈R.getD i []→a∉(R.take i).flatten:=fun a ha=>split_taken hS.out hlt ha
      have hfn:=yF hlt;rw[hx] at qx hkx hix hxm htk hfn;obtain⟨x1,x2,x3,x4⟩:=yf.1 hxm;rw[x3] at qx hkx hix x4;obtain⟨bx,ox,rfl,qx0⟩:=hix 0 (by omega)
      replace qx0:W.cell? ⟨bx,ox+0,none⟩=some (.int .i64 ((x.getD 0 0:Nat):Int)):=qx0
      rw[Nat.add_zero] at qx0;obtain⟨x0,hx0⟩:∃ x0,x.getD 0 0=x0:=⟨_,rfl⟩;rw[hx0] at qx0;have hIX:∀ w,Below W1.heap.size W1 w→zca w (some ⟨bx,ox,none⟩) mm (fun k=>((x.getD k 0:Nat):Int)):=fun w hb=>hix.below (HB1.out.trans (hb.mono HB1.out.size))
      have hasc:=fun w (hb:Below W1.heap.size W1 w)=>yK (some ⟨bx,ox,none⟩) mm kx (fun k=>x.getD k 0) n w (by omega) (by omega) hkx (Lib.hid (hIX w hb)) (Lib.hid fun j hj=>x2 _ (ya (by omega))) (Lib.hid fun j hj=>ypb x1 (by omega) (by omega))
      have hmat:∀ w,Below W1.heap.size W1 w→CallsIn Fc 0 Tryz.prog 35 #[zga rs rl rw mm A n c,.slice (some ⟨bx,ox,none⟩) mm kx,.slice PA pn pc] w fun e w'=>e=.returned (.bool true)∧Below w.heap.size w w':=fun w hb=>by
        have hbw:=HB1.out.trans (hb.mono HB1.out.size);refine(matched_any rs rl rw mm A n c sh (some ⟨bx,ox,none⟩) mm kx (fun k=>x.getD k 0) PA pn pc p w hc hpc (by omega) hkx hst (Lib.hid (hsh.out.below hbw)) (Lib.hid fun k hk=>x2 _ (ya (by omega))) (Lib.hid (hIX w hb)) (Lib.hid (hp.out.below hbw))).mono ?_;rintro e w' ⟨g,rfl,hg,hb'⟩;have htr:yTb sh n (realZ sh pn p):=fun j hj w hw=>by have a1:=(hst.out.each j hj).spans;exact yca (a1.up w hw) (yG hp.out (3*j+w)).1
        exact⟨by rw[hg.2 (matched_yes hst.out.rule (fun k hk=>x2 _ (ya (by omega))) htr x4)],hb'⟩
      have hhas:∀(LT:Option Addr) (T:List Nat) (lt k:Nat) (w:World),T.length≤9→T.length≤lt→(R.take i).flatten=T→k<mm→Hid (zca w LT T.length fun k=>((T.getD k 0:Nat):Int))→CallsIn Fc 0 Tryz.prog 40 #[.slice LT T.length lt,.int .i64 ((x.getD k 0:Nat):Int)] w fun e w'=>e=.returned (.bool false)∧w=w':=fun LT T lt k w h1 h2 h3 h4 h5=>by
        refine(yPa LT T.length lt (fun k=>T.getD k 0) (x.getD k 0) w h1 h2 h5).mono ?_;rintro e w' ⟨g,rfl,hg,rfl⟩;refine⟨?_,rfl⟩;cases g with
        |false=>rfl
        |true=>obtain⟨j,hj,e⟩:=hg.1 rfl;refine absurd ?_ (htk (x.getD k 0) (ya (by omega)));rw[h3,←e];exact ya hj
      have QX0:Hid (wr.cell? ⟨bx,ox,none⟩=some (.int .i64 (x0:Int))):=Lib.hid (Below.old HBW.out (Below.old HB1.out qx0));have q5:=Below.old HBW.out (Below.old HB1.out qx);have hints:=hIX wr HBW.out;have hxel:x=(List.range mm).map fun k=>x.getD k 0:=by
        refine List.ext_getElem (by simp[x3]) fun j h1 h2=>?_
        rw[List.getElem_map,List.getElem_range,yl h1]
      have hcl:∀(j:Nat) (u:Value),(x.map intV)[j]? = some u→wr.cell? ((⟨bx,ox,none⟩:Addr).add j)=some u:=yHa (by rw[x3];exact hints);have HCL:=Lib.hid hcl;have HINT:=Lib.hid hints;have HASC:=Lib.hid hasc;have HMAT:=Lib.hid hmat;have HHAS:=Lib.hid hhas;have HFN:=Lib.hid hfn;have HX:=Lib.hid hx;have X3:=Lib.hid x3;have hltI:(i:Int)<(R.length:Int):=by omega
      have h99:i<9:=by omega
      obtain⟨T,hT⟩:∃ T,(R.take i).flatten=T:=⟨_,rfl⟩;have hT9:T.length+mm≤9:=by
        have h1:((R.take (i+1)).flatten).length≤R.flatten.length:=by
          conv=>rhs;rw[←List.take_append_drop (i+1) R]
          rw[List.flatten_append,List.length_append];omega
        rw[hfn,List.length_append,hT,x3] at h1;omega
      have hla:=HLA.out;rw[hT] at hla HFN;obtain⟨LT,lt,rfl,hlt',hit⟩:=hla.shape;have HT:=Lib.hid hT;have HLAT:=Lib.hid hla;have HIT:=Lib.hid hit;clear hints hcl hasc hmat hhas hfn hxm htk hx x1 x2 x4 hix hIX qx qx0 hxel hla HLA hit hT;cases i with
      |zero=>
        rw[Nat.add_zero] at q5;rw[show((0:Nat):Int)=0 from rfl] at hltI ⊢;gi_wp2
        refine zL (D:=[(21,.slice (some ⟨bx,ox,none⟩) mm kx),(22,.pointer (some ⟨W.heap.size,4,none⟩)),(23,.slice A n c),(24,.int .i64 n),(25,.int .i64 0),(26,.bool false),(27,.bool false),(28,.slice (some ⟨bx,ox,none⟩) mm kx),(29,.int .i64 mm),(30,.pointer (some ⟨W.heap.size,0,none⟩)),(31,.pointer (some ⟨W.heap.size,3,none⟩)),(32,.int .i64 mm),(33,.bool false),(34,.bool false),(35,.bool false),(36,zga rs rl rw mm A n c),(37,.slice (some ⟨bx,ox,none⟩) mm kx),(38,.slice PA pn pc),(39,.bool true),(40,.bool false),(41,.bool false),(42,.bool false),(43,.int .i64 0),(44,.bool false),(45,.bool false),(46,undef),(47,undef),(48,undef),(49,undef),(50,undef),(51,undef),(52,undef),(53,undef),(54,undef),(55,undef),(56,undef),(57,.bool false),(58,.bool false)])
          (I:=fun w=>Below wr.heap.size wr w) (z:=74) (by kernel_rfl) (by kernel_rfl) (by kernel_rfl) (by kernel_rfl) (by kernel_rfl) rfl rfl (Below.refl _ _).drew ?_ ?_
        · intro j a w hj hd hz hold hf hI;have HI:=Lib.hid hI;have d0:=Below.old HBW.out C0.out;have d1:=Below.old HBW.out C1.out;have d2:=Below.old HBW.out C2.out;have d3:=Below.old HBW.out C3.out;have d4:=Below.old HBW.out C4.out;have d0:=Below.old hI d0;have d1:=Below.old hI d1;have d2:=Below.old hI d2;have d3:=Below.old hI d3;have d4:=Below.old hI d4;have qx:=Below.old hI QX0.out;clear hI;have s1:=zc hz (hold 1 (by kernel_rfl)) (by omega);have s2:=zc hz (hold 2 (by kernel_rfl)) (by omega);have s3:=zc hz (hold 3 (by kernel_rfl)) (by omega);have s8:=zc hz (hold 8 (by kernel_rfl)) (by omega);have s9:=zc hz (hold 9 (by kernel_rfl)) (by omega);clear hold
          have hjs:j=0∨j=1∨j=2∨j=3∨j=4∨j=5∨j=6∨j=7∨j=8∨j=9∨j=10∨j=11∨j=12∨j=13∨j=14∨j=15∨j=16∨j=17∨j=18∨j=19∨j=20∨j=21∨j=22∨j=23∨j=24∨j=25∨j=26∨j=27∨j=28∨j=29∨j=30∨j=31∨j=32∨j=33∨j=34∨j=35∨j=36∨j=37:=by have:j<38:=hj;omega
          rcases hjs with rfl|rfl|rfl|rfl|rfl|rfl|rfl|rfl|rfl|rfl|rfl|rfl|rfl|rfl|rfl|rfl|rfl|rfl|rfl|rfl|rfl|rfl|rfl|rfl|rfl|rfl|rfl|rfl|rfl|rfl|rfl|rfl|rfl|rfl|rfl|rfl|rfl|rfl
          · refine wpOpIn_step rfl fun K hK=>?_
            go_simp
            first|exact hK _ _ ⟨_,_,rfl,rfl,rfl,HI.out⟩|exact hK _ _ ⟨_,_,rfl,hd,rfl,HI.out⟩
          · refine wpOpIn_step rfl fun K hK=>?_
            go_simp
            first|exact hK _ _ ⟨_,_,rfl,rfl,rfl,HI.out⟩|exact hK _ _ ⟨_,_,rfl,hd,rfl,HI.out⟩
          · have f22:=zc hz (hf 1 22 _ (by kernel_rfl) rfl) (by omega);refine wpOpIn_step rfl fun K hK=>?_
            go_simp
            first|exact hK _ _ ⟨_,_,rfl,rfl,rfl,HI.out⟩|exact hK _ _ ⟨_,_,rfl,hd,rfl,HI.out⟩
          · have f23:=zc hz (hf 2 23 _ (by kernel_rfl) rfl) (by omega);refine wpOpIn_step rfl fun K hK=>?_
            go_simp
            first|exact hK _ _ ⟨_,_,rfl,rfl,rfl,HI.out⟩|exact hK _ _ ⟨_,_,rfl,hd,rfl,HI.out⟩
          · have f21:=zc hz (hf 0 21 _ (by kernel_rfl) rfl) (by omega);have f24:=zc hz (hf 3 24 _ (by kernel_rfl) rfl) (by omega);refine wpOpIn_step rfl fun K hK=>?_
            go_simp;refine(HASC.out w (HBW.out.trans (HI.out.mono HBW.out.size))).mono ?_;rintro e w' ⟨rfl,hb'⟩;exact hK _ _ ⟨_,_,rfl,rfl,rfl,(HI.out.trans (hb'.mono HI.out.size))⟩
          · have f25:=zc hz (hf 4 25 _ (by kernel_rfl) rfl) (by omega);refine wpOpIn_step rfl fun K hK=>?_
            go_simp
            first|exact hK _ _ ⟨_,_,rfl,rfl,rfl,HI.out⟩|exact hK _ _ ⟨_,_,rfl,hd,rfl,HI.out⟩
          · have f26:=zc hz (hf 5 26 _ (by kernel_rfl) rfl) (by omega);refine wpOpIn_step rfl fun K hK=>?_
            go_simp
            first|exact hK _ _ ⟨_,_,rfl,rfl,rfl,HI.out⟩|exact hK _ _ ⟨_,_,rfl,hd,rfl,HI.out⟩
          · have f27:=zc hz (hf 6 27 _ (by kernel_rfl) rfl) (by omega);refine wpOpIn_step rfl fun K hK=>?_
            go_simp
            first|exact hK _ _ ⟨_,_,rfl,rfl,rfl,HI.out⟩|exact hK _ _ ⟨_,_,rfl,hd,rfl,HI.out⟩
          · have f27:=zc hz (hf 6 27 _ (by kernel_rfl) rfl) (by omega);have f28:=zc hz (hf 7 28 _ (by kernel_rfl) rfl) (by omega);refine wpOpIn_step rfl fun K hK=>?_
            go_simp
            first|exact hK _ _ ⟨_,_,rfl,rfl,rfl,HI.out⟩|exact hK _ _ ⟨_,_,rfl,hd,rfl,HI.out⟩
          · have f27:=zc hz (hf 6 27 _ (by kernel_rfl) rfl) (by omega);refine wpOpIn_step rfl fun K hK=>?_
            go_simp
            first|exact hK _ _ ⟨_,_,rfl,rfl,rfl,HI.out⟩|exact hK _ _ ⟨_,_,rfl,hd,rfl,HI.out⟩
          · have f27:=zc hz (hf 6 27 _ (by kernel_rfl) rfl) (by omega);have f30:=zc hz (hf 9 30 _ (by kernel_rfl) rfl) (by omega);refine wpOpIn_step rfl fun K hK=>?_
            go_simp
            first|exact hK _ _ ⟨_,_,rfl,rfl,rfl,HI.out⟩|exact hK _ _ ⟨_,_,rfl,hd,rfl,HI.out⟩
          · have f27:=zc hz (hf 6 27 _ (by kernel_rfl) rfl) (by omega);have f31:=zc hz (hf 10 31 _ (by kernel_rfl) rfl) (by omega);refine wpOpIn_step rfl fun K hK=>?_
            go_simp
            first|exact hK _ _ ⟨_,_,rfl,rfl,rfl,HI.out⟩|exact hK _ _ ⟨_,_,rfl,hd,rfl,HI.out⟩
          · have f27:=zc hz (hf 6 27 _ (by kernel_rfl) rfl) (by omega);have f29:=zc hz (hf 8 29 _ (by kernel_rfl) rfl) (by omega);have f32:=zc hz (hf 11 32 _ (by kernel_rfl) rfl) (by omega);refine wpOpIn_step rfl fun K hK=>?_
            go_simp
            first|exact hK _ _ ⟨_,_,rfl,rfl,rfl,HI.out⟩|exact hK _ _ ⟨_,_,rfl,hd,rfl,HI.out⟩
          · have f27:=zc hz (hf 6 27 _ (by kernel_rfl) rfl) (by omega);have f33:=zc hz (hf 12 33 _ (by kernel_rfl) rfl) (by omega);refine wpOpIn_step rfl fun K hK=>?_
            go_simp
            first|exact hK _ _ ⟨_,_,rfl,rfl,rfl,HI.out⟩|exact hK _ _ ⟨_,_,rfl,hd,rfl,HI.out⟩
          · have f34:=zc hz (hf 13 34 _ (by kernel_rfl) rfl) (by omega);refine wpOpIn_step rfl fun K hK=>?_
            go_simp
            first|exact hK _ _ ⟨_,_,rfl,rfl,rfl,HI.out⟩|exact hK _ _ ⟨_,_,rfl,hd,rfl,HI.out⟩
          · have f35:=zc hz (hf 14 35 _ (by kernel_rfl) rfl) (by omega);refine wpOpIn_step rfl fun K hK=>?_
            go_simp
            first|exact hK _ _ ⟨_,_,rfl,rfl,rfl,HI.out⟩|exact hK _ _ ⟨_,_,rfl,hd,rfl,HI.out⟩
          · have f35:=zc hz (hf 14 35 _ (by kernel_rfl) rfl) (by omega);refine wpOpIn_step rfl fun K hK=>?_
            go_simp
            first|exact hK _ _ ⟨_,_,rfl,rfl,rfl,HI.out⟩|exact hK _ _ ⟨_,_,rfl,hd,rfl,HI.out⟩
          · have f35:=zc hz (hf 14 35 _ (by kernel_rfl) rfl) (by omega);refine wpOpIn_step rfl fun K hK=>?_
            go_simp
            first|exact hK _ _ ⟨_,_,rfl,rfl,rfl,HI.out⟩|exact hK _ _ ⟨_,_,rfl,hd,rfl,HI.out⟩
          · have f35:=zc hz (hf 14 35 _ (by kernel_rfl) rfl) (by omega);have f36:=zc hz (hf 15 36 _ (by kernel_rfl) rfl) (by omega);have f37:=zc hz (hf 16 37 _ (by kernel_rfl) rfl) (by omega);have f38:=zc hz (hf 17 38 _ (by kernel_rfl) rfl) (by omega);refine wpOpIn_step rfl fun K hK=>?_
            go_simp;refine(HMAT.out w (HBW.out.trans (HI.out.mono HBW.out.size))).mono ?_;rintro e w' ⟨rfl,hb'⟩;exact hK _ _ ⟨_,_,rfl,rfl,rfl,(HI.out.trans (hb'.mono HI.out.size))⟩
          · have f35:=zc hz (hf 14 35 _ (by kernel_rfl) rfl) (by omega);have f39:=zc hz (hf 18 39 _ (by kernel_rfl) rfl) (by omega);refine wpOpIn_step rfl fun K hK=>?_
            go_simp
            first|exact hK _ _ ⟨_,_,rfl,rfl,rfl,HI.out⟩|exact hK _ _ ⟨_,_,rfl,hd,rfl,HI.out⟩
          · have f35:=zc hz (hf 14 35 _ (by kernel_rfl) rfl) (by omega);have f40:=zc hz (hf 19 40 _ (by kernel_rfl) rfl) (by omega);refine wpOpIn_step rfl fun K hK=>?_
            go_simp
            first|exact hK _ _ ⟨_,_,rfl,rfl,rfl,HI.out⟩|exact hK _ _ ⟨_,_,rfl,hd,rfl,HI.out⟩
          · have f41:=zc hz (hf 20 41 _ (by kernel_rfl) rfl) (by omega);refine wpOpIn_step rfl fun K hK=>?_
            go_simp
            first|exact hK _ _ ⟨_,_,rfl,rfl,rfl,HI.out⟩|exact hK _ _ ⟨_,_,rfl,hd,rfl,HI.out⟩
          · have f42:=zc hz (hf 21 42 _ (by kernel_rfl) rfl) (by omega);refine wpOpIn_step rfl fun K hK=>?_
            go_simp
            first|exact hK _ _ ⟨_,_,rfl,rfl,rfl,HI.out⟩|exact hK _ _ ⟨_,_,rfl,hd,rfl,HI.out⟩
          · have f42:=zc hz (hf 21 42 _ (by kernel_rfl) rfl) (by omega);have f43:=zc hz (hf 22 43 _ (by kernel_rfl) rfl) (by omega);refine wpOpIn_step rfl fun K hK=>?_
            go_simp
            first|exact hK _ _ ⟨_,_,rfl,rfl,rfl,HI.out⟩|exact hK _ _ ⟨_,_,rfl,hd,rfl,HI.out⟩
          · have f42:=zc hz (hf 21 42 _ (by kernel_rfl) rfl) (by omega);have f44:=zc hz (hf 23 44 _ (by kernel_rfl) rfl) (by omega);refine wpOpIn_step rfl fun K hK=>?_
            go_simp
            first|exact hK _ _ ⟨_,_,rfl,rfl,rfl,HI.out⟩|exact hK _ _ ⟨_,_,rfl,hd,rfl,HI.out⟩
          · have f45:=zc hz (hf 24 45 _ (by kernel_rfl) rfl) (by omega);refine wpOpIn_step rfl fun K hK=>?_
            go_simp
            first|exact hK _ _ ⟨_,_,rfl,rfl,rfl,HI.out⟩|exact hK _ _ ⟨_,_,rfl,hd,rfl,HI.out⟩
          · have f45:=zc hz (hf 24 45 _ (by kernel_rfl) rfl) (by omega);refine wpOpIn_step rfl fun K hK=>?_
            go_simp
            first|exact hK _ _ ⟨_,_,rfl,rfl,rfl,HI.out⟩|exact hK _ _ ⟨_,_,rfl,hd,rfl,HI.out⟩
          · have f45:=zc hz (hf 24 45 _ (by kernel_rfl) rfl) (by omega);refine wpOpIn_step rfl fun K hK=>?_
            go_simp
            first|exact hK _ _ ⟨_,_,rfl,rfl,rfl,HI.out⟩|exact hK _ _ ⟨_,_,rfl,hd,rfl,HI.out⟩
          · have f45:=zc hz (hf 24 45 _ (by kernel_rfl) rfl) (by omega);refine wpOpIn_step rfl fun K hK=>?_
            go_simp
            first|exact hK _ _ ⟨_,_,rfl,rfl,rfl,HI.out⟩|exact hK _ _ ⟨_,_,rfl,hd,rfl,HI.out⟩
          · have f45:=zc hz (hf 24 45 _ (by kernel_rfl) rfl) (by omega);refine wpOpIn_step rfl fun K hK=>?_
            go_simp
            first|exact hK _ _ ⟨_,_,rfl,rfl,rfl,HI.out⟩|exact hK _ _ ⟨_,_,rfl,hd,rfl,HI.out⟩
          · have f45:=zc hz (hf 24 45 _ (by kernel_rfl) rfl) (by omega);refine wpOpIn_step rfl fun K hK=>?_
            go_simp
            first|exact hK _ _ ⟨_,_,rfl,rfl,rfl,HI.out⟩|exact hK _ _ ⟨_,_,rfl,hd,rfl,HI.out⟩
          · have f45:=zc hz (hf 24 45 _ (by kernel_rfl) rfl) (by omega);refine wpOpIn_step rfl fun K hK=>?_
            go_simp
            first|exact hK _ _ ⟨_,_,rfl,rfl,rfl,HI.out⟩|exact hK _ _ ⟨_,_,rfl,hd,rfl,HI.out⟩
          · have f45:=zc hz (hf 24 45 _ (by kernel_rfl) rfl) (by omega);refine wpOpIn_step rfl fun K hK=>?_
            go_simp
            first|exact hK _ _ ⟨_,_,rfl,rfl,rfl,HI.out⟩|exact hK _ _ ⟨_,_,rfl,hd,rfl,HI.out⟩
          · have f45:=zc hz (hf 24 45 _ (by kernel_rfl) rfl) (by omega);refine wpOpIn_step rfl fun K hK=>?_
            go_simp
            first|exact hK _ _ ⟨_,_,rfl,rfl,rfl,HI.out⟩|exact hK _ _ ⟨_,_,rfl,hd,rfl,HI.out⟩
          · have f45:=zc hz (hf 24 45 _ (by kernel_rfl) rfl) (by omega);refine wpOpIn_step rfl fun K hK=>?_
            go_simp
            first|exact hK _ _ ⟨_,_,rfl,rfl,rfl,HI.out⟩|exact hK _ _ ⟨_,_,rfl,hd,rfl,HI.out⟩
          · have f45:=zc hz (hf 24 45 _ (by kernel_rfl) rfl) (by omega);refine wpOpIn_step rfl fun K hK=>?_
            go_simp
            first|exact hK _ _ ⟨_,_,rfl,rfl,rfl,HI.out⟩|exact hK _ _ ⟨_,_,rfl,hd,rfl,HI.out⟩
          · have f42:=zc hz (hf 21 42 _ (by kernel_rfl) rfl) (by omega);have f45:=zc hz (hf 24 45 _ (by kernel_rfl) rfl) (by omega);have f56:=zc hz (hf 35 56 _ (by kernel_rfl) rfl) (by omega);refine wpOpIn_step rfl fun K hK=>?_
            go_simp
            first|exact hK _ _ ⟨_,_,rfl,rfl,rfl,HI.out⟩|exact hK _ _ ⟨_,_,rfl,hd,rfl,HI.out⟩
          · have f42:=zc hz (hf 21 42 _ (by kernel_rfl) rfl) (by omega);have f57:=zc hz (hf 36 57 _ (by kernel_rfl) rfl) (by omega);refine wpOpIn_step rfl fun K hK=>?_
            go_simp
            first|exact hK _ _ ⟨_,_,rfl,rfl,rfl,HI.out⟩|exact hK _ _ ⟨_,_,rfl,hd,rfl,HI.out⟩
        intro w5 hI5;have HB5:=Lib.hid (HBW.out.trans (hI5.mono HBW.out.size));have H5:=Lib.hid hI5;clear hI5;simp only[List.foldl_cons,List.foldl_nil,List.setIfInBounds_toArray,List.set_cons_succ,List.set_cons_zero];gi_wp2
        gi_loopw [6,10] (fun _ y wq=>∃ k:Nat,k≤mm∧y=.int .i64 k∧wq=w5) (fun _ y _=>mm-(intOf y).toNat)
        case atStart=>exact⟨0,by omega,rfl,rfl⟩
        case round=>
          obtain⟨k,hk,rfl,hwq⟩:=hrel;have hwq':=hwq.symm;subst hwq';by_cases hkm:k<mm
          · have hkI:(k:Int)<(mm:Int):=by omega
            have k9:k<9:=by omega
            have qk:wr.cell? ⟨bx,ox+k,none⟩=some (.int .i64 ((x.getD k 0:Nat):Int)):=by obtain⟨_,_,e,q⟩:=HINT.out k hkm;cases e;exact q
            have qk:=Below.old H5.out qk;have hcall:=HHAS.out LT T lt k w5 (by omega) hlt' HT.out hkm (Lib.hid (HIT.out.below H5.out));have HCALL:=Lib.hid hcall;clear hcall;obtain⟨xk,hxk⟩:∃ xk,x.getD k 0=xk:=⟨_,rfl⟩;rw[hxk] at qk HCALL;clear hxk
            gi_wp2_with (gi_at_call 40;refine HCALL.out.mono ?_;rintro e w7 ⟨rfl,rfl⟩)
            go_roundw
            case rel=>exact⟨k+1,by omega,by go_num,trivial⟩
            case measure=>simp[intOf];omega
          · obtain rfl:k=mm:=by omega
            have hkI:¬(k:Int)<(k:Int):=by omega
            gi_wp2_with
              (gi_at_builtin
               refine wpListIn_append_own _ rfl _ _ 27 rfl W1.heap.size 3 i0 (.int .i64 0) 1 8 ut27 HI0.out HZ0.out HZ1.out HZ2.out rfl (by decide) (.slice LT T.length lt) T.length (T.map intV) rfl (HLAT.out.below H5.out) ⟨bx,ox,none⟩ k kx (x.map intV) rfl (by rw[List.length_map,X3.out,Nat.mul_one]) (fun j u hu=>Below.old H5.out (HCL.out j u hu)) (by intro u hu;obtain⟨n,_,rfl⟩:=List.mem_map.1 hu;rfl) (by simp[maxLen];omega) (by omega) (HB5.out.size) ?_;intro v' w8 hown4 hg4 hnil4;have HO:=Lib.hid hown4;have HG:=Lib.hid hg4;clear hg4 hnil4 hown4)
            refine⟨⟨0+1,by omega,by first|rfl|trivial,?_,HB5.out.grown HG.out HB5.out.size fun g hg=>(zfb HLAT.out hg).1⟩,by simp[intOf];omega⟩;rw[HFN.out];have h:=HO.out;show w8.ownsRow W1.heap.size 3 1 v' (T++x).length ((T++x).map intV);rw[List.map_append,List.length_append,X3.out];exact h
      |succ p=>
        obtain⟨_,_,LY,ky,e,qy,hky,hiy⟩:=HRR.out p (by omega);cases e;obtain⟨y,hy⟩:∃ y,R.getD p []=y:=⟨_,rfl⟩;have hym:R.getD p []∈setsX rs rl rw sh n mm:=(hR.out _ (ya (show p<R.length by omega))).1;have hhd:=(ySa hS.out (Nat.lt_succ_self p) hlt).1;rw[hy] at qy hky hiy hym hhd;have y3:=(yf.1 hym).2.2.1;rw[y3] at qy hky hiy;obtain⟨by_,oy,rfl,qy0⟩:=hiy 0 (by omega)
        replace qy0:W.cell? ⟨by_,oy+0,none⟩=some (.int .i64 ((y.getD 0 0:Nat):Int)):=qy0
        rw[Nat.add_zero] at qy0;obtain⟨y0,hy0⟩:∃ y0,y.getD 0 0=y0:=⟨_,rfl⟩;rw[hy0] at qy0;rw[HX.out,headD_at,headD_at,hy0,hx0] at hhd;have QY:Hid (wr.cell? ⟨b5,o5+p,none⟩=some (.slice (some ⟨by_,oy,none⟩) mm ky)):=Lib.hid (Below.old HBW.out (Below.old HB1.out qy));have QY0:Hid (wr.cell? ⟨by_,oy,none⟩=some (.int .i64 (y0:Int))):=Lib.hid (Below.old HBW.out (Below.old HB1.out qy0));clear qy qy0 hiy hy hym y3 hy0;rw[show((p+1:Nat):Int)=(p:Int)+1 by omega] at hltI ⊢;gi_wp2
        refine zL (D:=[(21,.slice (some ⟨bx,ox,none⟩) mm kx),(22,.pointer (some ⟨W.heap.size,4,none⟩)),(23,.slice A n c),(24,.int .i64 n),(25,.int .i64 0),(26,.bool false),(27,.bool false),(28,.slice (some ⟨bx,ox,none⟩) mm kx),(29,.int .i64 mm),(30,.pointer (some ⟨W.heap.size,0,none⟩)),(31,.pointer (some ⟨W.heap.size,3,none⟩)),(32,.int .i64 mm),(33,.bool false),(34,.bool false),(35,.bool false),(36,zga rs rl rw mm A n c),(37,.slice (some ⟨bx,ox,none⟩) mm kx),(38,.slice PA pn pc),(39,.bool true),(40,.bool false),(41,.bool false),(42,.bool false),(43,.int .i64 ((p:Int)+1)),(44,.bool true),(45,.bool true),(46,.slice (some ⟨bx,ox,none⟩) mm kx),(47,.pointer (some ⟨bx,ox,none⟩)),(48,.int .i64 x0),(49,.slice (some ⟨b5,o5,none⟩) R.length c5),(50,.int .i64 ((p:Int)+1)),(51,.int .i64 p),(52,.pointer (some ⟨b5,o5+p,none⟩)),(53,.slice (some ⟨by_,oy,none⟩) mm ky),(54,.pointer (some ⟨by_,oy,none⟩)),(55,.int .i64 y0),(56,.bool false),(57,.bool false),(58,.bool false)])
          (I:=fun w=>Below wr.heap.size wr w) (z:=74) (by kernel_rfl) (by kernel_rfl) (by kernel_rfl) (by kernel_rfl) (by kernel_rfl) rfl rfl (Below.refl _ _).drew ?_ ?_
        · intro j a w hj hd hz hold hf hI;have HI:=Lib.hid hI;have d0:=Below.old HBW.out C0.out;have d1:=Below.old HBW.out C1.out;have d2:=Below.old HBW.out C2.out;have d3:=Below.old HBW.out C3.out;have d4:=Below.old HBW.out C4.out;have d0:=Below.old hI d0;have d1:=Below.old hI d1;have d2:=Below.old hI d2;have d3:=Below.old hI d3;have d4:=Below.old hI d4;have qx:=Below.old hI QX0.out;have qy:=Below.old hI QY.out;have qy0:=Below.old hI QY0.out;have hwp:=yL (n:=(p:Int)) (by omega) (by omega);have hpI:(p:Int)<(R.length:Int):=by omega
          have hmN:0<mm:=by omega
          have hxy:¬(x0:Int)≤(y0:Int):=by omega
          clear hI;have s1:=zc hz (hold 1 (by kernel_rfl)) (by omega);have s2:=zc hz (hold 2 (by kernel_rfl)) (by omega);have s3:=zc hz (hold 3 (by kernel_rfl)) (by omega);have s8:=zc hz (hold 8 (by kernel_rfl)) (by omega);have s9:=zc hz (hold 9 (by kernel_rfl)) (by omega);clear hold;have hjs:j=0∨j=1∨j=2∨j=3∨j=4∨j=5∨j=6∨j=7∨j=8∨j=9∨j=10∨j=11∨j=12∨j=13∨j=14∨j=15∨j=16∨j=17∨j=18∨j=19∨j=20∨j=21∨j=22∨j=23∨j=24∨j=25∨j=26∨j=27∨j=28∨j=29∨j=30∨j=31∨j=32∨j=33∨j=34∨j=35∨j=36∨j=37:=by have:j<38:=hj;omega
          rcases hjs with rfl|rfl|rfl|rfl|rfl|rfl|rfl|rfl|rfl|rfl|rfl|rfl|rfl|rfl|rfl|rfl|rfl|rfl|rfl|rfl|rfl|rfl|rfl|rfl|rfl|rfl|rfl|rfl|rfl|rfl|rfl|rfl|rfl|rfl|rfl|rfl|rfl|rfl
          · refine wpOpIn_step rfl fun K hK=>?_
            go_simp
            first|exact hK _ _ ⟨_,_,rfl,rfl,rfl,HI.out⟩|exact hK _ _ ⟨_,_,rfl,hd,rfl,HI.out⟩
          · refine wpOpIn_step rfl fun K hK=>?_
            go_simp
            first|exact hK _ _ ⟨_,_,rfl,rfl,rfl,HI.out⟩|exact hK _ _ ⟨_,_,rfl,hd,rfl,HI.out⟩
          · have f22:=zc hz (hf 1 22 _ (by kernel_rfl) rfl) (by omega);refine wpOpIn_step rfl fun K hK=>?_
            go_simp
            first|exact hK _ _ ⟨_,_,rfl,rfl,rfl,HI.out⟩|exact hK _ _ ⟨_,_,rfl,hd,rfl,HI.out⟩
          · have f23:=zc hz (hf 2 23 _ (by kernel_rfl) rfl) (by omega);refine wpOpIn_step rfl fun K hK=>?_
            go_simp
            first|exact hK _ _ ⟨_,_,rfl,rfl,rfl,HI.out⟩|exact hK _ _ ⟨_,_,rfl,hd,rfl,HI.out⟩
          · have f21:=zc hz (hf 0 21 _ (by kernel_rfl) rfl) (by omega);have f24:=zc hz (hf 3 24 _ (by kernel_rfl) rfl) (by omega);refine wpOpIn_step rfl fun K hK=>?_
            go_simp;refine(HASC.out w (HBW.out.trans (HI.out.mono HBW.out.size))).mono ?_;rintro e w' ⟨rfl,hb'⟩;exact hK _ _ ⟨_,_,rfl,rfl,rfl,(HI.out.trans (hb'.mono HI.out.size))⟩
          · have f25:=zc hz (hf 4 25 _ (by kernel_rfl) rfl) (by omega);refine wpOpIn_step rfl fun K hK=>?_
            go_simp
            first|exact hK _ _ ⟨_,_,rfl,rfl,rfl,HI.out⟩|exact hK _ _ ⟨_,_,rfl,hd,rfl,HI.out⟩
          · have f26:=zc hz (hf 5 26 _ (by kernel_rfl) rfl) (by omega);refine wpOpIn_step rfl fun K hK=>?_
            go_simp
            first|exact hK _ _ ⟨_,_,rfl,rfl,rfl,HI.out⟩|exact hK _ _ ⟨_,_,rfl,hd,rfl,HI.out⟩
          · have f27:=zc hz (hf 6 27 _ (by kernel_rfl) rfl) (by omega);refine wpOpIn_step rfl fun K hK=>?_
            go_simp
            first|exact hK _ _ ⟨_,_,rfl,rfl,rfl,HI.out⟩|exact hK _ _ ⟨_,_,rfl,hd,rfl,HI.out⟩
          · have f27:=zc hz (hf 6 27 _ (by kernel_rfl) rfl) (by omega);have f28:=zc hz (hf 7 28 _ (by kernel_rfl) rfl) (by omega);refine wpOpIn_step rfl fun K hK=>?_
            go_simp
            first|exact hK _ _ ⟨_,_,rfl,rfl,rfl,HI.out⟩|exact hK _ _ ⟨_,_,rfl,hd,rfl,HI.out⟩
          · have f27:=zc hz (hf 6 27 _ (by kernel_rfl) rfl) (by omega);refine wpOpIn_step rfl fun K hK=>?_
            go_simp
            first|exact hK _ _ ⟨_,_,rfl,rfl,rfl,HI.out⟩|exact hK _ _ ⟨_,_,rfl,hd,rfl,HI.out⟩
          · have f27:=zc hz (hf 6 27 _ (by kernel_rfl) rfl) (by omega);have f30:=zc hz (hf 9 30 _ (by kernel_rfl) rfl) (by omega);refine wpOpIn_step rfl fun K hK=>?_
            go_simp
            first|exact hK _ _ ⟨_,_,rfl,rfl,rfl,HI.out⟩|exact hK _ _ ⟨_,_,rfl,hd,rfl,HI.out⟩
          · have f27:=zc hz (hf 6 27 _ (by kernel_rfl) rfl) (by omega);have f31:=zc hz (hf 10 31 _ (by kernel_rfl) rfl) (by omega);refine wpOpIn_step rfl fun K hK=>?_
            go_simp
            first|exact hK _ _ ⟨_,_,rfl,rfl,rfl,HI.out⟩|exact hK _ _ ⟨_,_,rfl,hd,rfl,HI.out⟩
          · have f27:=zc hz (hf 6 27 _ (by kernel_rfl) rfl) (by omega);have f29:=zc hz (hf 8 29 _ (by kernel_rfl) rfl) (by omega);have f32:=zc hz (hf 11 32 _ (by kernel_rfl) rfl) (by omega);refine wpOpIn_step rfl fun K hK=>?_
            go_simp
            first|exact hK _ _ ⟨_,_,rfl,rfl,rfl,HI.out⟩|exact hK _ _ ⟨_,_,rfl,hd,rfl,HI.out⟩
          · have f27:=zc hz (hf 6 27 _ (by kernel_rfl) rfl) (by omega);have f33:=zc hz (hf 12 33 _ (by kernel_rfl) rfl) (by omega);refine wpOpIn_step rfl fun K hK=>?_
            go_simp
            first|exact hK _ _ ⟨_,_,rfl,rfl,rfl,HI.out⟩|exact hK _ _ ⟨_,_,rfl,hd,rfl,HI.out⟩
          · have f34:=zc hz (hf 13 34 _ (by kernel_rfl) rfl) (by omega);refine wpOpIn_step rfl fun K hK=>?_
            go_simp
            first|exact hK _ _ ⟨_,_,rfl,rfl,rfl,HI.out⟩|exact hK _ _ ⟨_,_,rfl,hd,rfl,HI.out⟩
          · have f35:=zc hz (hf 14 35 _ (by kernel_rfl) rfl) (by omega);refine wpOpIn_step rfl fun K hK=>?_
            go_simp
            first|exact hK _ _ ⟨_,_,rfl,rfl,rfl,HI.out⟩|exact hK _ _ ⟨_,_,rfl,hd,rfl,HI.out⟩
          · have f35:=zc hz (hf 14 35 _ (by kernel_rfl) rfl) (by omega);refine wpOpIn_step rfl fun K hK=>?_
            go_simp
            first|exact hK _ _ ⟨_,_,rfl,rfl,rfl,HI.out⟩|exact hK _ _ ⟨_,_,rfl,hd,rfl,HI.out⟩
          · have f35:=zc hz (hf 14 35 _ (by kernel_rfl) rfl) (by omega);refine wpOpIn_step rfl fun K hK=>?_
            go_simp
            first|exact hK _ _ ⟨_,_,rfl,rfl,rfl,HI.out⟩|exact hK _ _ ⟨_,_,rfl,hd,rfl,HI.out⟩
          · have f35:=zc hz (hf 14 35 _ (by kernel_rfl) rfl) (by omega);have f36:=zc hz (hf 15 36 _ (by kernel_rfl) rfl) (by omega);have f37:=zc hz (hf 16 37 _ (by kernel_rfl) rfl) (by omega);have f38:=zc hz (hf 17 38 _ (by kernel_rfl) rfl) (by omega);refine wpOpIn_step rfl fun K hK=>?_
            go_simp;refine(HMAT.out w (HBW.out.trans (HI.out.mono HBW.out.size))).mono ?_;rintro e w' ⟨rfl,hb'⟩;exact hK _ _ ⟨_,_,rfl,rfl,rfl,(HI.out.trans (hb'.mono HI.out.size))⟩
          · have f35:=zc hz (hf 14 35 _ (by kernel_rfl) rfl) (by omega);have f39:=zc hz (hf 18 39 _ (by kernel_rfl) rfl) (by omega);refine wpOpIn_step rfl fun K hK=>?_
            go_simp
            first|exact hK _ _ ⟨_,_,rfl,rfl,rfl,HI.out⟩|exact hK _ _ ⟨_,_,rfl,hd,rfl,HI.out⟩
          · have f35:=zc hz (hf 14 35 _ (by kernel_rfl) rfl) (by omega);have f40:=zc hz (hf 19 40 _ (by kernel_rfl) rfl) (by omega);refine wpOpIn_step rfl fun K hK=>?_
            go_simp
            first|exact hK _ _ ⟨_,_,rfl,rfl,rfl,HI.out⟩|exact hK _ _ ⟨_,_,rfl,hd,rfl,HI.out⟩
          · have f41:=zc hz (hf 20 41 _ (by kernel_rfl) rfl) (by omega);refine wpOpIn_step rfl fun K hK=>?_
            go_simp
            first|exact hK _ _ ⟨_,_,rfl,rfl,rfl,HI.out⟩|exact hK _ _ ⟨_,_,rfl,hd,rfl,HI.out⟩
          · have f42:=zc hz (hf 21 42 _ (by kernel_rfl) rfl) (by omega);refine wpOpIn_step rfl fun K hK=>?_
            go_simp
            first|exact hK _ _ ⟨_,_,rfl,rfl,rfl,HI.out⟩|exact hK _ _ ⟨_,_,rfl,hd,rfl,HI.out⟩
          · have f42:=zc hz (hf 21 42 _ (by kernel_rfl) rfl) (by omega);have f43:=zc hz (hf 22 43 _ (by kernel_rfl) rfl) (by omega);refine wpOpIn_step rfl fun K hK=>?_
            go_simp
            first|exact hK _ _ ⟨_,_,rfl,rfl,rfl,HI.out⟩|exact hK _ _ ⟨_,_,rfl,hd,rfl,HI.out⟩
          · have f42:=zc hz (hf 21 42 _ (by kernel_rfl) rfl) (by omega);have f44:=zc hz (hf 23 44 _ (by kernel_rfl) rfl) (by omega);refine wpOpIn_step rfl fun K hK=>?_
            go_simp
            first|exact hK _ _ ⟨_,_,rfl,rfl,rfl,HI.out⟩|exact hK _ _ ⟨_,_,rfl,hd,rfl,HI.out⟩
          · have f45:=zc hz (hf 24 45 _ (by kernel_rfl) rfl) (by omega);refine wpOpIn_step rfl fun K hK=>?_
            go_simp
            first|exact hK _ _ ⟨_,_,rfl,rfl,rfl,HI.out⟩|exact hK _ _ ⟨_,_,rfl,hd,rfl,HI.out⟩
          · have f45:=zc hz (hf 24 45 _ (by kernel_rfl) rfl) (by omega);have f46:=zc hz (hf 25 46 _ (by kernel_rfl) rfl) (by omega);refine wpOpIn_step rfl fun K hK=>?_
            go_simp
            first|exact hK _ _ ⟨_,_,rfl,rfl,rfl,HI.out⟩|exact hK _ _ ⟨_,_,rfl,hd,rfl,HI.out⟩
          · have f45:=zc hz (hf 24 45 _ (by kernel_rfl) rfl) (by omega);have f47:=zc hz (hf 26 47 _ (by kernel_rfl) rfl) (by omega);refine wpOpIn_step rfl fun K hK=>?_
            go_simp
            first|exact hK _ _ ⟨_,_,rfl,rfl,rfl,HI.out⟩|exact hK _ _ ⟨_,_,rfl,hd,rfl,HI.out⟩
          · have f45:=zc hz (hf 24 45 _ (by kernel_rfl) rfl) (by omega);refine wpOpIn_step rfl fun K hK=>?_
            go_simp
            first|exact hK _ _ ⟨_,_,rfl,rfl,rfl,HI.out⟩|exact hK _ _ ⟨_,_,rfl,hd,rfl,HI.out⟩
          · have f45:=zc hz (hf 24 45 _ (by kernel_rfl) rfl) (by omega);refine wpOpIn_step rfl fun K hK=>?_
            go_simp
            first|exact hK _ _ ⟨_,_,rfl,rfl,rfl,HI.out⟩|exact hK _ _ ⟨_,_,rfl,hd,rfl,HI.out⟩
          · have f45:=zc hz (hf 24 45 _ (by kernel_rfl) rfl) (by omega);have f50:=zc hz (hf 29 50 _ (by kernel_rfl) rfl) (by omega);refine wpOpIn_step rfl fun K hK=>?_
            go_simp
            first|exact hK _ _ ⟨_,_,rfl,rfl,rfl,HI.out⟩|exact hK _ _ ⟨_,_,rfl,hd,rfl,HI.out⟩
          · have f45:=zc hz (hf 24 45 _ (by kernel_rfl) rfl) (by omega);have f49:=zc hz (hf 28 49 _ (by kernel_rfl) rfl) (by omega);have f51:=zc hz (hf 30 51 _ (by kernel_rfl) rfl) (by omega);refine wpOpIn_step rfl fun K hK=>?_
            go_simp
            first|exact hK _ _ ⟨_,_,rfl,rfl,rfl,HI.out⟩|exact hK _ _ ⟨_,_,rfl,hd,rfl,HI.out⟩
          · have f45:=zc hz (hf 24 45 _ (by kernel_rfl) rfl) (by omega);have f52:=zc hz (hf 31 52 _ (by kernel_rfl) rfl) (by omega);refine wpOpIn_step rfl fun K hK=>?_
            go_simp
            first|exact hK _ _ ⟨_,_,rfl,rfl,rfl,HI.out⟩|exact hK _ _ ⟨_,_,rfl,hd,rfl,HI.out⟩
          · have f45:=zc hz (hf 24 45 _ (by kernel_rfl) rfl) (by omega);have f53:=zc hz (hf 32 53 _ (by kernel_rfl) rfl) (by omega);refine wpOpIn_step rfl fun K hK=>?_
            go_simp
            first|exact hK _ _ ⟨_,_,rfl,rfl,rfl,HI.out⟩|exact hK _ _ ⟨_,_,rfl,hd,rfl,HI.out⟩
          · have f45:=zc hz (hf 24 45 _ (by kernel_rfl) rfl) (by omega);have f54:=zc hz (hf 33 54 _ (by kernel_rfl) rfl) (by omega);refine wpOpIn_step rfl fun K hK=>?_
            go_simp
            first|exact hK _ _ ⟨_,_,rfl,rfl,rfl,HI.out⟩|exact hK _ _ ⟨_,_,rfl,hd,rfl,HI.out⟩
          · have f45:=zc hz (hf 24 45 _ (by kernel_rfl) rfl) (by omega);have f48:=zc hz (hf 27 48 _ (by kernel_rfl) rfl) (by omega);have f55:=zc hz (hf 34 55 _ (by kernel_rfl) rfl) (by omega);refine wpOpIn_step rfl fun K hK=>?_
            go_simp
            first|exact hK _ _ ⟨_,_,rfl,rfl,rfl,HI.out⟩|exact hK _ _ ⟨_,_,rfl,hd,rfl,HI.out⟩
          · have f42:=zc hz (hf 21 42 _ (by kernel_rfl) rfl) (by omega);have f45:=zc hz (hf 24 45 _ (by kernel_rfl) rfl) (by omega);have f56:=zc hz (hf 35 56 _ (by kernel_rfl) rfl) (by omega);refine wpOpIn_step rfl fun K hK=>?_
            go_simp
            first|exact hK _ _ ⟨_,_,rfl,rfl,rfl,HI.out⟩|exact hK _ _ ⟨_,_,rfl,hd,rfl,HI.out⟩
          · have f42:=zc hz (hf 21 42 _ (by kernel_rfl) rfl) (by omega);have f57:=zc hz (hf 36 57 _ (by kernel_rfl) rfl) (by omega);refine wpOpIn_step rfl fun K hK=>?_
            go_simp
            first|exact hK _ _ ⟨_,_,rfl,rfl,rfl,HI.out⟩|exact hK _ _ ⟨_,_,rfl,hd,rfl,HI.out⟩
        intro w5 hI5;have HB5:=Lib.hid (HBW.out.trans (hI5.mono HBW.out.size));have H5:=Lib.hid hI5;clear hI5;simp only[List.foldl_cons,List.foldl_nil,List.setIfInBounds_toArray,List.set_cons_succ,List.set_cons_zero];gi_wp2
        gi_loopw [6,10] (fun _ y wq=>∃ k:Nat,k≤mm∧y=.int .i64 k∧wq=w5) (fun _ y _=>mm-(intOf y).toNat)
        case atStart=>exact⟨0,by omega,rfl,rfl⟩
        case round=>
          obtain⟨k,hk,rfl,hwq⟩:=hrel;have hwq':=hwq.symm;subst hwq';by_cases hkm:k<mm
          · have hkI:(k:Int)<(mm:Int):=by omega
            have k9:k<9:=by omega
            have qk:wr.cell? ⟨bx,ox+k,none⟩=some (.int .i64 ((x.getD k 0:Nat):Int)):=by obtain⟨_,_,e,q⟩:=HINT.out k hkm;cases e;exact q
            have qk:=Below.old H5.out qk;have hcall:=HHAS.out LT T lt k w5 (by omega) hlt' HT.out hkm (Lib.hid (HIT.out.below H5.out));have HCALL:=Lib.hid hcall;clear hcall;obtain⟨xk,hxk⟩:∃ xk,x.getD k 0=xk:=⟨_,rfl⟩;rw[hxk] at qk HCALL;clear hxk
            gi_wp2_with (gi_at_call 40;refine HCALL.out.mono ?_;rintro e w7 ⟨rfl,rfl⟩)
            go_roundw
            case rel=>exact⟨k+1,by omega,by go_num,trivial⟩
            case measure=>simp[intOf];omega
          · obtain rfl:k=mm:=by omega
            have hkI:¬(k:Int)<(k:Int):=by omega
            gi_wp2_with
              (gi_at_builtin
               refine wpListIn_append_own _ rfl _ _ 27 rfl W1.heap.size 3 i0 (.int .i64 0) 1 8 ut27 HI0.out HZ0.out HZ1.out HZ2.out rfl (by decide) (.slice LT T.length lt) T.length (T.map intV) rfl (HLAT.out.below H5.out) ⟨bx,ox,none⟩ k kx (x.map intV) rfl (by rw[List.length_map,X3.out,Nat.mul_one]) (fun j u hu=>Below.old H5.out (HCL.out j u hu)) (by intro u hu;obtain⟨n,_,rfl⟩:=List.mem_map.1 hu;rfl) (by simp[maxLen];omega) (by omega) (HB5.out.size) ?_;intro v' w8 hown4 hg4 hnil4;have HO:=Lib.hid hown4;have HG:=Lib.hid hg4;clear hg4 hnil4 hown4)
            refine⟨⟨(p+1)+1,by omega,by first|rfl|trivial,?_,HB5.out.grown HG.out HB5.out.size fun g hg=>(zfb HLAT.out hg).1⟩,by simp[intOf];omega⟩;rw[HFN.out];have h:=HO.out;show w8.ownsRow W1.heap.size 3 1 v' (T++x).length ((T++x).map intV);rw[List.map_append,List.length_append,X3.out];exact h
    · obtain rfl:i=R.length:=by omega
      have hltI:¬(R.length:Int)<(R.length:Int):=by omega
      gi_wp2;go_ret;exact⟨rfl,HB1.out.trans (HBW.out.mono HB1.out.size)⟩
end
section
open Go.RowKit Go.Cx Go.Conc
section
variable {F:Fence}{n:Nat}{P:Program}{b:Frame}{cs:List Frame}{S:Act→List Item→World→Prop}{a:Act}{w:World}{k:List Item}
theorem comes_block{id:Nat}{c:Code}(hb:F.fn b.fn)(hr:F.room (cs.length+1+n)):Comes F P b cs a (.code (.block id c)::k) w a (.code c::.inBlock id::k) w:=.one (fenced_calm hb hr rfl) stepR_block
theorem comes_inBlock{id:Nat}(hb:F.fn b.fn)(hr:F.room (cs.length+1+n)):Comes F P b cs a (.inBlock id::k) w a k w:=.one (fenced_calm hb hr rfl) stepR_inBlock
theorem comes_exit{id:Nat}{k':List Item}(he:exitTo id k=some k')(hb:F.fn b.fn)(hr:F.room (cs.length+1+n)):Comes F P b cs a (.code (.exit id)::k) w a k' w:=.one (fenced_calm hb hr rfl) (stepR_exit he)
theorem comes_loop{c:Code}(hb:F.fn b.fn)(hr:F.room (cs.length+1+n)):Comes F P b cs a (.code (.loop c)::k) w a (.code c::.inLoop c::k) w:=.one (fenced_calm hb hr rfl) stepR_loop
theorem comes_inLoop{c:Code}(hb:F.fn b.fn)(hr:F.room (cs.length+1+n)):Comes F P b cs a (.inLoop c::k) w a (.code c::.inLoop c::k) w:=.one (fenced_calm hb hr rfl) stepR_inLoop
theorem yo{id:Nat}{c:Code}(hb:F.fn b.fn)(hr:F.room (cs.length+1+n))(h:Reach F P b cs S a (.code c::.inBlock id::k) w):Reach F P b cs S a (.code (.block id c)::k) w:=by obtain⟨a',k',w',h1,h2⟩:=h;exact⟨a',k',w',h1,(comes_block hb hr).trans h2⟩
theorem yz{id:Nat}(hb:F.fn b.fn)(hr:F.room (cs.length+1+n))(h:Reach F P b cs S a k w):Reach F P b cs S a (.inBlock id::k) w:=by obtain⟨a',k',w',h1,h2⟩:=h;exact⟨a',k',w',h1,(comes_inBlock hb hr).trans h2⟩
theorem yDa{id:Nat}{k':List Item}(he:exitTo id k=some k')(hb:F.fn b.fn)(hr:F.room (cs.length+1+n))(h:Reach F P b cs S a k' w):Reach F P b cs S a (.code (.exit id)::k) w:=by obtain⟨a',k2,w',h1,h2⟩:=h;exact⟨a',k2,w',h1,(comes_exit he hb hr).trans h2⟩
theorem yCa{c:Code}{I:Nat→Act→World→Prop}(hb:F.fn b.fn)(hr:F.room (cs.length+1+n))
  (h:∀ m a w,I m a w→(∀ m' a' w',m'<m→I m' a' w'→Reach F P b cs S a' (.inLoop c::k) w')→Reach F P b cs S a (.code c::.inLoop c::k) w) {m:Nat} (h0:I m a w):Reach F P b cs S a (.code (.loop c)::k) w:=by
 have key:∀ m a w,I m a w→Reach F P b cs S a (.code c::.inLoop c::k) w:=fun m=>by
  induction m using Nat.strongRecOn with
  |_ m ih=>
   intro a w hi;refine h m a w hi fun m' a' w' hm hi'=>?_
   obtain⟨a2,k2,w2,h1,h2⟩:=ih m' hm a' w' hi';exact⟨a2,k2,w2,h1,(comes_inLoop hb hr).trans h2⟩
 obtain⟨a2,k2,w2,h1,h2⟩:=key m a w h0;exact⟨a2,k2,w2,h1,(comes_loop hb hr).trans h2⟩
end
end
section
open Go.RowKit Go.Cx Go.Conc
def yX(P:Program)(o:Op):Prop:=∃(f:FuncId) (args:Array Operand) (ats:Array TypeId) (fn:Func),o=.call {callee:=.value (.func f),args,argTypes:=ats}∧P.funcs[f]? = some fn∧(fn.name == "runtime.NumGoroutine")=false∧fn.body.isNone=false
section
variable {F:Fence}{n:Nat}{P:Program}{Post:Act→World→Prop}{a:Act}{w:World}{b:Frame}{k:List Item}{cs:List Frame}
theorem comes_call{ops:Array Oper}{i:Nat}{l:List Nat}{o:Oper}{S:FuncId}{args:Array Value}{w1:World}{next:Act→World→Prop}(ho:ops[i]? = some o)(hw:Region.wanted o (yielded ops a.tmps)=true)(hro:b.roundOf=F.round)(hb:F.fn b.fn)(hr:F.room (cs.length+1+n))
  (hrun:(o.semAt F.round a.eval).run P w=.ok (.enter S args) w1) (h:o.wpIn F n P a w next (zJb Post)) :
  ∃ v w2,next (a.put o.dst v) w2∧Comes F P b cs a (.inRegion ops (i::l)::k) w (a.put o.dst v) (.inRegion ops l::k) w2:=by
 obtain⟨hab,h⟩:=h;rw[hrun] at h;simp only[Oper.uponIn] at h;obtain⟨hn,hF,h⟩:=h;have h0:(lone (b.atR a (.inRegion ops (i::l)::k)) cs w).fenced P F:=fenced_oper hb hr ho hab;have hg:=stepGR_op (P:=P) (b:=b) (k:=k) (cs:=cs) (w:=w) (rest:=l) ho hw;rw[hro] at hg;have hroom:F.room ((b.atR a (.inRegion ops (i::l)::k)::cs).length+1+(n-1)):=Fence.room_enter hr hn;obtain⟨e,w2,fr,hR,hsteps,hfn,hleave⟩:=h (b.atR a (.inRegion ops (i::l)::k)::cs) hroom;have henter:step P (lone (b.atR a (.inRegion ops (i::l)::k)) cs w)=.next (lone (Frame.enter P S args .normal) (b.atR a (.inRegion ops (i::l)::k)::cs) w1):=
  step_lone_go (by rw[hg];simp[stepG.apply,hrun,Frame.atR])
 cases e with
 |returned v=>
  refine⟨v,w2,hR,.head h0 henter (StepsIn.trans hsteps (.one (fenced_leaving (hfn▸hF) hroom hleave) ?_))⟩;have hfin:(b.atR a (.inRegion ops (i::l)::k)).finish v=b.atR (a.put o.dst v) (.inRegion ops l::k):=by rw[Frame.finish_atR,ho];rfl
  rw[←hfin];exact step_leave_returned hleave
 |panicked chain=>exact hR.elim
 |outgrown=>obtain⟨_,_,hq⟩:=hR;exact hq.elim
theorem yJa{ops:Array Oper}(l:List Oper):∀(i:Nat) (rest:List Nat) (a:Act) (w:World),(∀ j,j<l.length→ops[i+j]? = l[j]?)→(∀ o∈l,reckons o.op=true∨yX P o.op) →
  wpListIn F n P ops (zJb Post) l a w→b.roundOf=F.round→F.fn b.fn→F.room (cs.length+1+n) →
  ∃ a' w',Post a' w'∧Comes F P b cs a (.inRegion ops (List.range' i l.length++rest)::k) w a' (.inRegion ops rest::k) w':=by
 induction l with
 |nil=>exact fun i rest a w _ _ h _ _ _=>⟨a,w,h,.refl _⟩
 |cons o l ih=>
  intro i rest a w hops hall h hro hb hr;have ho:ops[i]? = some o:=by simpa using hops 0 (by simp)
  have hops':∀ j,j<l.length→ops[i+1+j]? = l[j]?:=fun j hj=>by have:=hops (j+1) (by simp;omega);simpa[Nat.add_assoc,Nat.add_comm 1 j] using this
  have hall':∀ o∈l,reckons o.op=true∨yX P o.op:=fun o ho=>hall o (List.mem_cons_of_mem _ ho)
  rw[List.length_cons,List.range'_succ,List.cons_append];simp only[wpListIn] at h;by_cases hw:Region.wanted o (yielded ops a.tmps)=true
  ·rw[if_pos hw] at h;rcases hall o (List.mem_cons_self ..) with hrk|⟨f,args,ats,fn,hop,hf,hname,hbody⟩
   ·have h1:wpListIn F n P ops (zJb fun a w=>wpListIn F n P ops (zJb Post) l a w) [o] a w:=by
     simp only[wpListIn];rw[if_pos hw];refine⟨h.1,?_⟩;have h2:=h.2
     revert h2
     have hsem:o.semAt F.round a.eval=execOp a.eval o:=Oper.semAt_eq _ _ _ fun c hc=>by rw[hc] at hrk;exact absurd hrk (by simp[reckons])
     rw[hsem];rcases yha hrk P w a.eval with⟨v,w1,hrun⟩|⟨x,w1,hrun⟩
     ·rw[hrun];exact fun h=>h
     ·rw[hrun];cases x<;>exact fun h=>h
    obtain⟨a1,w1,h2,h3⟩:=comes_pre (b:=b) (cs:=cs) (k:=k) (ops:=ops) [o] i (List.range' (i+1) l.length++rest) a w (fun j hj=>by simp at hj;subst hj;simpa using ho) (by simpa using hrk) h1 hro hb hr;obtain⟨a',w',hp,hs⟩:=ih (i+1) rest a1 w1 hops' hall' h2 hro hb hr;exact⟨a',w',hp,StepsIn.trans (by simpa using h3) hs⟩
   ·have hsem:o.semAt F.round a.eval=execOp a.eval o:=Oper.semAt_eq _ _ _ fun c hc=>by rw[hop] at hc;cases hc
    obtain⟨v,w2,h2,h3⟩:=comes_call (l:=List.range' (i+1) l.length++rest) ho hw hro hb hr (by rw[hsem];exact run_call_body hop hf hname hbody) h;obtain⟨a',w',hp,hs⟩:=ih (i+1) rest _ w2 hops' hall' h2 hro hb hr;exact⟨a',w',hp,StepsIn.trans h3 hs⟩
  ·rw[if_neg hw] at h;obtain⟨a',w',hp,hs⟩:=ih (i+1) rest _ _ hops' hall' h.2 hro hb hr;have hk:=stepR_op_skip (P:=P) (b:=b) (a:=a) (k:=k) (cs:=cs) (w:=w) (ops:=ops) (i:=i) (rest:=List.range' (i+1) l.length++rest) (by simp[ho];simpa using hw);simp only[ho,Option.bind_some] at hk;exact⟨a',w',hp,.head (fenced_oper hb hr ho h.1) hk hs⟩
theorem reach_list{S:Act→List Item→World→Prop}{ops:Array Oper}(t:Nat)(rest:List Nat)(hr2:List.range ops.size=List.range' 0 (ops.toList.take t).length++rest)(hall:∀ o∈ops.toList.take t,reckons o.op=true∨yX P o.op)(hro:b.roundOf=F.round)(hb:F.fn b.fn)(hr:F.room (cs.length+1+n))
  (h:∀ R:Act→World→Prop,(∀ a' w',Reach F P b cs S a' (.inRegion ops rest::k) w'→R a' w')→wpListIn F n P ops (zJb R) (ops.toList.take t) a w):Reach F P b cs S a (.inRegion ops (List.range ops.size)::k) w:=by
 rw[hr2];obtain⟨a1,w1,⟨a',k',w',h1,h2⟩,h3⟩:=yJa (b:=b) (cs:=cs) (k:=k) (ops.toList.take t) 0 rest a w (fun j hj=>by rw[Nat.zero_add,List.getElem?_take,if_pos (Nat.lt_of_lt_of_le hj (List.length_take_le ..))];simp) hall (h (fun a' w'=>Reach F P b cs S a' (.inRegion ops rest::k) w') fun a' w' h=>h) hro hb hr;exact⟨a',k',w',h1,h3.trans h2⟩
end
end
section
open Go.RowKit Go.Cx Go.Conc
section
variable {F:Fence}{n:Nat}{P:Program}{ops:Array Oper}{b:Frame}{k:List Item}{cs:List Frame}{S:Act→List Item→World→Prop}{a:Act}{w:World}
theorem comes_one{K:Act→World→Prop}{i:Nat}{l:List Nat}{o:Oper}(ho:ops[i]? = some o)(hr1:reckons o.op=true∨yX P o.op)(h:wpOpIn F n P ops (zJb K) i K a w)(hro:b.roundOf=F.round)(hb:F.fn b.fn)(hr:F.room (cs.length+1+n)) :
  ∃ a' w',K a' w'∧Comes F P b cs a (.inRegion ops (i::l)::k) w a' (.inRegion ops l::k) w':=by
 have h1:wpListIn F n P ops (zJb K) [o] a w:=by unfold wpOpIn at h;rw[ho] at h;exact h
 have:=yJa (b:=b) (cs:=cs) (k:=k) (P:=P) (F:=F) (n:=n) [o] i l a w (fun j hj=>by simp at hj;subst hj;simpa using ho) (by simpa using hr1) h1 hro hb hr;simpa using this
theorem yub{listed:Array Bool}{i:Nat}(h:i∈Region.ready .any ops listed):i<ops.size∧listed.getD i false=false∧∀ j,depB ops i j=true→listed.getD j false=true:=
 ⟨by obtain⟨_,o,h3,_⟩:=mem_ready.1 h;exact(Array.getElem?_eq_some_iff.1 h3).1,yla h,fun j hj=>dep h hj⟩
def lastB(ops:Array Oper)(t:Nat):Bool:=ops.size==t+3&&depB ops (t+1) t&&depB ops (t+2) (t+1)&&(List.range t).all fun j=>yib ops j t
theorem yM{listed:Array Bool}{e t:Nat}(hs:ops.size=t+3)(hb:backB .any ops=true)(hl:listed.size=ops.size)(he:t≤e)(hlt:e<t+3)(hlo:∀ i,i<e→listed.getD i false=true)(hhi:∀ i,e≤i→i<t+3→listed.getD i false=false)(hd1:depB ops (t+1) t=true)(hd2:depB ops (t+2) (t+1)=true):Region.ready .any ops listed=[e]:=by
 have hne:Region.ready .any ops listed≠[]:=fun h=>by have h1:=yia hb h e (by omega);have h2:=hhi e (Nat.le_refl _) hlt;rw[Array.getD_eq_getD_getElem?,Array.getElem?_eq_getElem (by omega)] at h1 h2;simp at h1 h2;rw[h1] at h2;cases h2
 have hall:∀ i,i∈Region.ready .any ops listed→i=e:=fun i hi=>by
  obtain⟨h1,h2,h3⟩:=yub hi;by_cases c1:i<e
  ·rw[hlo i c1] at h2;cases h2
  ·by_cases c2:i=e
   ·exact c2
   ·exfalso;by_cases c3:i=t+1
    ·subst c3;have:=h3 t hd1;rw[hhi t (by omega) (by omega)] at this;cases this
    ·obtain rfl:i=t+2:=by omega
     have:=h3 (t+1) hd2;rw[hhi (t+1) (by omega) (by omega)] at this;cases this
 have hnd:(Region.ready .any ops listed).Nodup:=List.Nodup.sublist (List.filter_sublist ..) List.nodup_range;cases hr:Region.ready .any ops listed with
 |nil=>exact absurd hr hne
 |cons x l=>
  rw[hr] at hall hnd;rcases hall x (by simp) with rfl;cases l with
  |nil=>rfl
  |cons y l=>have:=hall y (by simp);subst this;simp at hnd
theorem yVa{fuel t:Nat}{listed:Array Bool}{i:Nat}(h:(Region.ready .any ops listed)[t % (Region.ready .any ops listed).length]? = some i):Region.linearise.go .any ops (fuel+1) t listed []=i::Region.linearise.go .any ops fuel (t / (Region.ready .any ops listed).length) (listed.setIfInBounds i true) []:=by
 simp only[Region.linearise.go];change(match (Region.ready .any ops listed)[t % (Region.ready .any ops listed).length]? with
  |some i=>Region.linearise.go .any ops fuel (t / (Region.ready .any ops listed).length) (listed.setIfInBounds i true) [i]
  |none=>[].reverse)=_
 rw[h];simp only;rw[linearise_go_acc,List.reverse_singleton,List.singleton_append]
theorem go_last{fuel t tt:Nat}{listed:Array Bool}(hs:ops.size=t+3)(hb:backB .any ops=true)(hl:listed.size=ops.size)(hlo:∀ i,i<t→listed.getD i false=true)(hhi:∀ i,t≤i→i<t+3→listed.getD i false=false)(hd1:depB ops (t+1) t=true)(hd2:depB ops (t+2) (t+1)=true) :
  Region.linearise.go .any ops 3 tt listed []=[t,t+1,t+2]:=by
 have gs:∀(l:Array Bool) (e i:Nat),e<l.size→(l.setIfInBounds e true).getD i false=if i=e then true else l.getD i false:=fun l e i he=>by
  rw[Array.getD_eq_getD_getElem?,Array.getD_eq_getD_getElem?,Array.getElem?_setIfInBounds];by_cases h:e=i
  ·subst h;simp[he]
  ·rw[if_neg h,if_neg (fun h'=>h h'.symm)]
 have r0:=yM (e:=t) hs hb hl (by omega) (by omega) hlo hhi hd1 hd2;have l1:(listed.setIfInBounds t true).size=ops.size:=by simpa using hl
 have r1:=yM (e:=t+1) hs hb l1 (by omega) (by omega) (fun i hi=>by rw[gs _ _ _ (by omega)];split;rfl;exact hlo i (by omega)) (fun i h1 h2=>by rw[gs _ _ _ (by omega),if_neg (by omega)];exact hhi i (by omega) h2) hd1 hd2;have l2:((listed.setIfInBounds t true).setIfInBounds (t+1) true).size=ops.size:=by simpa using hl
 have r2:=yM (e:=t+2) hs hb l2 (by omega) (by omega) (fun i hi=>by
   rw[gs _ _ _ (by omega)];split
   ·rfl
   ·rw[gs _ _ _ (by omega)];split
    ·rfl
    ·exact hlo i (by omega)) (fun i h1 h2=>by rw[gs _ _ _ (by omega),if_neg (by omega),gs _ _ _ (by omega),if_neg (by omega)];exact hhi i (by omega) h2) hd1 hd2
 rw[yVa (i:=t) (by rw[r0];simp[Nat.mod_one]),yVa (i:=t+1) (by rw[r1];simp[Nat.mod_one]),yVa (i:=t+2) (by rw[r2];simp[Nat.mod_one])];rfl
theorem reach_go{J:Array Bool→Act→World→Prop}{t:Nat}(hb:backB .any ops=true)(hlast:lastB ops t=true)(hall:∀ o∈ops.toList.take t,reckons o.op=true∨yX P o.op)(hro:b.roundOf=F.round)(hbn:F.fn b.fn)(hr:F.room (cs.length+1+n))
  (hJ:∀ Q listed a w i,J listed a w→i∈Region.ready .any ops listed→i<t→wpOpIn F n P ops Q i (J (listed.setIfInBounds i true)) a w)
  (hC:∀ listed a w,J listed a w→∀ i,listed.getD i false=true→∀ j,depB ops i j=true→listed.getD j false=true)
  (hE:∀ listed a w,J listed a w→(∀ i,i<t→listed.getD i false=true)→Reach F P b cs S a (.inRegion ops [t,t+1,t+2]::k) w) :
  ∀(fuel tt:Nat) (listed:Array Bool) (a:Act) (w:World),listed.size=ops.size→((List.range t).filter fun i=>!listed.getD i false).length+3=fuel→(∀ i,t≤i→i<t+3→listed.getD i false=false)→J listed a w →
   Reach F P b cs S a (.inRegion ops (Region.linearise.go .any ops fuel tt listed [])::k) w:=by
 unfold lastB at hlast;simp only[Bool.and_eq_true,beq_iff_eq] at hlast;obtain⟨⟨⟨hs,hd1⟩,hd2⟩,hah⟩:=hlast;intro fuel
 induction fuel with
 |zero=>intro tt listed a w hl hn;omega
 |succ fuel ih=>
  intro tt listed a w hl hn hhi hj;by_cases hdone:∀ i,i<t→listed.getD i false=true
  ·have h0:(List.range t).filter (fun i=>!listed.getD i false)=[]:=List.filter_eq_nil_iff.2 fun i hi=>by simp[hdone i (List.mem_range.1 hi)]
   rw[h0,List.length_nil] at hn;obtain rfl:fuel=2:=by omega
   rw[go_last (fuel:=0) hs hb hl hdone hhi hd1 hd2];exact hE _ _ _ hj hdone
  ·cases hi:(Region.ready .any ops listed)[tt % (Region.ready .any ops listed).length]? with
   |none=>
    exfalso;have hnil:Region.ready .any ops listed=[]:=by
     cases hr':Region.ready .any ops listed with
     |nil=>rfl
     |cons x xs=>rw[hr'] at hi;have hlt:tt % (x::xs).length<(x::xs).length:=Nat.mod_lt _ (by simp);simp at hi;simp at hlt;omega
    have h1:=yia hb hnil t (by omega);have h2:=hhi t (Nat.le_refl _) (by omega);rw[Array.getD_eq_getD_getElem?,Array.getElem?_eq_getElem (by omega)] at h1 h2;simp at h1 h2;rw[h1] at h2;cases h2
   |some i=>
    have him:=List.mem_of_getElem? hi;obtain⟨q1,q2,q3⟩:=yub him;have hit:i<t:=by
     rcases Nat.lt_or_ge i t with h|h
     ·exact h
     ·exfalso;by_cases c1:i=t+1
      ·subst c1;have:=q3 t hd1;rw[hhi t (by omega) (by omega)] at this;cases this
      ·by_cases c2:i=t+2
       ·subst c2;have:=q3 (t+1) hd2;rw[hhi (t+1) (by omega) (by omega)] at this;cases this
       ·obtain rfl:i=t:=by omega
        refine hdone fun j hjt=>?_
        have hab:=List.all_eq_true.1 hah j (List.mem_range.2 hjt);unfold yib at hab;simp only[Bool.and_eq_true,decide_eq_true_eq,List.contains_iff_mem] at hab;rcases yx (k:=i) (hC _ _ _ hj) q3 (i+1) [i] (fun x hx=>by rcases List.mem_singleton.1 hx with rfl;exact .inl rfl) j hab.2 with h2|h2
        ·exact absurd h2.symm hab.1
        ·exact h2
    rw[yVa hi];have ho:ops[i]? = some ops[i]:=by simp[q1]
    obtain⟨a',w',h1,h2⟩:=comes_one (b:=b) (cs:=cs) (k:=k) (l:=Region.linearise.go .any ops fuel (tt / (Region.ready .any ops listed).length) (listed.setIfInBounds i true) []) ho (hall _ (by rw[List.mem_take_iff_getElem];exact⟨i,by simp;omega,by simp⟩)) (hJ _ listed a w i hj him hit) hro hbn hr;have key:∀(l:List Nat),l.Nodup→i∈l→(l.filter fun j=>!(listed.setIfInBounds i true).getD j false).length+1=(l.filter fun j=>!listed.getD j false).length:=by
      intro l
      induction l with
      |nil=>intro _ h;cases h
      |cons x l ihl=>
       intro hnd him';have hnd':=List.nodup_cons.1 hnd;by_cases e:x=i
       ·subst e;have same:l.filter (fun j=>!(listed.setIfInBounds x true).getD j false)=l.filter (fun j=>!listed.getD j false):=List.filter_congr fun j hj=>by
         have:x≠j:=fun e=>hnd'.1 (e▸hj)
         rw[Array.getD_eq_getD_getElem?,Array.getD_eq_getD_getElem?,Array.getElem?_setIfInBounds,if_neg this]
        have hxl:x<listed.size:=by omega
        rw[List.filter_cons_of_neg (by rw[Array.getD_eq_getD_getElem?,Array.getElem?_setIfInBounds,if_pos rfl,if_pos hxl];simp),List.filter_cons_of_pos (by rw[q2];rfl),same];rfl
       ·have hin:i∈l:=by
         rcases List.mem_cons.1 him' with h|h
         ·exact absurd h.symm e
         ·exact h
        have same:(listed.setIfInBounds i true).getD x false=listed.getD x false:=by rw[Array.getD_eq_getD_getElem?,Array.getD_eq_getD_getElem?,Array.getElem?_setIfInBounds,if_neg (fun h=>e h.symm)]
        have:=ihl hnd'.2 hin;by_cases c:listed.getD x false=true
        ·rw[List.filter_cons_of_neg (by rw[same,c];simp),List.filter_cons_of_neg (by rw[c];simp)];exact this
        ·rw[List.filter_cons_of_pos (by rw[same];simpa using c),List.filter_cons_of_pos (by simpa using c),List.length_cons,List.length_cons];omega
    have hn1:((List.range t).filter fun j=>!(listed.setIfInBounds i true).getD j false).length+3=fuel:=by have:=key (List.range t) List.nodup_range (List.mem_range.2 hit);omega
    have hh1:∀ j,t≤j→j<t+3→(listed.setIfInBounds i true).getD j false=false:=fun j h1 h2=>by rw[Array.getD_eq_getD_getElem?,Array.getElem?_setIfInBounds,if_neg (by omega),←Array.getD_eq_getD_getElem?];exact hhi j h1 h2
    obtain⟨a'',k',w'',h3,h4⟩:=ih (tt / (Region.ready .any ops listed).length) (listed.setIfInBounds i true) a' w' (by simpa using hl) hn1 hh1 h1;exact⟨a'',k',w'',h3,h2.trans h4⟩
theorem drawn_at{id:Nat}(hm:P.follows .mixedOrders=true)(hb:F.fn b.fn)(hr:F.room (cs.length+1+n)):∃ tt,Comes F P b cs a (.code (.region id ops true)::k) w a (.inRegion ops (Region.linearise.go .any ops ops.size tt (Array.replicate ops.size false) [])::k) {w with drawn:=w.drawn+1}:=
 ⟨_,.one (fenced_calm hb hr rfl) (by rw[stepR_region_draw];simp only[Region.schedule,hm,Bool.true_or,if_true];rfl)⟩
theorem reach_region_H(R:List RoleG){I:(Nat→Bool)→(Nat→Value)→World→Prop}{z t:Nat}{id:Nat}(hm:P.follows .mixedOrders=true)(hb:backB .any ops=true)(hlast:lastB ops t=true)(hall:∀ o∈ops.toList.take t,reckons o.op=true∨yX P o.op)(hro:b.roundOf=F.round)(hbn:F.fn b.fn)(hr:F.room (cs.length+1+n))
  (hlen:R.length=ops.size) (hst:(R.drop t).all (fun ρ=>ρ.slot.isNone)=true) (hnd:ybb (R.map RoleG.slot) z z z=true) (hd:a.defers=[]) (hz:a.tmps.size=z) (h0:I (fun _=>false) (slotV R a) {w with drawn:=w.drawn+1})
  (hJ:∀ Q,StepH F n P ops Q R I z a t)
  (hE:∀ L V w',(∀ i,i<t→nvG R i=true→L i=true)→I L V w'→Reach F P b cs S {tmps:=(outsG V R 0).foldl (fun t x=>t.setIfInBounds x.1 x.2) a.tmps,defers:=[]} (.inRegion ops [t,t+1,t+2]::k) w'):Reach F P b cs S a (.code (.region id ops true)::k) w:=by
 have hs:ops.size=t+3:=by unfold lastB at hlast;simp only[Bool.and_eq_true,beq_iff_eq] at hlast;exact hlast.1.1.1
 obtain⟨tt,htt⟩:=drawn_at (b:=b) (cs:=cs) (k:=k) (a:=a) (w:=w) (ops:=ops) (id:=id) hm hbn hr;have hrep:∀ i,(Array.replicate ops.size false).getD i false=false:=fun i=>by rw[Array.getD_eq_getD_getElem?];rcases Nat.lt_or_ge i ops.size with h|h<;>simp[h]
 obtain⟨a',k',w',h1,h2⟩:=reach_go (b:=b) (cs:=cs) (k:=k) (S:=S) (J:=RH ops R I z a) hb hlast hall hro hbn hr (fun Q listed a' w' i hj hi hit=>hj.step hlen hnd (hJ Q) hi hit) (fun listed a' w' hj=>hj.closed)
  (fun listed a' w' hj hdone=>by
   obtain⟨L,V,g1,g2,rfl⟩:=hj.done (T:=t) hz (fun q ρ h hq=>by have:=List.all_eq_true.1 hst ρ (List.mem_iff_getElem?.2 ⟨q-t,by rw[List.getElem?_drop];rw[show t+(q-t)=q by omega];exact h⟩);simpa using this) hdone;exact hE L V w' g1 g2) ops.size tt (Array.replicate ops.size false) a {w with drawn:=w.drawn+1} (by simp) (by
    have e:(List.range t).filter (fun i=>!(Array.replicate ops.size false).getD i false)=List.range t:=List.filter_eq_self.2 fun i _=>by rw[hrep i];rfl
    rw[e,List.length_range,hs]) (fun i _ _=>hrep i) (RH.start hd hz h0)
 exact⟨a',k',w',h1,htt.trans h2⟩
end
end
end Go.Proofs.YtpdmgecbapmgdaaGreat
