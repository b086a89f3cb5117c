/- A part of the proof that ArrowSets returns true for every input: no further condition. -/
import Derived.Test.YtpdmgecbapmgdaaGreatGp5
import Derived.Lib.AppendZeros
import Derived.Test.YtpdmgecbapmgdaaGreatCx9
import Derived.Conc.Own4
import Derived.Test.YtpdmgecbapmgdaaGreatGp2
import Derived.Stop.RegionWithIn
set_option linter.unusedSimpArgs false
set_option linter.unusedVariables false
set_option maxHeartbeats 4000000
set_option maxRecDepth 100000
namespace Go.Proofs.YtpdmgecbapmgdaaGreat
section
open Go.RowKit
theorem Index_any(LA:Option Addr)(lc:Nat)(x:List Nat)(s:Nat)(W:World)(hx:x.length≤99)(hs:s≤99)(hc:x.length≤lc)(ha:Hid (zca W LA x.length fun k=>((x.getD k 0:Nat):Int))) :
  CallsIn Fc 0 Tryz.prog 121 #[.slice LA x.length lc,.int .i64 s] W fun e w'=>∃ z:Int,e=.returned (.int .i64 z)∧(0≤z↔s∈x)∧W=w':=by
 gi_enter Tryz.func121,Tryz.ntmps121;gi_wp2
 gi_loopw [8] (fun z wr=>∃ k:Nat,k≤x.length∧z=.int .i64 k∧wr=W∧∀ j,j<k→x.getD j 0≠s) (fun z _=>x.length-(intOf z).toNat)
 case atStart=>exact⟨0,by omega,rfl,rfl,fun j hj=>by omega⟩
 case round=>
  obtain⟨k,hkx,rfl,rfl,heq⟩:=hrel;have HEQ:=Lib.hid heq;clear heq;by_cases hlt:k<x.length
  ·obtain⟨b1,o1,rfl,q1⟩:=ha.out k hlt;obtain⟨a,ha'⟩:∃ a,x.getD k 0=a:=⟨_,rfl⟩
   replace q1:wr.cell? ⟨b1,o1+k,none⟩=some (.int .i64 (a:Int)):=by rw[q1,←ha']
   have hltI:(k:Int)<(x.length:Int):=by omega
   have h99:k<99:=by omega
   have HA:=Lib.hid ha';clear ha';by_cases h1:s=a
   ·have h1I:(s:Int)=(a:Int):=by omega
    have hm:s∈x:=by
     have h:=HA.out;rw[List.getD_eq_getElem?_getD,List.getElem?_eq_getElem hlt] at h;have:x[k]=s:=by rw[h1];exact h
     rw[←this];exact List.getElem_mem hlt
    have HM:=Lib.hid hm;clear hm h1;gi_wp2;go_ret;exact⟨k,rfl,⟨fun _=>HM.out,fun _=>by omega⟩,rfl⟩
   ·have h1I:¬(s:Int)=(a:Int):=by omega
    have H1:=Lib.hid h1;clear h1;gi_wp2;go_roundw
    case rel=>exact⟨k+1,by omega,by go_num,trivial,fun j hj=>by
     by_cases e:j=k
     ·subst e;rw[HA.out];exact fun e=>H1.out e.symm
     ·exact HEQ.out j (by omega)⟩
    case measure=>simp[intOf];omega
  ·obtain rfl:k=x.length:=by omega
   gi_wp2;go_ret;refine⟨-1,rfl,⟨fun h=>by omega,fun h=>?_⟩,rfl⟩;obtain⟨j,hj,e⟩:=List.mem_iff_getElem.1 h;refine absurd ?_ (HEQ.out j hj);rw[List.getD_eq_getElem?_getD,List.getElem?_eq_getElem hj];exact e
theorem Contains_any(LA:Option Addr)(lc:Nat)(x:List Nat)(s:Nat)(W:World)(hx:x.length≤99)(hs:s≤99)(hc:x.length≤lc)(ha:Hid (zca W LA x.length fun k=>((x.getD k 0:Nat):Int))) :
  CallsIn Fc 0 Tryz.prog 73 #[.slice LA x.length lc,.int .i64 s] W fun e w'=>e=.returned (.bool (decide (s∈x)))∧W=w':=by
 gi_enter Tryz.func73,Tryz.ntmps73
 gi_wp2_with (gi_at_call 121;refine(Index_any LA lc x s _ hx hs hc ha).mono ?_;rintro e w' ⟨z,rfl,hz,rfl⟩;have HZ:=Lib.hid hz;clear hz)
 go_ret;refine⟨?_,rfl⟩;have h:=HZ.out;simp[←h]
noncomputable def setsX(rs rl rw:Int)(sh:Nat→Shaft)(n m:Nat):List (List Nat):=(extE n m n []).filter fun x=>zoc rs rl rw sh (fun k=>x.getD k 0) x.length==1
theorem ySa{n m:Nat}:∀(d:Nat) (x y:List Nat),d≤n→(∀ a,a∈x→a<n-d)→x.Pairwise (· < ·)→y∈loopE n m d x→y.Pairwise (· < ·)
 |0,x,y,_,_,_,h=>by cases h
 |d+1,x,y,hd,hx,hp,h=>by
  have hp1:(x++[n-(d+1)]).Pairwise (· < ·):=by rw[List.pairwise_append];refine⟨hp,List.pairwise_singleton _ _,fun a ha b hb=>?_⟩;rcases List.mem_singleton.1 hb with rfl;exact hx a ha
  rw[loopE,List.mem_append] at h;rcases h with h|h
  ·split at h
   ·rcases List.mem_singleton.1 h with rfl;exact hp1
   ·refine ySa d _ y (by omega) (fun a ha=>?_) hp1 h;rcases List.mem_append.1 ha with h'|h'
    ·have:=hx a h';omega
    ·rcases List.mem_singleton.1 h' with rfl;omega
  ·exact ySa d x y (by omega) (fun a ha=>by have:=hx a ha;omega) hp h
theorem yvc{n m:Nat}{y:List Nat}(h:y∈extE n m n []):y.Pairwise (· < ·):=by
 unfold extE at h;split at h
 ·rcases List.mem_singleton.1 h with rfl;exact List.Pairwise.nil
 ·exact ySa n [] y (Nat.le_refl _) (fun a ha=>by cases ha) List.Pairwise.nil h
theorem asc_at{x:List Nat}(h:x.Pairwise (· < ·)){j i:Nat}(hji:j<i)(hi:i<x.length):x.getD j 0<x.getD i 0:=by have:=List.pairwise_iff_getElem.1 h j i (by omega) hi hji;rw[List.getD_eq_getElem?_getD,List.getD_eq_getElem?_getD,List.getElem?_eq_getElem hi,List.getElem?_eq_getElem (show j<x.length by omega)];exact this
theorem ykc{rs rl rw:Int}{sh:Nat→Shaft}{n m:Nat}{P:Nat→Int}(h:∀ two one,one<two→two<n→P (one*9+two)=pairZ rs rl rw (sh one) (sh two)):setsL P n m=setsX rs rl rw sh n m:=by
 unfold setsL filt setsX;refine List.filter_congr fun x hx=>?_
 have e:yesZ P x=zoc rs rl rw sh (fun k=>x.getD k 0) x.length:=yUa x.length fun j i h1 h2=>h _ _ (asc_at (yvc hx) h1 h2) (by rw[List.getD_eq_getElem?_getD,List.getElem?_eq_getElem h2];exact ycc hx _ (List.getElem_mem h2))
 rw[e]
def ydb(M:List (List Nat))(z:Int)(W:World)(e:Ending)(w':World):Prop:=∃ v,e=.returned (.tuple #[v,.int .i64 z])∧zS w' W.heap.size W.heap.size v M∧Below W.heap.size W w'
noncomputable def setsXZ(rs rl rw many:Int)(n:Nat)(sh:Nat→Shaft):List (List Nat):=if stockZ rs rl rw many n sh=0 then setsX rs rl rw sh n many.toNat else[]
theorem Sets_fair(rs rl rw:Int)(m:Nat)(A:Option Addr)(n c:Nat)(sh:Nat→Shaft)(W:World)(hc:n≤c)(hsh:Hid (zA W A n sh))(hst:zxa rs rl rw m n sh) :
    CallsIn Fc 0 Tryz.prog 22 #[zga rs rl rw m A n c] W (ydb (setsX rs rl rw sh n m) 0 W):=by
  have hB1:∀ X Y,Below W.heap.size W ((W.alloc X).alloc Y):=fun X Y=>((Below.refl _ _).alloc (Nat.le_refl _) _).alloc (by simp) _
  have HB1:=Lib.hid hB1;have hck:=fun w (hb:Below W.heap.size W w)=>yRb rs rl rw m A n c sh w hc (Lib.hid hst) (Lib.hid (hsh.out.below hb))
  have hn9:=hst.count;have HCK:=Lib.hid hck;have hcd:=fun w (hb:Below W.heap.size W w)=>yS rs rl rw m A n c sh w (Lib.hid hst) (Lib.hid (hsh.out.below hb))
  have HCD:=Lib.hid hcd;clear hcd hck hst hB1;gi_enter Tryz.func22,Tryz.ntmps22
  gi_wp2_with (first
    | (gi_at_call 56;refine(HCK.out _ (HB1.out _ _)).mono ?_;rintro e w2 ⟨rfl,hb2⟩
       have e0:w2.cell? ⟨W.heap.size+1,0,none⟩=some (.int .i64 rs):=Below.old hb2 (by go_simp);have e1:w2.cell? ⟨W.heap.size+1,1,none⟩=some (.int .i64 rl):=Below.old hb2 (by go_simp);have e2:w2.cell? ⟨W.heap.size+1,2,none⟩=some (.int .i64 rw):=Below.old hb2 (by go_simp);have e3:w2.cell? ⟨W.heap.size+1,3,none⟩=some (.int .i64 m):=Below.old hb2 (by go_simp);have e4:w2.cell? ⟨W.heap.size+1,4,none⟩=some (.slice A n c):=Below.old hb2 (by go_simp);have HB2:=Lib.hid ((HB1.out _ _).trans (hb2.mono (HB1.out _ _).size));clear hb2)
    |(gi_at_call 58;refine(HCD.out _ HB2.out).mono ?_;rintro e w7 ⟨P,rfl,hP,hb7⟩;have HB7:=Lib.hid (HB2.out.trans (hb7.mono HB2.out.size));have HP:=Lib.hid (ykc hP (m:=m));clear hb7 hP)
    |(gi_at_call 68;refine(yic rs rl rw A n c P m _ hn9).mono ?_;rintro e w8 ⟨v,S,rfl,hl,hb8⟩;have HL:=Lib.hid hl.p;have HB8:=Lib.hid (HB7.out.trans (hb8.mono HB7.out.size));clear hb8 hl))
  go_ret2
  refine⟨v,rfl,?_,HB8.out⟩;rw[←HP.out];have h:zS w8 w7.heap.size w7.heap.size v (setsL P n m):=HL.out;exact h.mono HB7.out.size HB7.out.size
theorem Sets_exact(rs rl rw many:Int)(A:Option Addr)(n c:Nat)(sh:Nat→Shaft)(W:World)(hn:n≤20)(hc:n≤c)(hsh:Hid (zA W A n sh))(hnm:Hid (∀ k,k<n→(sh k).name.size≤100))(hok:stockZ rs rl rw many n sh=0→zxa rs rl rw many n sh) :
  CallsIn Fc 0 Tryz.prog 22 #[zga rs rl rw many A n c] W (ydb (setsXZ rs rl rw many n sh) (stockZ rs rl rw many n sh) W):=by
 have hB1:∀ X Y,Below W.heap.size W ((W.alloc X).alloc Y):=fun X Y=>((Below.refl _ _).alloc (Nat.le_refl _) _).alloc (by simp) _
 have HB1:=Lib.hid hB1;have hck:=fun w (hb:Below W.heap.size W w)=>yca rs rl rw many A n c sh w hn hc (Lib.hid (hsh.out.below hb)) (Lib.hid fun k hk=>Nat.le_trans (hnm.out k hk) (by omega))
 by_cases h0:stockZ rs rl rw many n sh=0
 ·have hst:=hok h0;have e:setsXZ rs rl rw many n sh=setsX rs rl rw sh n many.toNat:=if_pos h0;rw[e,h0];have hmany:0≤many:=by have:=hst.rule.m0;omega
  obtain⟨m,rfl⟩:∃ m:Nat,many=(m:Int):=⟨many.toNat,by omega⟩;rw[Int.toNat_natCast];exact Sets_fair rs rl rw m A n c sh W hc hsh hst
 ·have e:setsXZ rs rl rw many n sh=[]:=if_neg h0;rw[e];have HCK:=Lib.hid hck;obtain⟨z,hz⟩:∃ z,stockZ rs rl rw many n sh=z:=⟨_,rfl⟩;rw[hz] at HCK h0 ⊢;clear hck hz e hok hB1;gi_enter Tryz.func22,Tryz.ntmps22
  gi_wp2_with (gi_at_call 56;refine(HCK.out _ (HB1.out _ _)).mono ?_;rintro e w2 ⟨rfl,hb2⟩;have HB2:=Lib.hid ((HB1.out _ _).trans (hb2.mono (HB1.out _ _).size));clear hb2)
  go_ret2
  exact⟨_,rfl,zS.nil _ _ _,HB2.out⟩
end
section
open Go.RowKit
theorem u3i:Tryz.prog.underlying 3=some (.int .i64):=by kernel_rfl
theorem ym{F:Fence}{ops:Array Oper}{rest:List Oper}{o:Oper}{a:Act}{w:World}{Q:Exit→Act→World→Prop}(hg:o.guard=none)(s x:Operand)(t tn:TypeId)(hop:o.op=.call {callee:=.builtin .append,args:=#[s,x],argTypes:=#[t,tn]})(vs vx:Value)(hs:a.eval s=vs)(hx:a.eval x=vx)
  (v':Value) (w':World) (hr:(Builtin.append_ #[t,tn] o.type #[vs,vx]).run Tryz.prog w=.ok v' w') (h:wpListIn F 0 Tryz.prog ops Q rest (a.put o.dst v') w'):wpListIn F 0 Tryz.prog ops Q (o::rest) a w:=by
 refine wpListIn_plain hg fun K hK=>?_
 unfold Oper.wpIn;refine⟨?_,?_⟩
 ·simp[Oper.about,hop,resolve,Target.leads,Sem.run_pure]
 ·rw[Oper.semAt_plain F _ _ (by rw[hop];intro c hc';cases hc')];simp[execOp,hop,resolve,invoke,builtin,hs,hx,hr,Result.andThen];exact hK _ _ h
theorem Grow_any(k:Nat)(W:World)(hk:k≤99):CallsIn Fc 0 Tryz.prog 120 #[.slice none 0 0,.int .i64 k] W (fun e w'=>∃ v,e=.returned v∧w'.ownsRow W.heap.size 3 1 v 0 []∧Below W.heap.size W w'):=by
 by_cases h0:k=0
 ·subst h0;gi_enter Tryz.func120,Tryz.ntmps120;gi_wp2;go_ret;exact⟨_,rfl,World.ownsRow_nil _ _ _ _,Below.refl _ _⟩
 ·have hkI:(0:Int)<(k:Int):=by omega
  obtain⟨i0,hi0,hz0,hz1,hz2⟩:=info_parts it3;have hr:=Lib.run_append_nil_zeros (P:=Tryz.prog) W 27 3 27 3 i0 (.int .i64 0) .i64 .i64 ut27 u3i hi0 hz0 k (by omega) (by rw[hz1];decide) (by omega) (by rw[hz2];omega);have hge:=grownCap_ge W k 0 3;have hle:=grownCap_le_maxLen W k 0 3 (by simp only[maxLen];omega);generalize grownCap W k 0 3=gc at *;obtain⟨w1,hw1⟩:∃ w1,w1=W.drew.alloc (.cells (Builtin.zeroCells (Value.int .i64 0).cells k++Builtin.zeroCells (Value.int .i64 0).cells (gc-k)) 3):=⟨_,rfl⟩;rw[←hw1] at hr;have hb1:Below W.heap.size W w1:=by rw[hw1];exact((Below.refl _ _).drew).alloc (by simp) _
  have hh:w1.heap[W.heap.size]? = some (.cells (Builtin.zeroCells (Value.int .i64 0).cells k++Builtin.zeroCells (Value.int .i64 0).cells (gc-k)) 3 (0,0)):=by rw[hw1];exact zG (by simp)
  have HR:=Lib.hid hr;have HB:=Lib.hid hb1;have HH:=Lib.hid hh;clear hr hb1 hh hw1 hi0 hz0 hz1 hz2;gi_enter Tryz.func120,Tryz.ntmps120
  gi_wp2_with (refine ym rfl _ _ 27 3 rfl _ _ rfl rfl _ _ HR.out ?_)
  go_ret;refine⟨_,rfl,⟨rfl,.inr ⟨W.heap.size,gc,_,rfl,Nat.le_refl _,HH.out,by omega,hle,?_,by simp⟩⟩,HB.out⟩;have h1:(Value.int .i64 0).cells.size=1:=rfl;rw[Array.size_append,size_zeroCells,size_zeroCells,h1];omega
theorem yGb{S:List (List Nat)}{k:Nat}(h:k<S.length):S.take (k+1)=S.take k++[S.getD k []]:=by rw[List.take_succ_eq_append_getElem h,List.getD_eq_getElem?_getD,List.getElem?_eq_getElem h];rfl
theorem yaa{S:List (List Nat)}{k:Nat}(h:k<S.length):(S.take (k+1)).flatten=(S.take k).flatten++S.getD k []:=by rw[yGb h,List.flatten_append];simp
theorem zWb{S:List (List Nat)}(h:Few S):∀ k,k≤S.length→(S.take k).flatten.length≤k*9
 |0,_=>by simp
 |k+1,hk=>by rw[yaa (by omega),List.length_append];have:=zWb h k (by omega);have:=h.2 k;omega
theorem ynb{w:World}{b o:Nat}{x:List Nat}(h:zca w (some ⟨b,o,none⟩) x.length (fun k=>((x.getD k 0:Nat):Int)))(j:Nat)(u:Value)(hj:(x.map intV)[j]? = some u):w.cell? ((⟨b,o,none⟩:Addr).add j)=some u:=by
 have hlt:j<x.length:=by have:=(List.getElem?_eq_some_iff.1 hj).1;simpa using this
 obtain⟨b',o',e,hc⟩:=h j hlt;cases e;rw[addr_add,hc];rw[List.getElem?_map,List.getElem?_eq_getElem hlt] at hj;cases hj;simp[intV,List.getD_eq_getElem?_getD,List.getElem?_eq_getElem hlt]
theorem Concat_any(LA:Option Addr)(lc:Nat)(S:List (List Nat))(W:World)(hf:Few S)(hpos:∀ k,k<S.length→0<(S.getD k []).length)(hl:Hid (zlc W (.slice LA S.length lc) S)) :
    CallsIn Fc 0 Tryz.prog 72 #[.slice LA S.length lc] W (fun e w'=>∃ v,e=.returned v∧ListAt w' W.heap.size v S.flatten∧Below W.heap.size W w'):=by
  obtain⟨i0,hi0,hz0,hz1,hz2⟩:=info_parts it3;have HI0:=Lib.hid hi0;have HZ0:=Lib.hid hz0;have HZ1:=Lib.hid hz1;have HZ2:=Lib.hid hz2;clear hi0 hz0 hz1 hz2;obtain⟨_,_,e,hlc,hr⟩:=hl.out;cases e;have HR:=Lib.hid hr;have HF:=Lib.hid hf;have HP:=Lib.hid hpos;have h9:=hf.1;have hfl:=zWb hf S.length (Nat.le_refl _);rw[List.take_length] at hfl;clear hr hl hf hpos;gi_enter Tryz.func72,Tryz.ntmps72;gi_wp2
  gi_loopw [3,11] (fun t y wr=>∃ k:Nat,k≤S.length∧t=.int .i64 ((S.take k).flatten.length:Nat)∧y=.int .i64 k∧wr=W) (fun _ y _=>S.length-(intOf y).toNat)
  case atStart=>exact⟨0,by omega,by simp,rfl,rfl⟩
  case round=>
    obtain⟨k,hk,rfl,rfl,hwr⟩:=hrel;have hwr':=hwr.symm;subst hwr';have h81:=zWb HF.out k hk;obtain⟨t,ht⟩:∃ t,(S.take k).flatten.length=t:=⟨_,rfl⟩;rw[ht] at h81 ⊢;have HT:=Lib.hid ht;clear ht;by_cases hlt:k<S.length
    · obtain⟨b1,o1,LX,kx,rfl,q1,hkx,hix⟩:=HR.out k hlt;obtain⟨x,hx⟩:∃ x,S.getD k []=x:=⟨_,rfl⟩;have hx9:=HF.out.2 k;rw[hx] at q1 hkx hx9;have HX:=Lib.hid hx;have hltI:(k:Int)<(S.length:Int):=by omega
      have h99:k<99:=by omega
      clear hix hx;have ht81:t≤81:=by omega
      clear h81;gi_wp2;go_roundw
      case rel=>exact⟨k+1,by omega,by rw[yaa hlt,List.length_append,HT.out,HX.out];go_num,by go_num,trivial⟩
      case measure=>simp[intOf];omega
    · obtain rfl:k=S.length:=by omega
      have hT:=HT.out;rw[List.take_length] at hT;have HTT:=Lib.hid hT;have ht99:t≤99:=by omega
      have hltI:¬(S.length:Int)<(S.length:Int):=by omega
      clear hT HT h81
      gi_wp2_with (gi_at_call 120;refine(Grow_any t _ ht99).mono ?_;rintro e w1 ⟨v1,rfl,ho1,hb1⟩;have HO1:=Lib.hid ho1;have HB1:=Lib.hid hb1;clear ho1 hb1)
      gi_loopw [6,27] (fun v y wr=>∃ k:Nat,k≤S.length∧y=.int .i64 k∧ListAt wr W.heap.size v (S.take k).flatten∧Below W.heap.size W wr) (fun _ y _=>S.length-(intOf y).toNat)
      case atStart=>exact⟨0,by omega,rfl,HO1.out,HB1.out⟩
      case round=>
        obtain⟨k,hk,rfl,hla,hbw⟩:=hrel;have h81:=zWb HF.out k hk;have HLA:=Lib.hid hla;have HBW:=Lib.hid hbw;clear hla hbw;by_cases hlt:k<S.length
        · obtain⟨b1,o1,LX,kx,rfl,q1,hkx,hix⟩:=HR.out k hlt;have hp:=HP.out k hlt;have hfn:=yaa hlt;obtain⟨x,hx⟩:∃ x,S.getD k []=x:=⟨_,rfl⟩;have hx9:=HF.out.2 k;rw[hx] at q1 hkx hx9 hix hp hfn;have HFN:=Lib.hid hfn;obtain⟨b2,o2,rfl,_⟩:=hix 0 hp;have hcl:=ynb (hix.below HBW.out);have HCL:=Lib.hid hcl;have q1w:=Below.old HBW.out q1;have hltI:(k:Int)<(S.length:Int):=by omega
          have h99:k<99:=by omega
          obtain⟨M,hM⟩:∃ M,(S.take k).flatten=M:=⟨_,rfl⟩;have hla:wr.ownsRow W.heap.size 3 1 u6 M.length (M.map intV):=by rw[←hM];exact HLA.out
          have hM81:M.length≤81:=by rw[←hM];omega
          rw[hM] at HFN;have HLA2:=Lib.hid hla;clear hix hx hfn hcl hM h81 hla HLA q1
          gi_wp2_with
            (gi_at_builtin
             refine wpListIn_append_own _ rfl _ _ 27 rfl W.heap.size 3 i0 (.int .i64 0) 1 8 ut27 HI0.out HZ0.out HZ1.out HZ2.out rfl (by decide) u6 M.length (M.map intV) rfl HLA2.out ⟨b2,o2,none⟩ x.length kx (x.map intV) rfl (by simp) HCL.out (by intro u hu;obtain⟨n,_,rfl⟩:=List.mem_map.1 hu;rfl) (by simp[maxLen];omega) (by omega) (HBW.out.size) ?_;intro v' w4 hown4 hg4 hnil4;have HO:=Lib.hid hown4;have HG:=Lib.hid hg4;clear hg4 hnil4 hown4)
          refine⟨⟨k+1,by omega,rfl,?_,HBW.out.grown HG.out HBW.out.size fun g hg=>(zfb HLA2.out hg).1⟩,by show S.length-(intOf (Value.int IntKind.i64 ((k:Int)+1))).toNat<S.length-(intOf (Value.int IntKind.i64 (k:Int))).toNat;simp only[intOf];omega⟩;rw[HFN.out];have h:=HO.out;show w4.ownsRow W.heap.size 3 1 v' (M++x).length ((M++x).map intV);rw[List.map_append,List.length_append];exact h
        · obtain rfl:k=S.length:=by omega
          have hltI:¬(S.length:Int)<(S.length:Int):=by omega
          have hla:=HLA.out;rw[List.take_length] at hla;obtain⟨F,hF⟩:∃ F,S.flatten=F:=⟨_,rfl⟩;rw[hF] at hla;obtain⟨LV,lv,rfl,hlv,_⟩:=hla.shape;have HLA2:=Lib.hid hla;have HF2:=Lib.hid hF;clear hla HLA h81 hF;gi_wp2;go_ret;rw[HF2.out];exact⟨_,rfl,HLA2.out,HBW.out⟩
end
section
open Go.RowKit
theorem yna{n m:Nat}:∀(d:Nat) (x y:List Nat),y∈loopE n m d x→y.length=m
 |0,x,y,h=>by cases h
 |d+1,x,y,h=>by
  rw[loopE,List.mem_append] at h;rcases h with h|h
  ·split at h
   ·next e=>rcases List.mem_singleton.1 h with rfl;rw[List.length_append,List.length_singleton];exact e
   ·exact yna d _ y h
  ·exact yna d x y h
theorem yQb{n m d:Nat}{x y:List Nat}(h:y∈extE n m d x):y.length=m:=by
 unfold extE at h;split at h
 ·next e=>rcases List.mem_singleton.1 h with rfl;exact e
 ·exact yna d x y h
theorem ytc{p:List Nat→Prop}{f:List (List Nat)→List Nat→List (List Nat)}:∀(X B:List (List Nat)),(∀ B x,x∈X→(∀ y,y∈B→p y)→∀ y,y∈f B x→p y)→(∀ y,y∈B→p y)→∀ y,y∈X.foldl f B→p y
 | [],B,_,hB=>hB
 |x::X,B,hf,hB=>ytc X (f B x) (fun B z hz=>hf B z (List.mem_cons_of_mem _ hz)) (hf B x (List.mem_cons_self ..) hB)
theorem yFa{p:List Nat→Prop}{n:Nat}{O:Nat→List (List Nat)}(hO:∀ s x,x∈O s→p x):∀(d:Nat) (T:Nat→Bool) (S B:List (List Nat)),(∀ y,y∈S→p y)→(∀ y,y∈B→p y)→∀ y,y∈tryE n O d T S B→p y
 |0,T,S,B,hS,hB=>by
  rw[tryE];split
  ·exact hS
  ·exact hB
 |d+1,T,S,B,hS,hB=>by
  rw[tryE];refine yFa hO d _ S _ hS ?_;split
  ·exact hB
  ·refine ytc _ B (fun B x hx hB=>?_) hB;split
   ·refine yFa hO d _ _ B (fun y hy=>?_) hB;rcases List.mem_append.1 hy with h|h
    ·exact hS y h
    ·rcases List.mem_singleton.1 h with rfl;exact hO _ _ hx
   ·exact hB
theorem evs_fst{M:List (List Nat)}{ev:Nat×Nat}(h:ev∈evs M M.length 0):ev.2<M.length:=by simp only[evs,List.take_zero,List.map_nil,List.append_nil,List.mem_flatMap,List.mem_range,List.mem_map] at h;obtain⟨k,hk,s,_,rfl⟩:=h;exact hk
theorem ync{M:List (List Nat)}{s:Nat}{x:List Nat}(h:x∈ofE M (evs M M.length 0) s):x∈M:=by obtain⟨ev,he,rfl⟩:=List.mem_map.1 h;have hlt:=evs_fst (List.mem_filter.1 he).1;rw[List.getD_eq_getElem?_getD,List.getElem?_eq_getElem hlt];exact List.getElem_mem hlt
theorem shareL_mem{P:Nat→Int}{n m:Nat}{T:Nat→Bool}{x:List Nat}(h:x∈zPb P n m T):x∈setsL P n m:=
 yFa (p:=fun x=>x∈setsL P n m) (fun s x hx=>ync hx) n T [] [] (fun y hy=>by cases hy) (fun y hy=>by cases hy) x h
theorem setsL_mem{P:Nat→Int}{n m:Nat}{x:List Nat}(h:x∈setsL P n m):x∈extE n m n []:=(List.mem_filter.1 h).1
theorem shareL_pos{P:Nat→Int}{n m:Nat}{T:Nat→Bool}(hm:0<m)(k:Nat)(hk:k<(zPb P n m T).length):0<((zPb P n m T).getD k []).length:=by rw[List.getD_eq_getElem?_getD,List.getElem?_eq_getElem hk];show 0<((zPb P n m T)[k]).length;rw[yQb (setsL_mem (shareL_mem (List.getElem_mem hk)))];exact hm
noncomputable def zgc(rs rl rw:Int)(sh:Nat→Shaft)(n m:Nat)(T:Nat→Bool):List (List Nat):=tryE n (fun s=>ofE (setsX rs rl rw sh n m) (evs (setsX rs rl rw sh n m) (setsX rs rl rw sh n m).length 0) s) n T [] []
theorem yIb{rs rl rw:Int}{sh:Nat→Shaft}{n m:Nat}{P:Nat→Int}(h:∀ two one,one<two→two<n→P (one*9+two)=pairZ rs rl rw (sh one) (sh two))(T:Nat→Bool):zPb P n m T=zgc rs rl rw sh n m T:=by
 unfold zPb zgc;have e:zab P n m=fun s=>ofE (setsX rs rl rw sh n m) (evs (setsX rs rl rw sh n m) (setsX rs rl rw sh n m).length 0) s:=by funext s;unfold zab;rw[ykc h]
 rw[e]
theorem zS.below{w w':World}{b1 b2:Nat}{v:Value}{M:List (List Nat)}(h:zS w b1 b2 v M)(hb:Below w.heap.size w w'):zS w' b1 b2 v M:=
 h.keep (fun g hg=>hb.block g (h.own hg).2) fun k cs fz hk=>hb.block k (Array.getElem?_eq_some_iff.1 hk).1
theorem zS.read{w:World}{b1 b2:Nat}{v:Value}{S:List (List Nat)}(h:zS w b1 b2 v S):zlc w v S:=by
 obtain⟨vs,h1,h2⟩:=h;obtain⟨hl,⟨rfl,h0⟩|⟨g,cap,cur,rfl,hbg,hg,hc,hm,hs,ht⟩⟩:=id h1
 ·refine⟨none,0,by rw[h0],by omega,fun k hk=>by omega⟩
 ·refine⟨_,cap,rfl,hc,fun k hk=>?_⟩;obtain⟨LX,kx,e,q1,q2⟩:=(h2 k hk).shape;refine⟨g,0,LX,kx,rfl,?_,q1,q2⟩;have hv:k<vs.length:=by omega
  rw[Nat.zero_add,h1.cellAt k (by omega),←e,List.getD_eq_getElem?_getD,List.getElem?_eq_getElem hv];rfl
def leftL(n:Nat)(M:List (List Nat)):List Nat:=(List.range n).filter fun s=>decide (s∉M.flatten)
def yDb(M:List (List Nat))(L:List Nat)(z:Int)(W:World)(e:Ending)(w':World):Prop:=∃ v u,e=.returned (.tuple #[v,u,.int .i64 z])∧zS w' W.heap.size W.heap.size v M∧ListAt w' W.heap.size u L∧Below W.heap.size W w'
theorem Fill_fair(rs rl rw:Int)(m:Nat)(A:Option Addr)(n c:Nat)(sh:Nat→Shaft)(W:World)(hc:n≤c)(hsh:Hid (zA W A n sh))(hst:zxa rs rl rw m n sh) :
    CallsIn Fc 0 Tryz.prog 25 #[zga rs rl rw m A n c] W (yDb (zgc rs rl rw sh n m fun _=>false) (leftL n (zgc rs rl rw sh n m fun _=>false)) 0 W):=by
  obtain⟨i0,hi0,hz0,hz1,hz2⟩:=info_parts it3;have HI0:=Lib.hid hi0;have HZ0:=Lib.hid hz0;have HZ1:=Lib.hid hz1;have HZ2:=Lib.hid hz2;clear hi0 hz0 hz1 hz2;have hn9:=hst.count;have hm2:=hst.rule.m0;have hB1:∀ X Y,Below W.heap.size W ((W.alloc X).alloc Y):=fun X Y=>((Below.refl _ _).alloc (Nat.le_refl _) _).alloc (by simp) _
  have HB1:=Lib.hid hB1;have hck:=fun w (hb:Below W.heap.size W w)=>yRb rs rl rw m A n c sh w hc (Lib.hid hst) (Lib.hid (hsh.out.below hb))
  have HCK:=Lib.hid hck;have hcd:=fun w (hb:Below W.heap.size W w)=>yS rs rl rw m A n c sh w (Lib.hid hst) (Lib.hid (hsh.out.below hb))
  have HCD:=Lib.hid hcd;clear hcd hck hst hB1;gi_enter Tryz.func25,Tryz.ntmps25
  gi_wp2_with (first
    | (gi_at_call 56;refine(HCK.out _ (HB1.out _ _)).mono ?_;rintro e w2 ⟨rfl,hb2⟩
       have e0:w2.cell? ⟨W.heap.size+1,0,none⟩=some (.int .i64 rs):=Below.old hb2 (by go_simp);have e1:w2.cell? ⟨W.heap.size+1,1,none⟩=some (.int .i64 rl):=Below.old hb2 (by go_simp);have e2:w2.cell? ⟨W.heap.size+1,2,none⟩=some (.int .i64 rw):=Below.old hb2 (by go_simp);have e3:w2.cell? ⟨W.heap.size+1,3,none⟩=some (.int .i64 m):=Below.old hb2 (by go_simp);have e4:w2.cell? ⟨W.heap.size+1,4,none⟩=some (.slice A n c):=Below.old hb2 (by go_simp);have e5:w2.cell? ⟨W.heap.size,4,none⟩=some (.slice A n c):=Below.old hb2 (by go_simp);have HB2:=Lib.hid ((HB1.out _ _).trans (hb2.mono (HB1.out _ _).size));clear hb2)
    |(gi_at_call 58;refine(HCD.out _ HB2.out).mono ?_;rintro e w7 ⟨P,rfl,hP,hb7⟩;have e7:=Below.old (hb7.mono (Nat.le_refl _)) e5;have HB7:=Lib.hid (HB2.out.trans (hb7.mono HB2.out.size));have HP:=Lib.hid (yIb hP (m:=m) fun _=>false);clear hb7 hP e0 e1 e2 e3 e4 e5)
    |(gi_at_call 71;refine(yHb rs rl rw A n c P m (fun _=>false) _ hn9).mono ?_;rintro e w8 ⟨v,rfl,hl,hf,hb8⟩;have e8:=Below.old hb8 e7;have HL:=Lib.hid hl;have HF:=Lib.hid hf;have HB8:=Lib.hid (HB7.out.trans (hb8.mono HB7.out.size));clear hb8 hl hf e7))
  have hpos:=fun k hk=>shareL_pos (P:=P) (n:=n) (m:=m) (T:=fun _=>false) (by omega) k hk
  obtain⟨M,hM⟩:∃ M,zPb P n m (fun _=>false)=M:=⟨_,rfl⟩;have hrd:=HL.out.read;rw[hM] at hpos hrd HP HL HF;obtain⟨LA,lc,rfl,hlc,_⟩:=id hrd;have hfl:M.flatten.length≤81:=by have:=zWb HF.out M.length (Nat.le_refl _);rw[List.take_length] at this;have:=HF.out.1;omega
  refine(Concat_any LA lc M w8 HF.out hpos (Lib.hid hrd)).mono ?_;rintro e w9 ⟨u,rfl,hu,hb9⟩;have e9:=Below.old hb9 e8;obtain⟨LU,ku,rfl,hku,hiu⟩:=hu.shape;obtain⟨F,hF⟩:∃ F,M.flatten=F:=⟨_,rfl⟩;rw[hF] at hu hku hiu hfl ⊢;have HU:=Lib.hid hiu;have HL9:=Lib.hid (HL.out.below hb9);have HB9:=Lib.hid (HB8.out.trans (hb9.mono HB8.out.size));have HB89:=Lib.hid hb9;have HF2:=Lib.hid hF;have k9:=World.block_lt_of_cell? w9 _ e9;have hcon:=fun s (hs:s≤99) w (hw:Below w9.heap.size w9 w)=>Contains_any LU ku F s w (by omega) hs hku (Lib.hid (hiu.below hw))
  have HC:=Lib.hid hcon;clear hpos hM hrd hu hiu hF hb9 hcon e8;gi_wp2
  gi_loopw [3,25] (fun lv y wr=>∃ k:Nat,k≤n∧y=.int .i64 k∧ListAt wr w9.heap.size lv ((List.range k).filter fun s=>decide (s∉F))∧Below w9.heap.size w9 wr) (fun _ y _=>n-(intOf y).toNat)
  case atStart=>exact⟨0,by omega,rfl,ListAt.nil _ _,Below.refl _ _⟩
  case round=>
    obtain⟨k,hk,rfl,hla,hbw⟩:=hrel;have HLA:=Lib.hid hla;have HBW:=Lib.hid hbw;clear hla hbw;by_cases hlt:k<n
    · have hltI:(k:Int)<(n:Int):=by omega
      have h99:k<9:=by omega
      have hck:=HC.out k (by omega) wr HBW.out;have hnext:(List.range (k+1)).filter (fun s=>decide (s∉F))=(List.range k).filter (fun s=>decide (s∉F))++if k∈F then[] else[k]:=by rw[List.range_succ,List.filter_append];by_cases h:k∈F<;>simp[h]
      have hlen:((List.range k).filter fun s=>decide (s∉F)).length≤9:=Nat.le_trans (List.length_filter_le _ _) (by simp;omega);by_cases hin:k∈F
      · rw[show decide (k∈F)=true from decide_eq_true hin] at hck;rw[if_pos hin,List.append_nil] at hnext;have HN:=Lib.hid hnext;have HCK:=Lib.hid hck;clear hnext hck hin hlen
        gi_wp2_with (gi_at_call 73;refine HCK.out.mono ?_;rintro e w6 ⟨rfl,rfl⟩)
        exact⟨⟨k+1,by omega,rfl,by rw[HN.out];exact HLA.out,HBW.out⟩,by show n-(intOf (Value.int IntKind.i64 ((k:Int)+1))).toNat<n-(intOf (Value.int IntKind.i64 (k:Int))).toNat;simp only[intOf];omega⟩
      · rw[show decide (k∈F)=false from decide_eq_false hin] at hck;rw[if_neg hin] at hnext;have HN:=Lib.hid hnext;have HCK:=Lib.hid hck;obtain⟨L,hL⟩:∃ L,(List.range k).filter (fun s=>decide (s∉F))=L:=⟨_,rfl⟩;rw[hL] at hlen HN;have hla:∀ X,(wr.alloc X).ownsRow w9.heap.size 3 1 u3 L.length (L.map intV):=fun X=>by rw[←hL];exact zu HLA.out ((Below.refl _ _).alloc (Nat.le_refl _) X)
        have HLA2:=Lib.hid hla;clear hnext hck hin hL hla
        gi_wp2_with (first
          |(gi_at_call 73;refine HCK.out.mono ?_;rintro e w6 ⟨rfl,rfl⟩)
          | (gi_at_builtin
             refine wpListIn_append_own _ rfl _ _ 27 rfl w9.heap.size 3 i0 (.int .i64 0) 1 8 ut27 HI0.out HZ0.out HZ1.out HZ2.out rfl (by decide) u3 L.length (L.map intV) rfl (HLA2.out _) ⟨_,0,none⟩ 1 1 [.int .i64 (k:Int)] rfl rfl (yw _ _ _) (by intro u hu;rcases List.mem_singleton.1 hu with rfl;rfl) (by simp[maxLen];omega) (by omega) (by have:=HBW.out.size;simp;omega) ?_;intro v' w4 hown4 hg4 hnil4;have HO:=Lib.hid hown4;have HG:=Lib.hid hg4;clear hg4 hnil4 hown4))
        refine⟨⟨k+1,by omega,rfl,?_,(HBW.out.alloc HBW.out.size _).grown HG.out (by have:=HBW.out.size;simp;omega) fun g hg=>(zfb (HLA2.out (.cells #[.int .i64 (k:Int)] 3)) hg).1⟩,by show n-(intOf (Value.int IntKind.i64 ((k:Int)+1))).toNat<n-(intOf (Value.int IntKind.i64 (k:Int))).toNat;simp only[intOf];omega⟩;rw[HN.out];have h:=HO.out;show w4.ownsRow w9.heap.size 3 1 v' (L++[k]).length ((L++[k]).map intV);rw[List.map_append,List.length_append];exact h
    · obtain rfl:k=n:=by omega
      have hltI:¬(k:Int)<(k:Int):=by omega
      gi_wp2;refine bodyPost_ret (results_tmp3 rfl _ _ _) rfl ?_;refine⟨_,_,rfl,?_,?_,HB9.out.trans (HBW.out.mono HB9.out.size)⟩
      · rw[←HP.out];exact(HL9.out.below HBW.out).mono HB7.out.size HB7.out.size
      · unfold leftL;rw[←HP.out,HF2.out];exact HLA.out.mono HB9.out.size
end
section
open Go.RowKit
def hasZ(n:Nat)(k:Int):Int:=if 0≤k∧k<n then 0 else 6
theorem yNc(rs rl rw many:Int)(A:Option Addr)(n c:Nat)(i:Int)(W:World)(hn:n≤20) :
  CallsIn Fc 0 Tryz.prog 100 #[zga rs rl rw many A n c,.int .i64 i] W (yfa (decide (0≤i∧i<n)) W):=by
 gi_enter Tryz.func100,Tryz.ntmps100;by_cases h0:0≤i
 ·by_cases h1:i<n
  ·rw[decide_eq_true (⟨h0,h1⟩:0≤i∧i<n)];gi_wp2;go_ret;exact⟨rfl,(Below.refl _ _).alloc (Nat.le_refl _) _⟩
  ·rw[decide_eq_false (fun h:0≤i∧i<n=>h1 h.2)];gi_wp2;go_ret;exact⟨rfl,(Below.refl _ _).alloc (Nat.le_refl _) _⟩
 ·rw[decide_eq_false (fun h:0≤i∧i<n=>h0 h.1)];gi_wp2;go_ret;exact⟨rfl,(Below.refl _ _).alloc (Nat.le_refl _) _⟩
structure yG(w:World)(sp ip:Nat)(rs rl rw many:Int)(A:Option Addr)(n c:Nat)(k:Int):Prop where
 i:w.cell? ⟨ip,0,none⟩=some (.int .i64 k)
 c0:w.cell? ⟨sp,0,none⟩=some (.int .i64 rs)
 c1:w.cell? ⟨sp,1,none⟩=some (.int .i64 rl)
 c2:w.cell? ⟨sp,2,none⟩=some (.int .i64 rw)
 c3:w.cell? ⟨sp,3,none⟩=some (.int .i64 many)
 c4:w.cell? ⟨sp,4,none⟩=some (.slice A n c)
theorem yG.below{W w:World}(h:Below W.heap.size W w){sp ip:Nat}{rs rl rw many:Int}{A:Option Addr}{n c:Nat}{k:Int}(hx:yG W sp ip rs rl rw many A n c k):yG w sp ip rs rl rw many A n c k:=
 ⟨Below.old h hx.i,Below.old h hx.c0,Below.old h hx.c1,Below.old h hx.c2,Below.old h hx.c3,Below.old h hx.c4⟩
theorem hasShaft1_any(sp ip:Nat)(rs rl rw many:Int)(A:Option Addr)(n c:Nat)(k:Int)(W:World)(hn:n≤20)(hbox:yG W sp ip rs rl rw many A n c k) :
  CallsIn Fc 0 Tryz.prog 123 #[ptr sp,ptr ip] W (ya (hasZ n k) W):=by
 obtain⟨d,d0,d1,d2,d3,d4⟩:=hbox;by_cases h:0≤k∧k<n
 ·rw[show hasZ n k=0 from if_pos h];have hd:=decide_eq_true h;have HD:=Lib.hid hd;clear h hd;gi_enter Tryz.func123,Tryz.ntmps123
  gi_wp2_with (gi_at_call 100;refine(yNc _ _ _ _ _ _ _ _ _ hn).mono ?_;rintro e w' ⟨rfl,hb1⟩;rw[HD.out])
  go_ret;exact⟨rfl,hb1⟩
 ·rw[show hasZ n k=6 from if_neg h];have hd:=decide_eq_false h;have HD:=Lib.hid hd;clear h hd;gi_enter Tryz.func123,Tryz.ntmps123
  gi_wp2_with (gi_at_call 100;refine(yNc _ _ _ _ _ _ _ _ _ hn).mono ?_;rintro e w' ⟨rfl,hb1⟩;rw[HD.out])
  go_ret;exact⟨rfl,hb1⟩
def HandsHasI(rs rl rw many:Int)(A:Option Addr)(n c:Nat)(k:Int)(w:World)(e:Ending)(w':World):Prop:=
 ∃ sp ip:Nat,e=.returned (.func (.func 123) #[] #[ptr sp,ptr ip])∧yG w' sp ip rs rl rw many A n c k∧Below w.heap.size w w'
theorem hasShaft_anyI(rs rl rw many:Int)(A:Option Addr)(n c:Nat)(k:Int)(W:World) :
  CallsIn Fc 0 Tryz.prog 75 #[zga rs rl rw many A n c,.int .i64 k] W (HandsHasI rs rl rw many A n c k W):=by
 gi_enter Tryz.func75,Tryz.ntmps75;gi_wp2;go_ret;exact⟨_,_,rfl,⟨by go_simp,by go_simp,by go_simp,by go_simp,by go_simp,by go_simp⟩,((Below.refl _ _).alloc (Nat.le_refl _) _).alloc (by simp) _⟩
theorem yG.is{w:World}{sp ip:Nat}{rs rl rw many:Int}{A:Option Addr}{n c:Nat}{k:Int}(h:yG w sp ip rs rl rw many A n c k)(hn:n≤20):yA (.func (.func 123) #[] #[ptr sp,ptr ip]) (hasZ n k) w:=
 .inr (.inl ⟨sp,ip,rfl,fun w' hb=>hasShaft1_any sp ip rs rl rw many A n c k w' hn (h.below hb)⟩)
noncomputable def askZ(rs rl rw many:Int)(n:Nat)(sh:Nat→Shaft)(k:Int):Int:=if stockZ rs rl rw many n sh=0 then hasZ n k else stockZ rs rl rw many n sh
theorem askedShaft_any(rs rl rw many:Int)(A:Option Addr)(n c:Nat)(sh:Nat→Shaft)(k:Int)(W:World)(hn:n≤20)(hc:n≤c)(hsh:Hid (zA W A n sh))(hnm:Hid (∀ k,k<n→(sh k).name.size≤100)) :
  CallsIn Fc 0 Tryz.prog 76 #[zga rs rl rw many A n c,.int .i64 k] W (ya (askZ rs rl rw many n sh k) W):=by
 have hB1:∀ x,Below W.heap.size W (W.alloc x):=fun x=>(Below.refl _ _).alloc (Nat.le_refl _) x
 have HB1:=Lib.hid hB1;clear hB1;have hcall:=fun w hb=>yg rs rl rw many A n c sh w hc (Lib.hid (hsh.out.below hb)) hnm
 by_cases h0:stockZ rs rl rw many n sh=0
 ·rw[show askZ rs rl rw many n sh k=hasZ n k from if_pos h0];rw[h0] at hcall;have HC:=Lib.hid hcall;clear h0 hcall;have hsub:IntKind.wrap .i64 ((n:Int)-1)=(n:Int)-1:=by simp[IntKind.wrap,IntKind.signed,IntKind.bits];omega
  gi_enter Tryz.func76,Tryz.ntmps76;by_cases h:0≤k∧k<n
  ·rw[show hasZ n k=0 from if_pos h];have hin:inB k 0 ((n:Int)-1)=true:=by simp[inB];omega
   have HI:=Lib.hid hin;clear h hin
   gi_wp2_with (first
    |(gi_at_call 18;refine(HC.out _ (HB1.out _)).mono ?_;rintro e w' ⟨rfl,hb1⟩;have c4:w'.cell? ⟨W.heap.size,4,none⟩=some (.slice A n c):=Below.old hb1 (by go_simp);have HB:=Lib.hid ((HB1.out _).trans (hb1.mono (HB1.out _).size));clear hb1)
    |(gi_at_call 62;(try rw[hsub]);refine(zYa _ _ _ _).mono ?_;rintro e w' ⟨rfl,rfl⟩;rw[HI.out]))
   go_ret;exact⟨rfl,HB.out⟩
  ·rw[show hasZ n k=6 from if_neg h];have hin:inB k 0 ((n:Int)-1)=false:=by simp[inB];omega
   have HI:=Lib.hid hin;clear h hin
   gi_wp2_with (first
    |(gi_at_call 18;refine(HC.out _ (HB1.out _)).mono ?_;rintro e w' ⟨rfl,hb1⟩;have c4:w'.cell? ⟨W.heap.size,4,none⟩=some (.slice A n c):=Below.old hb1 (by go_simp);have HB:=Lib.hid ((HB1.out _).trans (hb1.mono (HB1.out _).size));clear hb1)
    |(gi_at_call 62;(try rw[hsub]);refine(zYa _ _ _ _).mono ?_;rintro e w' ⟨rfl,rfl⟩;rw[HI.out]))
   go_ret;exact⟨rfl,HB.out⟩
 ·rw[show askZ rs rl rw many n sh k=stockZ rs rl rw many n sh from if_neg h0];have HC:=Lib.hid hcall;clear hcall;generalize stockZ rs rl rw many n sh=z at *;gi_enter Tryz.func76,Tryz.ntmps76
  gi_wp2_with (gi_at_call 18;refine(HC.out _ (HB1.out _)).mono ?_;rintro e w' ⟨rfl,hb1⟩;have HB:=Lib.hid ((HB1.out _).trans (hb1.mono (HB1.out _).size));clear hb1)
  go_ret;exact⟨rfl,HB.out⟩
end
section
open Go.RowKit
section
variable {F:Fence}{n:Nat}{P:Program}{Post:Act→World→Prop}{a:Act}{w:World}{b:Frame}{k:List Item}{cs:List Frame}
def zJb(Post:Act→World→Prop):Exit→Act→World→Prop
 |.normal,a,w=>Post a w
 |_,_,_=>False
abbrev Comes(F:Fence)(P:Program)(b:Frame)(cs:List Frame)(a:Act)(k:List Item)(w:World)(a':Act)(k':List Item)(w':World):Prop:=
 StepsIn (Machine.fenced P F) P (lone (b.atR a k) cs w) (lone (b.atR a' k') cs w')
theorem comes_code{c:Code}(h:c.wpIn F n P (zJb Post) a w)(hro:b.roundOf=F.round)(hb:F.fn b.fn)(hr:F.room (cs.length+1+n)) :
  ∃ a' w',Post a' w'∧Comes F P b cs a (.code c::k) w a' k w':=by
 obtain⟨e,a',w',hp,harr⟩:=h b k cs hro hb hr;cases e with
 |normal=>exact⟨a',w',hp,harr⟩
 |_=>exact hp.elim
theorem comes_seq{x y:Code}(hb:F.fn b.fn)(hr:F.room (cs.length+1+n)):Comes F P b cs a (.code (.seq x y)::k) w a (.code x::.code y::k) w:=
 .one (fenced_calm hb hr rfl) stepR_seq
theorem comes_cond{c:Operand}{x y:Code}{t:Bool}(hc:a.eval c=.bool t)(hb:F.fn b.fn)(hr:F.room (cs.length+1+n)):Comes F P b cs a (.code (.cond c x y)::k) w a (.code (if t then x else y)::k) w:=
 .one (fenced_calm hb hr rfl) (stepR_cond hc)
theorem comes_region{id:Nat}{ops:Array Oper}(hb:F.fn b.fn)(hr:F.room (cs.length+1+n)):Comes F P b cs a (.code (.region id ops false)::k) w a (.inRegion ops (List.range ops.size)::k) w:=
 .one (fenced_calm hb hr rfl) stepR_region
def reckons:Op→Bool
 |.move _|.assign _|.pick _ _ _|.binOp _ _ _ _ _|.load _ _|.fieldAddr _ _ _|.unOp _ _ _|.indexAddr _ _ _=>true
 |.call c=>match c.callee with
  |.builtin .len=>true
  |_=>false
 |_=>false
theorem reckons_about{o:Oper}(h:reckons o.op=true)(P:Program)(w:World)(ρ:Operand→Value):o.about P w ρ=none:=by
 unfold Oper.about;cases hop:o.op with
 |call c=>
  rw[hop] at h;simp only[reckons] at h;cases hc:c.callee with
  |builtin b=>simp[resolve,hc,Target.leads,Sem.run_pure]
  |invoke x y=>rw[hc] at h;cases h
  |value f=>rw[hc] at h;cases h
 |_=>simp_all [reckons]
theorem zDb{s:Sem Value}{P:Program}{w:World}:(∃ v w',(do let v ←s;pure (Next.value v):Sem Next).run P w=.ok (.value v) w')∨∃ x w',(do let v ←s;pure (Next.value v):Sem Next).run P w=.halt x w':=by
 rw[Sem.run_bind];cases s.run P w with
 |ok v w'=>exact .inl ⟨v,w',rfl⟩
 |halt x w'=>exact .inr ⟨x,w',rfl⟩
theorem yOa{o:Oper}(h:reckons o.op=true)(P:Program)(w:World)(ρ:Operand→Value):(∃ v w',(execOp ρ o).run P w=.ok (.value v) w')∨∃ x w',(execOp ρ o).run P w=.halt x w':=by
 cases hop:o.op<;>simp only[hop,reckons] at h<;>try (cases h)
 all_goals unfold execOp;simp only[hop]
 case move x=>exact .inl ⟨_,_,rfl⟩
 case assign x=>exact .inl ⟨_,_,rfl⟩
 case pick c x y=>
  rw[Sem.run_bind];cases(asBool (ρ c)).run P w with
  |ok v w'=>exact .inl ⟨_,w',rfl⟩
  |halt x w'=>exact .inr ⟨x,w',rfl⟩
 case binOp op t x y u=>exact zDb
 case load t x=>exact zDb
 case fieldAddr t x f=>exact zDb
 case indexAddr t x i=>exact zDb
 case unOp o t x=>exact zDb
 case call c=>
  cases hc:c.callee with
  |builtin b=>
   rw[hc] at h;cases b with
   |len=>
    have e:(do let d ←resolve ρ c o.type;invoke d.target d.args:Sem Next)=(do let v ←Builtin.len_ c.argTypes o.type (c.args.map ρ);pure (Next.value v):Sem Next):=by simp[resolve,hc,invoke,builtin]
    rw[e];exact zDb
   |_=>cases h
  |invoke x y=>rw[hc] at h;cases h
  |value f=>rw[hc] at h;cases h
theorem comes_pre{ops:Array Oper}(l:List Oper):∀(i:Nat) (rest:List Nat) (a:Act) (w:World),(∀ j,j<l.length→ops[i+j]? = l[j]?)→(l.all fun o=>reckons o.op)=true →
  wpListIn F n P ops (zJb Post) l a w→b.roundOf=F.round→F.fn b.fn→F.room (cs.length+1+n) →
  ∃ a' w',Post a' w'∧Comes F P b cs a (.inRegion ops (List.range' i l.length++rest)::k) w a' (.inRegion ops rest::k) w':=by
 induction l with
 |nil=>exact fun i rest a w _ _ h _ _ _=>⟨a,w,h,.refl _⟩
 |cons o l ih=>
  intro i rest a w hops hall h hro hb hr;have ho:ops[i]? = some o:=by simpa using hops 0 (by simp)
  have hops':∀ j,j<l.length→ops[i+1+j]? = l[j]?:=fun j hj=>by have:=hops (j+1) (by simp;omega);simpa[Nat.add_assoc,Nat.add_comm 1 j] using this
  simp only[List.all_cons,Bool.and_eq_true] at hall;have hab:∀ f,o.about P w a.eval=some f→F.fn f:=fun f hf=>by rw[reckons_about hall.1] at hf;cases hf
  have h0:(lone (b.atR a (.inRegion ops (i::(List.range' (i+1) l.length++rest))::k)) cs w).fenced P F:=fenced_oper hb hr ho hab;have hfin:∀ v,(b.atR a (.inRegion ops (i::(List.range' (i+1) l.length++rest))::k)).finish v=b.atR (a.put o.dst v) (.inRegion ops (List.range' (i+1) l.length++rest)::k):=by intro v;rw[Frame.finish_atR,ho];rfl
  simp only[wpListIn] at h;rw[List.length_cons,List.range'_succ,List.cons_append];by_cases hw:Region.wanted o (yielded ops a.tmps)=true
  ·rw[if_pos hw] at h;have h2:=h.2;have hsem:o.semAt F.round a.eval=execOp a.eval o:=by
    refine Oper.semAt_eq _ _ _ fun c hc=>?_
    rw[hc] at hall;exact absurd hall.1 (by simp[reckons])
   rw[hsem] at h2;rcases yOa hall.1 P w a.eval with⟨v,w1,hrun⟩|⟨x,w1,hrun⟩
   ·rw[hrun] at h2;obtain⟨a',w',hp,hs⟩:=ih (i+1) rest _ _ hops' hall.2 h2 hro hb hr;refine⟨a',w',hp,.head h0 (step_lone_go ?_) hs⟩;rw[stepGR_op (P:=P) ho hw,hro,hsem,←hfin];simp[stepG.apply,hrun]
   ·rw[hrun] at h2;cases x with
    |panic v=>exact h2.elim
    |_=>exact h2.elim
  ·rw[if_neg hw] at h;obtain⟨a',w',hp,hs⟩:=ih (i+1) rest _ _ hops' hall.2 h.2 hro hb hr;have hk:=stepR_op_skip (P:=P) (b:=b) (a:=a) (k:=k) (cs:=cs) (w:=w) (ops:=ops) (i:=i) (rest:=List.range' (i+1) l.length++rest) (by simp[ho];simpa using hw);simp only[ho,Option.bind_some] at hk;exact⟨a',w',hp,.head h0 hk hs⟩
end
end
section
open Go.RowKit Go.Cx Go.Conc
open Go.ConcR (DC0)
section
variable {F:Fence}{n:Nat}{P:Program}{b:Frame}{cs:List Frame}{S:Act→List Item→World→Prop}{a:Act}{w:World}{k:List Item}
def Reach(F:Fence)(P:Program)(b:Frame)(cs:List Frame)(S:Act→List Item→World→Prop)(a:Act)(k:List Item)(w:World):Prop:=
 ∃ a' k' w',S a' k' w'∧Comes F P b cs a k w a' k' w'
theorem Reach.here(h:S a k w):Reach F P b cs S a k w:=⟨a,k,w,h,.refl _⟩
theorem zK{x y:Code}(hb:F.fn b.fn)(hr:F.room (cs.length+1+n))(h:Reach F P b cs S a (.code x::.code y::k) w):Reach F P b cs S a (.code (.seq x y)::k) w:=by obtain⟨a',k',w',h1,h2⟩:=h;exact⟨a',k',w',h1,(comes_seq hb hr).trans h2⟩
theorem zO{c:Code}(hro:b.roundOf=F.round)(hb:F.fn b.fn)(hr:F.room (cs.length+1+n))
  (h:∀ R:Act→World→Prop,(∀ a' w',Reach F P b cs S a' k w'→R a' w')→c.wpIn F n P (zJb R) a w):Reach F P b cs S a (.code c::k) w:=by
 obtain⟨a1,w1,⟨a',k',w',h1,h2⟩,h3⟩:=comes_code (h (fun a' w'=>Reach F P b cs S a' k w') fun a' w' h=>h) hro hb hr;exact⟨a',k',w',h1,h3.trans h2⟩
theorem yja{c:Operand}{x y:Code}(t:Bool)(hc:a.eval c=.bool t)(hb:F.fn b.fn)(hr:F.room (cs.length+1+n))(h:Reach F P b cs S a (.code (if t then x else y)::k) w):Reach F P b cs S a (.code (.cond c x y)::k) w:=by obtain⟨a',k',w',h1,h2⟩:=h;exact⟨a',k',w',h1,(comes_cond hc hb hr).trans h2⟩
theorem yia(hb:F.fn b.fn)(hr:F.room (cs.length+1+n))(hro:b.roundOf=F.round)(h:Reach F P b cs S a k w):Reach F P b cs S a (.code .skip::k) w:=
 zO (n:=n) hro hb hr fun R hR=>by gi_wp2;exact hR _ _ h
theorem yCa{id:Nat}{ops:Array Oper}(hb:F.fn b.fn)(hr:F.room (cs.length+1+n))(h:Reach F P b cs S a (.inRegion ops (List.range ops.size)::k) w):Reach F P b cs S a (.code (.region id ops false)::k) w:=by obtain⟨a',k',w',h1,h2⟩:=h;exact⟨a',k',w',h1,(comes_region hb hr).trans h2⟩
end
theorem put_same{a:Act}{d:Nat}{v:Value}(h:d<a.tmps.size):(a.put (some d) v).tmps.getD d undef=v:=by simp[Act.put,h]
theorem put_far{a:Act}{d e:Nat}{v:Value}(h:d≠e):(a.put (some d) v).tmps.getD e undef=a.tmps.getD e undef:=by simp[Act.put,h]
theorem put_size{a:Act}{d:Nat}{v:Value}:(a.put (some d) v).tmps.size=a.tmps.size:=by simp[Act.put]
theorem put_defers{a:Act}{d:Nat}{v:Value}:(a.put (some d) v).defers=a.defers:=rfl
abbrev lawFr(f:FuncId):Frame:={(default:Frame) with fn:=f,kind:=.normal,roundOf:=none}
structure EarlyAt(S:FuncId)(ops:Array Oper)(i j d r:Nat):Prop where
 o:∃ o,ops[i]? = some o∧o.op=.call {callee:=.value (.func S),args:=#[],argTypes:=#[]}∧o.guard=none∧o.dst=some d
 p:∃ o,ops[j]? = some o∧o.op=.assign (.tmp d)∧o.guard=none∧o.dst=some r
structure LateAt(S:FuncId)(ops:Array Oper)(i j1 j2 g c d e r:Nat):Prop where
 o:∃ o,ops[i]? = some o∧o.op=.call {callee:=.value (.func S),args:=#[],argTypes:=#[]}∧o.guard=some (g,true)∧o.dst=some d
 g:(ops[g]?).bind (·.dst)=some c
 p:∃ o,ops[j1]? = some o∧o.op=.pick (.tmp c) (.tmp d) (.const (.bool false))∧o.guard=none∧o.dst=some e
 q:∃ o,ops[j2]? = some o∧o.op=.assign (.tmp e)∧o.guard=none∧o.dst=some r
 ne:d≠c
inductive zLb(S:FuncId)(r z:Nat):Act→List Item→Prop where
 |early (a:Act) (k:List Item) (ops:Array Oper) (i j d:Nat) (h:EarlyAt S ops i j d r) (hdz:d<z) (hd:a.defers=[]) (hs:a.tmps.size=z):zLb S r z a (.inRegion ops [i,j]::.code .ret::k)
 |late (a:Act) (k:List Item) (ops:Array Oper) (i j1 j2 g c d e:Nat) (h:LateAt S ops i j1 j2 g c d e r) (hdz:d<z) (hez:e<z) (hd:a.defers=[]) (hs:a.tmps.size=z) (ht:a.tmps.getD c undef=.bool true) (hcz:c<z):zLb S r z a (.inRegion ops [i,j1,j2]::.code .ret::k)
section
variable {P:Program}{S f:FuncId}{r z:Nat}
theorem call_step{a:Act}{k:List Item}(hS:∃ fn,P.funcs[S]? = some fn∧(fn.name == "runtime.NumGoroutine")=false∧fn.body.isNone=false)(h:zLb S r z a k)(w:World) :
  stepG P true (G ((lawFr f).at a k) []) w=.go (G (Frame.enter P S #[] .normal) [(lawFr f).at a k]) w #[]:=by
 obtain⟨fn,hf,hn,hb⟩:=hS;cases h with
 |early k ops i j d h hdz hd hs=>
  obtain⟨o,ho,hop,hg,hdst⟩:=h.o;have hw:Region.wanted o (yielded ops a.tmps)=true:=by simp only[Region.wanted,hg]
  rw[stepG_enter ho hw (by intro h;cases h) (run_call_body hop hf hn hb)];have:listed P (lawFr f).fn a o w=#[]:=by unfold listed;rw[events_call_body hop hf hn hb];exact seen_none _ _
  rw[this];simp only[List.map_toArray,List.map_nil]
 |late k ops i j1 j2 g c d e h hdz hez hd hs ht hcz=>
  obtain⟨o,ho,hop,hg,hdst⟩:=h.o;have hw:Region.wanted o (yielded ops a.tmps)=true:=by
   simp only[Region.wanted,hg];have hgc:a.tmps[c]? = some (.bool true):=by rw[Array.getD_eq_getD_getElem?,Array.getElem?_eq_getElem (by omega)] at ht;rw[Array.getElem?_eq_getElem (by omega)];simpa using ht
   unfold yielded;rw[h.g];simp[hgc]
  rw[stepG_enter ho hw (by intro h;cases h) (run_call_body hop hf hn hb)];have:listed P (lawFr f).fn a o w=#[]:=by unfold listed;rw[events_call_body hop hf hn hb];exact seen_none _ _
  rw[this];simp only[List.map_toArray,List.map_nil]
theorem zGb{R:World→World→Prop}{Stop:Goroutine→World→Prop}{n:Nat}{g g':Goroutine}{w:World}(hs:g.status=.running)(h:∀ w1,stepG P true g w1=.go g' w1 #[])(hk:∀ w1,R w w1→Goes P true R DC0 Stop n g' w1) :
  Goes P true R DC0 Stop (n+1) g w:=Goes.step hs fun w1 h1=>by
 rw[h w1];exact⟨⟨rfl,rfl⟩,hk w1 h1⟩
theorem yza{a:Act}{k:List Item}{ops:Array Oper}{i:Nat}{rest:List Nat}{o:Oper}{x:Operand}(ho:ops[i]? = some o)(hg:o.guard=none)(hop:o.op=.assign x)(w:World) :
  stepG P true (G ((lawFr f).at a (.inRegion ops (i::rest)::k)) []) w=.go (G ((lawFr f).at (a.put o.dst (a.eval x)) (.inRegion ops rest::k)) []) w #[]:=by
 have hr:(execOp a.eval o).run P w=.ok (.value (a.eval x)) w:=by unfold execOp;simp[hop]
 rw[stepG_value ho (by simp only[Region.wanted,hg]) (by intro h;cases h) hr];have:listed P (lawFr f).fn a o w=#[]:=by unfold listed;rw[show(execOp a.eval o).events P w #[]=#[] by unfold execOp;simp[hop]];exact seen_none _ _
 rw[this]
theorem step_pickG{a:Act}{k:List Item}{ops:Array Oper}{i:Nat}{rest:List Nat}{o:Oper}{c x y:Operand}(ho:ops[i]? = some o)(hg:o.guard=none)(hop:o.op=.pick c x y)(hc:a.eval c=.bool true)(w:World) :
  stepG P true (G ((lawFr f).at a (.inRegion ops (i::rest)::k)) []) w=.go (G ((lawFr f).at (a.put o.dst (a.eval x)) (.inRegion ops rest::k)) []) w #[]:=by
 have hr:(execOp a.eval o).run P w=.ok (.value (a.eval x)) w:=by unfold execOp;simp[hop,hc,asBool]
 rw[stepG_value ho (by simp only[Region.wanted,hg]) (by intro h;cases h) hr];have:listed P (lawFr f).fn a o w=#[]:=by unfold listed;rw[show(execOp a.eval o).events P w #[]=#[] by unfold execOp;simp[hop,hc,asBool]];exact seen_none _ _
 rw[this]
theorem step_doneG{F:FuncId→Prop}{fl:Func}(hF:zfa P F)(hin:F f)(hfl:P.funcs[f]? = some fl)(hres:fl.results=#[.tmp r]){a:Act}{k:List Item}(hd:a.defers=[])(h4:a.tmps.getD r undef=.bool true)(w:World) :
  stepG P true (G {(lawFr f).at a (.code .ret::k) with mode:=.returning} []) w=.ended (.done (.bool true)) w #[]:=by
 obtain⟨fn,c,hk⟩:=hF f hin;have hfn:fn=fl:=Option.some.inj (hk.at_.symm.trans hfl);have h1:(results fn a.tmps).run P w=.ok (.bool true) w:=by rw[results_tmp (t:=r) (by rw[hfn];exact hres) a.tmps P w,h4]
 have h2:(results fn a.tmps).events P w #[]=#[]:=events_results_tmp (t:=r) (by rw[hfn];exact hres) _ _;have e1:∀(fr:Frame) (z:World),fr.kind=.normal→fr.fn=f→doReturn P true fr [] none (.bool true) z=.ended (.done (.bool true)) z:=fun fr z h3 h4=>by simp[doReturn,h3,h4,hk.ini]
 simp only[G,stepG,unwind,Frame.at,hd,hk.at_,Sem.runT_eq,h1,h2];rw[e1 _ _ rfl rfl];simp[GStep.after,seen_none]
theorem ytb{F:FuncId→Prop}{fl:Func}(hF:zfa P F)(hin:F f)(hfl:P.funcs[f]? = some fl)(hres:fl.results=#[.tmp r]){a:Act}{k:List Item}{ops:Array Oper}{w w':World}(he:Env (OldL w) w w')(hd:a.defers=[])(h4:a.tmps.getD r undef=.bool true) :
  Goes P true (fun w0 w1=>Env (OldL w) w0 w1) DC0 (AtRet P (fun v w1=>v=.bool true∧Env (OldL w) w w1)) 2 (G ((lawFr f).at a (.inRegion ops []::.code .ret::k)) []) w':=by
 refine zGb rfl (fun w1=>stepG_region_end) fun w1 h1=>zGb rfl (fun w1=>stepG_ret') fun w2 h2=>Goes.stop fun w3 h3=>?_
 exact⟨rfl,_,step_doneG hF hin hfl hres hd h4 w3,rfl,((he.trans h1).trans h2).trans h3⟩
theorem after_callG{F:FuncId→Prop}{fl:Func}(hF:zfa P F)(hin:F f)(hfl:P.funcs[f]? = some fl)(hres:fl.results=#[.tmp r])(hrz:r<z){a:Act}{k:List Item}(h:zLb S r z a k){w w':World}(he:Env (OldL w) w w') :
  Goes P true (fun w0 w1=>Env (OldL w) w0 w1) DC0 (AtRet P (fun v w1=>v=.bool true∧Env (OldL w) w w1)) 4 (G (((lawFr f).at a k).finish (.bool true)) []) w':=by
 cases h with
 |early k ops i j d h hdz hd hs=>
  obtain⟨o,ho,hop,hg,hdst⟩:=h.o;obtain⟨o2,ho2,hop2,hg2,hdst2⟩:=h.p;rw[Frame.finish_at,ho];simp only[Option.bind_some,hdst];refine zGb (g':=G ((lawFr f).at ((a.put (some d) (.bool true)).put (some r) (.bool true)) (.inRegion ops []::.code .ret::k)) []) rfl (fun w1=>?_) fun w1 h1=>Goes.more (ytb hF hin hfl hres (a:=(a.put (some d) (.bool true)).put (some r) (.bool true)) (ops:=ops) (k:=k) (he.trans h1) (by rw[put_defers,put_defers,hd]) (put_same (by rw[put_size];omega)))
  have h:=yza (P:=P) (f:=f) (a:=a.put (some d) (.bool true)) (k:=.code .ret::k) (ops:=ops) (i:=j) (rest:=[]) (x:=.tmp d) ho2 hg2 hop2 w1;rw[h,hdst2,show(a.put (some d) (.bool true)).eval (.tmp d)=.bool true from put_same (by omega)]
 |late k ops i j1 j2 g c d e h hdz hez hd hs ht hcz=>
  obtain⟨o,ho,hop,hg,hdst⟩:=h.o;obtain⟨o2,ho2,hop2,hg2,hdst2⟩:=h.p;obtain⟨o3,ho3,hop3,hg3,hdst3⟩:=h.q;rw[Frame.finish_at,ho];simp only[Option.bind_some,hdst];refine zGb (g':=G ((lawFr f).at ((a.put (some d) (.bool true)).put (some e) (.bool true)) (.inRegion ops [j2]::.code .ret::k)) []) rfl (fun w1=>?_) fun w1 h1=>?_
  ·have h:=step_pickG (P:=P) (f:=f) (a:=a.put (some d) (.bool true)) (k:=.code .ret::k) (ops:=ops) (i:=j1) (rest:=[j2]) (c:=.tmp c) (x:=.tmp d) (y:=.const (.bool false)) ho2 hg2 hop2 ((put_far h.ne).trans ht) w1;rw[h,hdst2,show(a.put (some d) (.bool true)).eval (.tmp d)=.bool true from put_same (by omega)]
  ·refine zGb (g':=G ((lawFr f).at (((a.put (some d) (.bool true)).put (some e) (.bool true)).put (some r) (.bool true)) (.inRegion ops []::.code .ret::k)) []) rfl (fun w2=>?_) fun w2 h2=>ytb hF hin hfl hres ((he.trans h1).trans h2) (by rw[put_defers,put_defers,put_defers,hd]) (put_same (by rw[put_size,put_size];omega))
   have h:=yza (P:=P) (f:=f) (a:=(a.put (some d) (.bool true)).put (some e) (.bool true)) (k:=.code .ret::k) (ops:=ops) (i:=j2) (rest:=[]) (x:=.tmp e) ho3 hg3 hop3 w2;rw[h,hdst3,show((a.put (some d) (.bool true)).put (some e) (.bool true)).eval (.tmp e)=.bool true from put_same (by rw[put_size];omega)]
end
end
section
open Go.RowKit
theorem box_cells{W w:World}{rs rl rw many:Int}{A:Option Addr}{n c:Nat}(h:Below (W.heap.size+1) (W.alloc (.cells #[.int .i64 rs,.int .i64 rl,.int .i64 rw,.int .i64 many,.slice A n c] 26)) w) :
  w.cell? ⟨W.heap.size,0,none⟩=some (.int .i64 rs)∧w.cell? ⟨W.heap.size,1,none⟩=some (.int .i64 rl)∧w.cell? ⟨W.heap.size,2,none⟩=some (.int .i64 rw)∧w.cell? ⟨W.heap.size,3,none⟩=some (.int .i64 many)∧w.cell? ⟨W.heap.size,4,none⟩=some (.slice A n c):=by
 refine⟨?_,?_,?_,?_,?_⟩<;>(rw[h.cell (by simp)];go_simp)
end
section
open Go.RowKit
section
variable (sh:Nat→Shaft)(l:Nat→Nat)
end
end
section
open Go.RowKit
section
variable {F:Fence}{n:Nat}{P:Program}{ops:Array Oper}{Q:Exit→Act→World→Prop}
end
end
section
open Go.RowKit Go.Cx Go.Conc
theorem apCell_nil{rs rl rw:Int}{sh:Nat→Shaft}{l:Nat→Nat}{i k:Nat}:∀ x,apCell rs rl rw sh l i k x=[]↔∀ y,y<x→nearOf rs rl rw (sh (l i)) (sh (l k)) y=1
 |0=>by simp[apCell]
 |x+1=>by
  simp only[apCell,List.append_eq_nil_iff,apCell_nil x];constructor
  ·rintro⟨h1,h2⟩ y hy;rcases Nat.lt_succ_iff_lt_or_eq.1 hy with hy|rfl
   ·exact h1 y hy
   ·split at h2
    ·assumption
    ·cases h2
  ·intro h;exact⟨fun y hy=>h y (by omega),by rw[if_pos (h x (by omega))]⟩
theorem apRow_nil{rs rl rw:Int}{sh:Nat→Shaft}{l:Nat→Nat}{i:Nat}:∀ t,apRow rs rl rw sh l i t=[]↔∀ k,i<k→k<i+1+t→∀ y,y<3→nearOf rs rl rw (sh (l i)) (sh (l k)) y=1
 |0=>by simp only[apRow,true_iff];intro k h1 h2;omega
 |t+1=>by
  simp only[apRow,List.append_eq_nil_iff,apRow_nil t,apCell_nil];constructor
  ·rintro⟨h1,h2⟩ k hk hk2;by_cases e:k<i+1+t
   ·exact h1 k hk e
   ·obtain rfl:k=i+1+t:=by omega
    exact h2
  ·intro h;exact⟨fun k h1 h2=>h k h1 (by omega),h _ (by omega) (by omega)⟩
theorem yVb{rs rl rw:Int}{sh:Nat→Shaft}{l:Nat→Nat}{m:Nat}:∀ i,i≤m→(apAll rs rl rw sh l m i=[]↔∀ j k,j<i→j<k→k<m→∀ y,y<3→nearOf rs rl rw (sh (l j)) (sh (l k)) y=1)
 |0,_=>by simp only[apAll,true_iff];intro j k h;omega
 |i+1,hi=>by
  rw[show apAll rs rl rw sh l m (i+1)=apAll rs rl rw sh l m i++apRow rs rl rw sh l i (m-(i+1)) from rfl,List.append_eq_nil_iff,yVb i (by omega),apRow_nil];constructor
  ·rintro⟨h1,h2⟩ j k hj hjk hk;rcases Nat.lt_succ_iff_lt_or_eq.1 hj with hj|rfl
   ·exact h1 j k hj hjk hk
   ·exact h2 k hjk (by omega)
  ·intro h;exact⟨fun j k h1 h2 h3=>h j k (by omega) h2 h3,fun k h1 h2=>h i k (by omega) h1 (by omega)⟩
theorem yXc{rs rl rw:Int}{sh:Nat→Shaft}{l:Nat→Nat}{m:Nat}:apAll rs rl rw sh l m m=[]↔zoc rs rl rw sh l m=1:=by rw[yVb m (Nat.le_refl _),matchZ_one];exact⟨fun h j i h1 h2=>h j i (by omega) h1 h2,fun h j k _ h1 h2=>h j k h1 h2⟩
def ApOk(rs rl rw:Int)(sh:Nat→Shaft)(l:Nat→Nat)(m:Nat)(x:Ap):Prop:=∃ j k,j<k∧k<m∧x.one=l j∧x.two=l k∧x.what<3∧x.sure=nearOf rs rl rw (sh (l j)) (sh (l k)) x.what∧x.sure≠1
theorem yUb{rs rl rw:Int}{sh:Nat→Shaft}{l:Nat→Nat}{m i k:Nat}(h1:i<k)(h2:k<m):∀ x,x≤3→∀ e∈apCell rs rl rw sh l i k x,ApOk rs rl rw sh l m e
 |0,_,e,h=>by cases h
 |x+1,hx,e,h=>by
  simp only[apCell,List.mem_append] at h;rcases h with h|h
  ·exact yUb h1 h2 x (by omega) e h
  ·split at h
   ·cases h
   ·next hn=>simp only[List.mem_cons,List.not_mem_nil,or_false] at h;subst h;exact⟨i,k,h1,h2,rfl,rfl,by show x<3;omega,rfl,hn⟩
theorem yAc{rs rl rw:Int}{sh:Nat→Shaft}{l:Nat→Nat}{m i:Nat}:∀ t,i+1+t≤m→∀ e∈apRow rs rl rw sh l i t,ApOk rs rl rw sh l m e
 |0,_,e,h=>by cases h
 |t+1,ht,e,h=>by
  simp only[apRow,List.mem_append] at h;rcases h with h|h
  ·exact yAc t (by omega) e h
  ·exact yUb (by omega) (by omega) 3 (by omega) e h
theorem yBc{rs rl rw:Int}{sh:Nat→Shaft}{l:Nat→Nat}{m:Nat}:∀ i,i≤m→∀ e∈apAll rs rl rw sh l m i,ApOk rs rl rw sh l m e
 |0,_,e,h=>by cases h
 |i+1,hi,e,h=>by
  simp only[apAll,List.mem_append] at h;rcases h with h|h
  ·exact yBc i (by omega) e h
  ·exact yAc _ (by omega) e h
end
section
open Go.RowKit Go.Cx Go.Conc
end
section
open Go.RowKit
section
variable (rs rl rw many:Int)(n:Nat)(sh:Nat→Shaft)(k m x0 x1:Int)
end
section
variable {rs rl rw many:Int}{n:Nat}{sh:Nat→Shaft}{k m x0 x1:Int}
end
theorem stock_small{rs rl rw many:Int}{n:Nat}{sh:Nat→Shaft}(h:stockZ rs rl rw many n sh=0):n≤9:=by
 have h1:=firstZ_zero.1 h 1 (by omega);simp only[stockF] at h1;rw[if_neg (by decide),if_pos trivial] at h1;by_cases hn:n≤9
 ·exact hn
 ·rw[if_neg hn] at h1;cases h1
end
section
open Go.RowKit
section
variable (rs rl rw many:Int)(A:Option Addr)(n c:Nat)(k m x0 x1:Int)(F:Nat→Int)
end
theorem yn{rs rl rw many:Int}{n:Nat}{sh:Nat→Shaft}(h:stockZ rs rl rw many n sh=0):zxa rs rl rw many n sh:=by
 have hr:yN rs rl rw many:=yha.1 (firstZ_zero.1 h 0 (by omega));have hn:=stock_small h;rw[yGa hr hn] at h;have hz:=firstZ_zero.1 h;have key:∀ k,k<n→ye (sh k).name∧(¬∃ j,j<k∧sameN sh j k=true)∧∀ u,u<3→outZ (spanA (sh k) u) (spanB (sh k) u) 0 9999=0:=fun k hk=>by
  have h1:=hz k hk;simp only[shaftZ] at h1;split at h1
  ·next h2=>
   split at h1
   ·cases h1
   ·next h3=>exact⟨h2,h3,firstZ_zero.1 h1⟩
  ·cases h1
 have out:∀{a b:Int},outZ a b 0 9999=0→0≤a∧a≤b∧b≤9999:=fun{a b} h=>by
  unfold outZ at h;split at h
  ·assumption
  ·cases h
 refine⟨hr,hn,fun k hk=>?_,fun j k hj hk=>?_⟩
 ·obtain⟨h1,_,h3⟩:=key k hk;have q0:=out (h3 0 (by omega));have q1:=out (h3 1 (by omega));have q2:=out (h3 2 (by omega));exact⟨h1,q0.1,q0.2.1,q0.2.2,q1.1,q1.2.1,q1.2.2,q2.1,q2.2.1,q2.2.2⟩
 ·obtain⟨_,h2,_⟩:=key k hk;cases h:((sh j).name.toList==(sh k).name.toList) with
  |false=>rfl
  |true=>exact absurd ⟨j,hj,h⟩ h2
end
section
open Go.RowKit
noncomputable def fillX(rs rl rw many:Int)(n:Nat)(sh:Nat→Shaft):List (List Nat):=if stockZ rs rl rw many n sh=0 then zgc rs rl rw sh n many.toNat (fun _=>false) else[]
noncomputable def leftX(rs rl rw many:Int)(n:Nat)(sh:Nat→Shaft):List Nat:=if stockZ rs rl rw many n sh=0 then leftL n (zgc rs rl rw sh n many.toNat fun _=>false) else[]
theorem Fill_exact(rs rl rw many:Int)(A:Option Addr)(n c:Nat)(sh:Nat→Shaft)(W:World)(hn:n≤20)(hc:n≤c)(hsh:Hid (zA W A n sh))(hnm:Hid (∀ k,k<n→(sh k).name.size≤100)) :
  CallsIn Fc 0 Tryz.prog 25 #[zga rs rl rw many A n c] W (yDb (fillX rs rl rw many n sh) (leftX rs rl rw many n sh) (stockZ rs rl rw many n sh) W):=by
 by_cases h0:stockZ rs rl rw many n sh=0
 ·have hst:=yn h0;have hmany:0≤many:=by have:=hst.rule.m0;omega
  obtain⟨m,rfl⟩:∃ m:Nat,many=(m:Int):=⟨many.toNat,by omega⟩;have e1:fillX rs rl rw m n sh=zgc rs rl rw sh n m (fun _=>false):=by unfold fillX;rw[if_pos h0,Int.toNat_natCast]
  have e2:leftX rs rl rw m n sh=leftL n (zgc rs rl rw sh n m fun _=>false):=by unfold leftX;rw[if_pos h0,Int.toNat_natCast]
  rw[e1,e2,h0];exact Fill_fair rs rl rw m A n c sh W hc hsh hst
 ·have hB1:∀ X Y,Below W.heap.size W ((W.alloc X).alloc Y):=fun X Y=>((Below.refl _ _).alloc (Nat.le_refl _) _).alloc (by simp) _
  have HB1:=Lib.hid hB1;have hck:=fun w (hb:Below W.heap.size W w)=>yca rs rl rw many A n c sh w hn hc (Lib.hid (hsh.out.below hb)) (Lib.hid fun k hk=>Nat.le_trans (hnm.out k hk) (by omega))
  have e1:fillX rs rl rw many n sh=[]:=if_neg h0;have e2:leftX rs rl rw many n sh=[]:=if_neg h0;rw[e1,e2];have HCK:=Lib.hid hck;obtain⟨z,hz⟩:∃ z,stockZ rs rl rw many n sh=z:=⟨_,rfl⟩;rw[hz] at HCK h0 ⊢;clear hck hz e1 e2 hB1;gi_enter Tryz.func25,Tryz.ntmps25
  gi_wp2_with (gi_at_call 56;refine(HCK.out _ (HB1.out _ _)).mono ?_;rintro e w2 ⟨rfl,hb2⟩;have HB2:=Lib.hid ((HB1.out _ _).trans (hb2.mono (HB1.out _ _).size));clear hb2)
  refine bodyPost_ret (results_tmp3 rfl _ _ _) rfl ?_;exact⟨_,_,rfl,zS.nil _ _ _,ListAt.nil _ _,HB2.out⟩
end
section
open Go.RowKit
noncomputable def askF(rs rl rw many:Int)(n:Nat)(sh:Nat→Shaft)(s:Int)(k:Nat):Int:=if k=0 then stockZ rs rl rw many n sh else hasZ n s
theorem askF_two(rs rl rw many:Int)(n:Nat)(sh:Nat→Shaft)(s:Int):firstZ (askF rs rl rw many n sh s) 2=askZ rs rl rw many n sh s:=by simp[firstZ,askF,askZ]
noncomputable def withoutZ(rs rl rw many:Int)(n:Nat)(sh:Nat→Shaft)(s:Int):Nat:=if askZ rs rl rw many n sh s=0 then(zgc rs rl rw sh n many.toNat (updT (fun _=>false) s.toNat)).length else 0
theorem ySb{rs rl rw many:Int}{n:Nat}{sh:Nat→Shaft}{s:Int}(h:askZ rs rl rw many n sh s=0):stockZ rs rl rw many n sh=0∧0≤s∧s<n:=by
 unfold askZ at h;split at h
 ·next e=>
  refine⟨e,?_⟩;unfold hasZ at h;split at h
  ·next e2=>exact e2
  ·omega
 ·next e=>exact absurd h e
theorem Without_exact(rs rl rw many:Int)(A:Option Addr)(n c:Nat)(sh:Nat→Shaft)(s:Int)(W:World)(hn:n≤20)(hc:n≤c)(hsh:Hid (zA W A n sh))(hnm:Hid (∀ k,k<n→(sh k).name.size≤100)) :
  CallsIn Fc 0 Tryz.prog 28 #[zga rs rl rw many A n c,.int .i64 s] W (fun e w'=>e=.returned (.tuple #[.int .i64 (withoutZ rs rl rw many n sh s:Nat),.int .i64 (askZ rs rl rw many n sh s)])∧Below W.heap.size W w'):=by
 obtain⟨z,hz⟩:∃ z,askZ rs rl rw many n sh s=z:=⟨_,rfl⟩;have hB1:∀ X Y,Below W.heap.size W ((W.alloc X).alloc Y):=fun X Y=>((Below.refl _ _).alloc (Nat.le_refl _) _).alloc (by simp) _
 have HB1:=Lib.hid hB1;have hln:∀ k,k<n→(sh k).name.size≤200:=fun k hk=>Nat.le_trans (hnm.out k hk) (by omega)
 have HLN:=Lib.hid hln;clear hB1 hln;rw[hz];have HZ:=Lib.hid hz;clear hz;gi_enter Tryz.func28,Tryz.ntmps28;gi_wp2;obtain⟨w2,hw2⟩:∃ w2,w2=(W.alloc (.cells #[.int .i64 rs,.int .i64 rl,.int .i64 rw,.int .i64 many,.slice A n c] 26)).alloc (.cells #[.int .i64 rs,.int .i64 rl,.int .i64 rw,.int .i64 many,.slice A n c] 99):=⟨_,rfl⟩;rw[←hw2];have hb2:Below W.heap.size W w2:=by rw[hw2];exact HB1.out _ _
 have e0:w2.cell? ⟨W.heap.size+1,0,none⟩=some (.int .i64 rs):=by rw[hw2];go_simp
 have e1:w2.cell? ⟨W.heap.size+1,1,none⟩=some (.int .i64 rl):=by rw[hw2];go_simp
 have e2:w2.cell? ⟨W.heap.size+1,2,none⟩=some (.int .i64 rw):=by rw[hw2];go_simp
 have e3:w2.cell? ⟨W.heap.size+1,3,none⟩=some (.int .i64 many):=by rw[hw2];go_simp
 have e4:w2.cell? ⟨W.heap.size+1,4,none⟩=some (.slice A n c):=by rw[hw2];go_simp
 have HB2:=Lib.hid hb2;clear hw2 hb2;refine zsa (R:=[.val 11 (zga rs rl rw many A n c),.val 12 (.func (.func 56) #[zga rs rl rw many A n c] #[]),.val 13 (zga rs rl rw many A n c),.val 14 (.int .i64 s),.any 15,.any 16,.val 17 (.int .i64 z),.val 7 (.int .i64 z)])
  (I:=fun Lb V w=>Below w2.heap.size w2 w∧(Lb 4=true→∃ sp ip,V 4=.func (.func 123) #[] #[ptr sp,ptr ip]∧yG w sp ip rs rl rw many A n c s)∧(Lb 5=true→∃ g,V 5=.slice (some ⟨g,0,none⟩) 2 2∧∀ k,k<2→∃ v,w.cell? ⟨g,k,none⟩=some v∧yA v (askF rs rl rw many n sh s k) w)) (z:=28) (by kernel_rfl) (by kernel_rfl) rfl (by kernel_rfl) rfl rfl ⟨(Below.refl _ _).drew,(fun h=>by cases h),fun h=>by cases h⟩ ?_ ?_
 ·intro j Lb V a w hj hno hdep hah hd0 hz hold hv hV hI;have HI:=Lib.hid hI;have s1:=zc hz (hold 1 (by kernel_rfl)) (by omega);have s6:=zc hz (hold 6 (by kernel_rfl)) (by omega);clear hold;have f0:=Below.old HI.out.1 e0;have f1:=Below.old HI.out.1 e1;have f2:=Below.old HI.out.1 e2;have f3:=Below.old HI.out.1 e3;have f4:=Below.old HI.out.1 e4;have hjs:j=0∨j=1∨j=2∨j=3∨j=4∨j=5∨j=6∨j=7:=by have:j<8:=hj;omega
  rcases hjs with rfl|rfl|rfl|rfl|rfl|rfl|rfl|rfl
  ·clear hdep hah hv hV hno hI;refine wpOpIn_step rfl fun K hK=>?_
   go_simp;exact hK _ _ ⟨rfl,rfl,HI.out⟩
  ·have f11:=zc hz (hv 0 11 _ (by kernel_rfl) rfl) (by omega);clear hdep hah hv hV hno hI;refine wpOpIn_step rfl fun K hK=>?_
   go_simp;exact hK _ _ ⟨rfl,rfl,HI.out⟩
  ·clear hdep hah hv hV hno hI;refine wpOpIn_step rfl fun K hK=>?_
   go_simp;exact hK _ _ ⟨rfl,rfl,HI.out⟩
  ·clear hdep hah hv hV hno hI;refine wpOpIn_step rfl fun K hK=>?_
   go_simp;exact hK _ _ ⟨rfl,rfl,HI.out⟩
  ·have f13:=zc hz (hv 2 13 _ (by kernel_rfl) rfl) (by omega);have f14:=zc hz (hv 3 14 _ (by kernel_rfl) rfl) (by omega);have h5:=hah 5 (by kernel_rfl) rfl;clear hdep hah hv hV hno hI;refine wpOpIn_step rfl fun K hK=>?_
   go_simp;refine(hasShaft_anyI rs rl rw many A n c s w).mono ?_;rintro e w' ⟨sp,ip,rfl,hbox,hb'⟩;exact hK _ _ ⟨rfl,_,rfl,HI.out.1.trans (hb'.mono HI.out.1.size),fun _=>⟨sp,ip,rfl,hbox⟩,fun h=>by rw[show updB Lb 4 5=Lb 5 from rfl,h5] at h;cases h⟩
  ·have f12:=zc hz (hv 1 12 _ (by kernel_rfl) rfl) (by omega);have k4:=hdep 4 (by kernel_rfl) rfl;obtain⟨sp,ip,ev4,hbox⟩:=HI.out.2.1 k4;have f15:=zc hz ((hV 4 15 rfl).trans ev4) (by omega);clear hdep hah hv hno hI;refine wpOpIn_step rfl fun K hK=>?_
   go_simp;have hb':Below w.heap.size w (w.alloc (.cells #[.func (.func 56) #[zga rs rl rw many A n c] #[],.func (.func 123) #[] #[ptr sp,ptr ip]] 101)):=(Below.refl _ _).alloc (Nat.le_refl _) _;refine hK _ _ ⟨rfl,_,rfl,HI.out.1.trans (hb'.mono HI.out.1.size),fun _=>⟨sp,ip,ev4,hbox.below hb'⟩,fun _=>⟨w.heap.size,rfl,fun k hk=>?_⟩⟩;rcases(by omega:k=0∨k=1) with rfl|rfl
   ·exact⟨_,by simp,.inl ⟨56,_,by simp,rfl,fun w' hw=>yca rs rl rw many A n c sh w' hn hc (Lib.hid (hsh.out.below ((HB2.out.trans ((HI.out.1.trans (hb'.mono HI.out.1.size)).mono HB2.out.size)).trans (hw.mono (by have:=HB2.out.size;have:=HI.out.1.size;simp;omega))))) (Lib.hid HLN.out)⟩⟩
   ·exact⟨_,by simp,(hbox.is hn).below hb'⟩
  ·have k5:=hdep 5 (by kernel_rfl) rfl;obtain⟨g,ev5,hall⟩:=HI.out.2.2 k5;have f16:=zc hz ((hV 5 16 rfl).trans ev5) (by omega);clear hdep hah hv hV hno hI;refine wpOpIn_step rfl fun K hK=>?_
   go_simp;refine(yi g 2 2 (askF rs rl rw many n sh s) w (by omega) (Lib.hid hall)).mono ?_;rintro e w' ⟨f,rfl,hf,hb'⟩;rw[askF_two,HZ.out] at hf;subst hf;refine hK _ _ ⟨rfl,rfl,HI.out.1.trans (hb'.mono HI.out.1.size),fun h=>?_,fun h=>?_⟩
   ·obtain⟨sp,ip,h1,h2⟩:=HI.out.2.1 h;exact⟨sp,ip,h1,h2.below hb'⟩
   ·obtain⟨g',h1,h2⟩:=HI.out.2.2 h;refine⟨g',h1,fun k hk=>?_⟩;obtain⟨v,q1,q2⟩:=h2 k hk;exact⟨v,Below.old hb' q1,q2.below hb'⟩
  ·have f17:=zc hz (hv 6 17 _ (by kernel_rfl) rfl) (by omega);clear hdep hah hv hV hno hI;refine wpOpIn_step rfl fun K hK=>?_
   go_simp;exact hK _ _ ⟨rfl,rfl,HI.out⟩
 intro Lb V w5 hL hI;have HB5:=Lib.hid (HB2.out.trans (hI.1.mono HB2.out.size));have f0:=Below.old hI.1 e0;have f1:=Below.old hI.1 e1;have f2:=Below.old hI.1 e2;have f3:=Below.old hI.1 e3;have f4:=Below.old hI.1 e4;clear hI hL e0 e1 e2 e3 e4;obtain⟨x15,hx15⟩:∃ x,V (0+1+1+1+1)=x:=⟨_,rfl⟩;obtain⟨x16,hx16⟩:∃ x,V (0+1+1+1+1+1)=x:=⟨_,rfl⟩;simp only[outsG,List.foldl_cons,List.foldl_nil,List.setIfInBounds_toArray,List.set_cons_succ,List.set_cons_zero];rw[hx15,hx16];clear hx15 hx16;by_cases h0:z=0
 ·subst h0;obtain⟨h1,h2,h3⟩:=ySb HZ.out;have hst:=yn h1;have hn9:=hst.count;have hmany:0≤many:=by have:=hst.rule.m0;omega
  obtain⟨k,rfl⟩:∃ k:Nat,s=(k:Int):=⟨s.toNat,by omega⟩;obtain⟨m,rfl⟩:∃ m:Nat,many=(m:Int):=⟨many.toNat,by omega⟩;have hk9:k<9:=by omega
  have ew:withoutZ rs rl rw m n sh k=(zgc rs rl rw sh n m (updT (fun _=>false) k)).length:=by unfold withoutZ;rw[if_pos HZ.out,Int.toNat_natCast,Int.toNat_natCast]
  have HEW:=Lib.hid ew;have hcd:=fun w (hb:Below W.heap.size W w)=>yS rs rl rw m A n c sh w (Lib.hid hst) (Lib.hid (hsh.out.below hb))
  have HCD:=Lib.hid hcd;have hbt:∀ X,Below W.heap.size W (w5.alloc X):=fun X=>HB5.out.alloc HB5.out.size X
  have HBT:=Lib.hid hbt;clear hcd hbt h1 h2 h3 ew hst hmany;gi_wp2;have elit:([Value.bool false,.bool false,.bool false,.bool false,.bool false,.bool false,.bool false,.bool false,.bool false].set k (.bool true)).toArray=tkCells (updT (fun _=>false) k):=by rcases(by omega:k=0∨k=1∨k=2∨k=3∨k=4∨k=5∨k=6∨k=7∨k=8) with rfl|rfl|rfl|rfl|rfl|rfl|rfl|rfl|rfl<;>rfl
  rw[elit];clear elit;obtain⟨T1,hT1⟩:∃ T1,updT (fun _=>false) k=T1:=⟨_,rfl⟩;rw[hT1] at HEW ⊢;clear hT1;obtain⟨M,hM⟩:∃ M,zgc rs rl rw sh n m T1=M:=⟨_,rfl⟩;rw[hM] at HEW;have HM:=Lib.hid hM;obtain⟨w6,hw6⟩:∃ w6,w6=w5.alloc (.cells (tkCells T1) 127):=⟨_,rfl⟩;rw[←hw6];have htk:w6.heap[w5.heap.size]? = some (.cells (tkCells T1) 127 (0,0)):=by rw[hw6];exact zG rfl
  have hb6:Below W.heap.size W w6:=by rw[hw6];exact HBT.out _
  have hlt5:w5.heap.size<w6.heap.size:=by rw[hw6];simp
  have hb56:Below w5.heap.size w5 w6:=by rw[hw6];exact(Below.refl _ _).alloc (Nat.le_refl _) _
  have e0:=Below.old hb56 f0;have e1:=Below.old hb56 f1;have e2:=Below.old hb56 f2;have e3:=Below.old hb56 f3;have e4:=Below.old hb56 f4;have HTK:=Lib.hid htk;have HB6:=Lib.hid hb6;clear htk hb6 hw6 hb56 hM f0 f1 f2 f3 f4;refine zsa (R:=[.val 23 (zga rs rl rw m A n c),.any 24,.val 25 (.agg (tkCells T1)),.any 26,.val 27 (.int .i64 (M.length:Nat)),.val 4 (.int .i64 (M.length:Nat)),.val 5 (.int .i64 0)])
   (I:=fun Lb V w=>Below w6.heap.size w6 w∧(Lb 1=true→∃ P,V 1=.agg (ckCells rs rl rw m A n c P)∧zPb P n m T1=M)∧(Lb 3=true→∃ LA lc,V 3=.slice LA M.length lc)) (z:=28) (by kernel_rfl) (by kernel_rfl) rfl (by kernel_rfl) rfl rfl ⟨(Below.refl _ _).drew,(fun h=>by cases h),fun h=>by cases h⟩ ?_ ?_
  ·intro j Lb V a w hj hno hdep hah hd0 hz hold hv hV hI;have HI:=Lib.hid hI;have s6:=zc hz (hold 6 (by kernel_rfl)) (by omega);have h8:=hold 8 (by kernel_rfl);clear hold;have f0:=Below.old HI.out.1 e0;have f1:=Below.old HI.out.1 e1;have f2:=Below.old HI.out.1 e2;have f3:=Below.old HI.out.1 e3;have f4:=Below.old HI.out.1 e4;have hjs:j=0∨j=1∨j=2∨j=3∨j=4∨j=5∨j=6:=by have:j<7:=hj;omega
   rcases hjs with rfl|rfl|rfl|rfl|rfl|rfl|rfl
   ·clear hdep hah hv hV hno hI;refine wpOpIn_step rfl fun K hK=>?_
    go_simp;exact hK _ _ ⟨rfl,rfl,HI.out⟩
   ·have f23:=zc hz (hv 0 23 _ (by kernel_rfl) rfl) (by omega);have h3:=hah 3 (by kernel_rfl) rfl;clear hdep hah hv hV hno hI;refine wpOpIn_step rfl fun K hK=>?_
    go_simp;refine(HCD.out w (HB6.out.trans (HI.out.1.mono HB6.out.size))).mono ?_;rintro e w' ⟨P,rfl,hP,hb'⟩;exact hK _ _ ⟨rfl,_,rfl,HI.out.1.trans (hb'.mono HI.out.1.size),fun _=>⟨P,rfl,(yIb hP T1).trans HM.out⟩,fun h=>by rw[show updB Lb 1 3=Lb 3 from rfl,h3] at h;cases h⟩
   ·refine yL rfl rfl _ rfl _ _ (h8.trans rfl) ((HI.out.1.block _ hlt5).trans HTK.out) rfl ?_;exact⟨hd0,rfl,HI.out⟩
   ·have k1:=hdep 1 (by kernel_rfl) rfl;obtain⟨P,ev1,hPM⟩:=HI.out.2.1 k1;have f24:=zc hz ((hV 1 24 rfl).trans ev1) (by omega);have f25:=zc hz (hv 2 25 _ (by kernel_rfl) rfl) (by omega);clear hdep hah hv hV hno hI;refine wpOpIn_step rfl fun K hK=>?_
    go_simp;refine(yHb rs rl rw A n c P m T1 w hn9).mono ?_;rintro e w' ⟨v,rfl,hl,hf,hb'⟩;rw[hPM] at hl;obtain⟨LA,lc,rfl,_⟩:=hl.read;exact hK _ _ ⟨rfl,_,rfl,HI.out.1.trans (hb'.mono HI.out.1.size),fun _=>⟨P,ev1,hPM⟩,fun _=>⟨LA,lc,rfl⟩⟩
   ·have k3:=hdep 3 (by kernel_rfl) rfl;obtain⟨LA,lc,ev3⟩:=HI.out.2.2 k3;have f26:=zc hz ((hV 3 26 rfl).trans ev3) (by omega);clear hdep hah hv hV hno hI;refine wpOpIn_step rfl fun K hK=>?_
    go_simp;exact hK _ _ ⟨rfl,rfl,HI.out⟩
   ·have f27:=zc hz (hv 4 27 _ (by kernel_rfl) rfl) (by omega);clear hdep hah hv hV hno hI;refine wpOpIn_step rfl fun K hK=>?_
    go_simp;exact hK _ _ ⟨rfl,rfl,HI.out⟩
   ·clear hdep hah hv hV hno hI;refine wpOpIn_step rfl fun K hK=>?_
    go_simp;exact hK _ _ ⟨rfl,rfl,HI.out⟩
  intro Lb V w7 hL hI;have HB7:=Lib.hid (HB6.out.trans (hI.1.mono HB6.out.size));clear hI hL e0 e1 e2 e3 e4;simp only[outsG,List.foldl_cons,List.foldl_nil,List.setIfInBounds_toArray,List.set_cons_succ,List.set_cons_zero];gi_wp2
  go_ret2
  exact⟨by rw[HEW.out];rfl,HB7.out⟩
 ·have ew:withoutZ rs rl rw many n sh s=0:=by unfold withoutZ;rw[HZ.out,if_neg h0]
  have HEW:=Lib.hid ew;clear ew;gi_wp2
  go_ret2
  exact⟨by rw[HEW.out];rfl,HB5.out⟩
end
section
open Go.RowKit
theorem yRa{n m:Nat}:∀(d:Nat) (x:List Nat) (a:Nat) (z:List Nat),d≤n→(a::z).Pairwise (· < ·)→(∀ k,k∈a::z→k<n)→n-d≤a→(x++a::z).length=m→x++a::z∈loopE n m d x
 |0,x,a,z,hd,hp,hlt,ha,hm=>by have:=hlt a (List.mem_cons_self ..);omega
 |d+1,x,a,z,hd,hp,hlt,ha,hm=>by
  rw[loopE,List.mem_append];have han:=hlt a (List.mem_cons_self ..);rw[List.length_append,List.length_cons] at hm;by_cases e:a=n-(d+1)
  ·refine .inl ?_;rw[←e];cases z with
   |nil=>rw[if_pos (by simpa using hm)];exact List.mem_singleton.2 rfl
   |cons b z=>rw[if_neg (by simp at hm;omega)];have hab:a<b:=(List.pairwise_cons.1 hp).1 b (List.mem_cons_self ..);have h:=yRa (n:=n) (m:=m) d (x++[a]) b z (by omega) (List.pairwise_cons.1 hp).2 (fun k hk=>hlt k (List.mem_cons_of_mem _ hk)) (by omega) (by simp at hm ⊢;omega);rw[List.append_assoc] at h;exact h
  ·exact .inr (yRa d x a z (by omega) hp hlt (by omega) (by rw[List.length_append,List.length_cons];exact hm))
theorem extE_has{n m:Nat}{x:List Nat}(hp:x.Pairwise (· < ·))(hlt:∀ k,k∈x→k<n)(hm:x.length=m):x∈extE n m n []:=by
 unfold extE;cases x with
 |nil=>rw[if_pos (by simpa using hm)];exact List.mem_singleton.2 rfl
 |cons a z=>rw[if_neg (by simp at hm ⊢;omega)];exact yRa n [] a z (Nat.le_refl _) hp hlt (by omega) hm
theorem yI{n m:Nat}:∀(d:Nat) (x y:List Nat),y∈loopE n m d x→∃ b z,y=x++b::z∧n-d≤b
 |0,x,y,h=>by cases h
 |d+1,x,y,h=>by
  rw[loopE,List.mem_append] at h;rcases h with h|h
  ·split at h
   ·rcases List.mem_singleton.1 h with rfl;exact⟨n-(d+1),[],rfl,Nat.le_refl _⟩
   ·obtain⟨b,z,rfl,_⟩:=yI d _ y h;exact⟨n-(d+1),b::z,by rw[List.append_assoc];rfl,Nat.le_refl _⟩
  ·obtain⟨b,z,rfl,hb⟩:=yI d x y h;exact⟨b,z,rfl,by omega⟩
theorem loopE_first{n m d:Nat}{x y:List Nat}(h:y∈(if x.length+1=m then[x++[n-(d+1)]] else loopE n m d (x++[n-(d+1)]))):∃ z,y=x++(n-(d+1))::z:=by
 split at h
 ·rcases List.mem_singleton.1 h with rfl;exact⟨[],rfl⟩
 ·obtain⟨b,z,rfl,_⟩:=yI d _ y h;exact⟨b::z,by rw[List.append_assoc];rfl⟩
theorem yPc{a b:Nat}{z z':List Nat}(h:a<b):∀ x:List Nat,cmpL (x++a::z) (x++b::z') = -1
 | []=>by show cmpL (a::z) (b::z') = -1;rw[cmpL,if_pos h]
 |c::x=>by show cmpL (c::(x++a::z)) (c::(x++b::z')) = -1;rw[cmpL,if_neg (by omega),if_neg (by omega)];exact yPc h x
theorem yF{n m:Nat}:∀(d:Nat) (x:List Nat),d≤n→(loopE n m d x).Pairwise fun a b=>cmpL a b = -1
 |0,x,_=>List.Pairwise.nil
 |d+1,x,hd=>by
  rw[loopE,List.pairwise_append];refine⟨?_,yF d x (by omega),fun a ha b hb=>?_⟩
  ·split
   ·exact List.pairwise_singleton _ _
   ·exact yF d _ (by omega)
  ·obtain⟨z,rfl⟩:=loopE_first ha;obtain⟨c,z',rfl,hc⟩:=yI d x b hb;exact yPc (by omega) x
theorem extE_sorted{n m:Nat}:(extE n m n []).Pairwise fun a b=>cmpL a b = -1:=by
 unfold extE;split
 ·exact List.pairwise_singleton _ _
 ·exact yF n [] (Nat.le_refl _)
theorem setsX_sorted(rs rl rw:Int)(sh:Nat→Shaft)(n m:Nat):(setsX rs rl rw sh n m).Pairwise fun a b=>cmpL a b = -1:=extE_sorted.filter _
theorem setsX_iff{rs rl rw:Int}{sh:Nat→Shaft}{n m:Nat}{x:List Nat}:x∈setsX rs rl rw sh n m↔x.Pairwise (· < ·)∧(∀ k,k∈x→k<n)∧x.length=m∧zoc rs rl rw sh (fun k=>x.getD k 0) x.length=1:=by
 unfold setsX;rw[List.mem_filter];constructor
 ·rintro⟨h1,h2⟩;exact⟨yvc h1,ycc h1,yQb h1,by simpa using h2⟩
 ·rintro⟨h1,h2,h3,h4⟩;exact⟨extE_has h1 h2 h3,by simpa using h4⟩
theorem yeb{rs rl rw:Int}{sh:Nat→Shaft}{n m:Nat}{T:Nat→Bool}{x:List Nat}(h:x∈zgc rs rl rw sh n m T):x∈setsX rs rl rw sh n m:=
 yFa (p:=fun x=>x∈setsX rs rl rw sh n m) (fun s x hx=>ync hx) n T [] [] (fun y hy=>by cases hy) (fun y hy=>by cases hy) x h
end
section
open Go.RowKit
theorem yEc{n:Int}(h0 : -1000000000≤n)(h1:n≤1000000000):IntKind.wrap .i64 n=n:=by simp[IntKind.wrap,IntKind.signed,IntKind.bits];omega
def SaysProp(p:Prop)(W:World)(e:Ending)(w':World):Prop:=∃ g:Bool,e=.returned (.bool g)∧(g=true↔p)∧Below W.heap.size W w'
theorem yDa(LA LB:Option Addr)(m lc k kc:Nat)(a b:Nat→Nat)(W:World)(hm:m≤20)(hk:k≤20)(hc:m≤lc)(hkc:k≤kc)(ha:Hid (zca W LA m fun k=>(a k:Int)))(hb:Hid (zca W LB k fun k=>(b k:Int))) :
  CallsIn Fc 0 Tryz.prog 27 #[.slice LA m lc,.slice LB k kc] W (SaysProp (m=k∧∀ i,i<m→a i=b i) W):=by
 by_cases h:m=k
 ·subst h;gi_enter Tryz.func27,Tryz.ntmps27;gi_wp2
  gi_loopw [5] (fun x wr=>∃ j:Nat,j≤m∧x=.int .i64 j∧Below W.heap.size W wr∧∀ i,i<j→a i=b i) (fun x _=>m-(intOf x).toNat)
  case atStart=>exact⟨0,by omega,rfl,Below.refl _ _,fun i hi=>by omega⟩
  case round=>
   obtain⟨j,hj,rfl,hbw,heq⟩:=hrel;have HEQ:=Lib.hid heq;have HBW:=Lib.hid hbw;clear heq hbw;by_cases hlt:j<m
   ·obtain⟨b1,o1,rfl,q1⟩:=ha.out j hlt;obtain⟨b2,o2,rfl,q2⟩:=hb.out j hlt;have Q1:=Lib.hid (Below.old HBW.out q1);have Q2:=Lib.hid (Below.old HBW.out q2);clear q1 q2;by_cases he:(a j:Int)=(b j:Int)
    ·have hbb:((a j:Int) != (b j:Int))=false:=by simp[he]
     gi_wp2;refine zL (D:=[(17,.slice (some ⟨b1,o1,none⟩) m lc),(18,.int .i64 j),(19,.pointer (some ⟨b1,o1+j,none⟩)),(20,.int .i64 (a j)),(21,.slice (some ⟨b2,o2,none⟩) m kc),(22,.int .i64 j),(23,.pointer (some ⟨b2,o2+j,none⟩)),(24,.int .i64 (b j)),(25,.bool ((a j:Int) != (b j:Int)))])
      (I:=fun w=>Below wr.heap.size wr w) (z:=26) (by kernel_rfl) (by kernel_rfl) (by kernel_rfl) (by kernel_rfl) (by kernel_rfl) rfl rfl (Below.refl _ _).drew ?_ ?_
     ·intro j a w hj hd hz hold hf hI;have HI:=Lib.hid hI;have q1:=Below.old hI Q1.out;have q2:=Below.old hI Q2.out;clear hI hbb he;have s0:=zc hz (hold 0 (by kernel_rfl)) (by omega);have s1:=zc hz (hold 1 (by kernel_rfl)) (by omega);have s5:=zc hz (hold 5 (by kernel_rfl)) (by omega);clear hold;have hjs:j=0∨j=1∨j=2∨j=3∨j=4∨j=5∨j=6∨j=7∨j=8:=by have:j<9:=hj;omega
      rcases hjs with rfl|rfl|rfl|rfl|rfl|rfl|rfl|rfl|rfl
      all_goals
       try have f17:=zc hz (hf 0 17 _ rfl rfl) (by omega)
       try have f18:=zc hz (hf 1 18 _ rfl rfl) (by omega)
       try have f19:=zc hz (hf 2 19 _ rfl rfl) (by omega)
       try have f21:=zc hz (hf 4 21 _ rfl rfl) (by omega)
       try have f22:=zc hz (hf 5 22 _ rfl rfl) (by omega)
       try have f23:=zc hz (hf 6 23 _ rfl rfl) (by omega)
       try have f20:=zc hz (hf 3 20 _ rfl rfl) (by omega)
       try have f24:=zc hz (hf 7 24 _ rfl rfl) (by omega)
       refine wpOpIn_step rfl fun K hK=>?_
       go_simp;exact hK _ _ ⟨_,_,rfl,rfl,rfl,HI.out⟩
     intro w5 hI;simp only[List.foldl_cons,List.foldl_nil,List.setIfInBounds_toArray,List.set_cons_succ,List.set_cons_zero];have HI:=Lib.hid hI;clear hI;have HE:=Lib.hid he;clear he;gi_wp2;go_roundw
     case rel=>exact⟨j+1,by omega,by go_num,HBW.out.trans (HI.out.mono HBW.out.size),fun i hi=>by
      by_cases e:i=j
      ·subst e;have:=HE.out;omega
      ·exact HEQ.out i (by omega)⟩
     case measure=>simp[intOf];omega
    ·have hbb:((a j:Int) != (b j:Int))=true:=by simpa using he
     have HE:Hid (¬(a j:Int)=(b j:Int)):=Lib.hid he;clear he;gi_wp2;refine zL (D:=[(17,.slice (some ⟨b1,o1,none⟩) m lc),(18,.int .i64 j),(19,.pointer (some ⟨b1,o1+j,none⟩)),(20,.int .i64 (a j)),(21,.slice (some ⟨b2,o2,none⟩) m kc),(22,.int .i64 j),(23,.pointer (some ⟨b2,o2+j,none⟩)),(24,.int .i64 (b j)),(25,.bool ((a j:Int) != (b j:Int)))])
      (I:=fun w=>Below wr.heap.size wr w) (z:=26) (by kernel_rfl) (by kernel_rfl) (by kernel_rfl) (by kernel_rfl) (by kernel_rfl) rfl rfl (Below.refl _ _).drew ?_ ?_
     ·intro j a w hj hd hz hold hf hI;have HI:=Lib.hid hI;have q1:=Below.old hI Q1.out;have q2:=Below.old hI Q2.out;clear hI hbb;have s0:=zc hz (hold 0 (by kernel_rfl)) (by omega);have s1:=zc hz (hold 1 (by kernel_rfl)) (by omega);have s5:=zc hz (hold 5 (by kernel_rfl)) (by omega);clear hold;have hjs:j=0∨j=1∨j=2∨j=3∨j=4∨j=5∨j=6∨j=7∨j=8:=by have:j<9:=hj;omega
      rcases hjs with rfl|rfl|rfl|rfl|rfl|rfl|rfl|rfl|rfl
      all_goals
       try have f17:=zc hz (hf 0 17 _ rfl rfl) (by omega)
       try have f18:=zc hz (hf 1 18 _ rfl rfl) (by omega)
       try have f19:=zc hz (hf 2 19 _ rfl rfl) (by omega)
       try have f21:=zc hz (hf 4 21 _ rfl rfl) (by omega)
       try have f22:=zc hz (hf 5 22 _ rfl rfl) (by omega)
       try have f23:=zc hz (hf 6 23 _ rfl rfl) (by omega)
       try have f20:=zc hz (hf 3 20 _ rfl rfl) (by omega)
       try have f24:=zc hz (hf 7 24 _ rfl rfl) (by omega)
       refine wpOpIn_step rfl fun K hK=>?_
       go_simp;exact hK _ _ ⟨_,_,rfl,rfl,rfl,HI.out⟩
     intro w5 hI;simp only[List.foldl_cons,List.foldl_nil,List.setIfInBounds_toArray,List.set_cons_succ,List.set_cons_zero];have HI:=Lib.hid hI;clear hI;gi_wp2;go_ret;exact⟨false,rfl,⟨fun h=>(by cases h),fun h=>absurd (congrArg (fun x:Nat=>(x:Int)) (h.2 j hlt)) HE.out⟩,HBW.out.trans (HI.out.mono HBW.out.size)⟩
   ·obtain rfl:j=m:=by omega
    gi_wp2;go_ret;exact⟨true,rfl,⟨fun _=>⟨by first|trivial|rfl,HEQ.out⟩,fun _=>rfl⟩,HBW.out⟩
 ·gi_enter Tryz.func27,Tryz.ntmps27;gi_wp2;go_ret;exact⟨false,by simp[h],⟨fun h=>(by cases h),fun h'=>absurd h'.1 h⟩,Below.refl _ _⟩
end
end Go.Proofs.YtpdmgecbapmgdaaGreat
