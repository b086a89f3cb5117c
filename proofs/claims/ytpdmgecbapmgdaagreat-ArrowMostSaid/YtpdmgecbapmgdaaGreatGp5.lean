/- A part of the proof that ArrowMost returns true for every input: no further condition. -/
import Derived.Test.YtpdmgecbapmgdaaGreatGp4
import Derived.Test.YtpdmgecbapmgdaaGreatGp2
import Derived.Stop.RegionWithIn
import Derived.Laws.Rows
import Derived.Maps.OwnIn
import Derived.Lib.SliceRun
import Derived.Lib.AppendZeros
set_option linter.unusedSimpArgs false
set_option linter.unusedVariables false
set_option maxHeartbeats 4000000
set_option maxRecDepth 100000
namespace Go.Proofs.YtpdmgecbapmgdaaGreat
section
open Go.RowKit
theorem zV{F:Fence}{ops:Array Oper}{rest:List Oper}{o:Oper}{a:Act}{w:World}{Q:Exit→Act→World→Prop}(hg:o.guard=none)(p:Operand)(hop:o.op=.load 127 p)(g:Nat)(cells:Array Value)(hp:a.eval p=.pointer (some ⟨g,0,none⟩))(hb:w.heap[g]? = some (.cells cells 127 (0,0)))(hs:cells.size=9)
  (h:wpListIn F 0 Tryz.prog ops Q rest (a.put o.dst (.agg cells)) w):wpListIn F 0 Tryz.prog ops Q (o::rest) a w:=by
 refine wpListIn_plain hg fun K hK'=>?_
 have e:(Instr.loadAt 127 (a.eval p)).run Tryz.prog w=.ok (.agg cells) w:=by rw[hp];exact ykb w g cells hb hs
 unfold Oper.wpIn;refine⟨?_,?_⟩
 ·simp[Oper.about,hop]
 ·rw[Oper.semAt_plain F _ _ (by rw[hop];intro c hc';cases hc')];simp only[execOp,hop];show o.uponIn F 0 Tryz.prog a K Q ((do pure (.value (←Instr.loadAt 127 (a.eval p))):Sem Next).run Tryz.prog w);rw[Sem.run_bind,e];exact hK' _ _ h
def litT(T:Nat→Bool):Array Value:=#[.bool (T 0),.bool (T 1),.bool (T 2),.bool (T 3),.bool (T 4),.bool (T 5),.bool (T 6),.bool (T 7),.bool (T 8)]
theorem tk_at{w:World}{b s:Nat}{T:Nat→Bool}(h:w.heap[b]? = some (.cells (tkCells T) 127 (0,0)))(hs:s<9):w.cell? ⟨b,s,none⟩=some (.bool (T s)):=by
 have e:(tkCells T)[s]? = some (.bool (T s)):=by rcases(by omega:s=0∨s=1∨s=2∨s=3∨s=4∨s=5∨s=6∨s=7∨s=8) with rfl|rfl|rfl|rfl|rfl|rfl|rfl|rfl|rfl<;>rfl
 simp[World.cell?,h,e]
theorem yVb{T:Nat→Bool}{s:Nat}(hs:s<9):(tkCells T).setIfInBounds s (.bool true)=tkCells (updT T s):=by rcases(by omega:s=0∨s=1∨s=2∨s=3∨s=4∨s=5∨s=6∨s=7∨s=8) with rfl|rfl|rfl|rfl|rfl|rfl|rfl|rfl|rfl<;>rfl
theorem tk_put{w:World}{b s:Nat}{T:Nat→Bool}(h:w.heap[b]? = some (.cells (tkCells T) 127 (0,0)))(hs:s<9):w.setCell ⟨b,s,none⟩ (.bool true)=w.putObj b (.cells (tkCells (updT T s)) 127):=by
 unfold World.setCell World.putObj
 congr 1
 apply Array.ext_getElem?;intro i;rw[Array.getElem?_modify,Array.getElem?_setIfInBounds];by_cases e:b=i
 ·subst e;have hlt:=(Array.getElem?_eq_some_iff.1 h).1;have e2:w.heap[b]=.cells (tkCells T) 127 (0,0):=by have:=(Array.getElem?_eq_some_iff.1 h).2;exact this
  simp[hlt,e2,yVb hs]
 ·simp[e]
theorem wpOpIn_load127{F:Fence}{ops:Array Oper}{j:Nat}{o:Oper}{K:Act→World→Prop}{a:Act}{w:World}{Q:Exit→Act→World→Prop}(ho:ops[j]? = some o)(hg:o.guard=none)(p:Operand)(hop:o.op=.load 127 p)(g:Nat)(cells:Array Value)(hp:a.eval p=.pointer (some ⟨g,0,none⟩))(hb:w.heap[g]? = some (.cells cells 127 (0,0)))(hs:cells.size=9)
  (h:K (a.put o.dst (.agg cells)) w):wpOpIn F 0 Tryz.prog ops Q j K a w:=by
 refine wpOpIn_step ho fun K' hK'=>?_
 rw[if_pos (by simp[Region.wanted,hg])];have e:(Instr.loadAt 127 (a.eval p)).run Tryz.prog w=.ok (.agg cells) w:=by rw[hp];exact ykb w g cells hb hs
 unfold Oper.wpIn;refine⟨?_,?_⟩
 ·simp[Oper.about,hop]
 ·rw[Oper.semAt_plain F _ _ (by rw[hop];intro c hc';cases hc')];simp only[execOp,hop];show o.uponIn F 0 Tryz.prog a K' Q ((do pure (.value (←Instr.loadAt 127 (a.eval p))):Sem Next).run Tryz.prog w);rw[Sem.run_bind,e];exact hK' _ _ h
theorem zbc.row{w0 w:World}{b1 b2 bc bb bo bt r n c:Nat}{A:Option Addr}{l:Ents}{O:Nat→List (List Nat)}(h:zbc w0 b1 b2 bc bb bo bt r n c A l O)(ho:Old w0 bb w)(s:Nat):∃ vs:List Value,w.ownsRow b1 27 1 (valAt l s) (O s).length vs∧∀ k,k<(O s).length→ListAt w0 b2 (vs.getD k undef) ((O s).getD k [])∧ListAt w b2 (vs.getD k undef) ((O s).getD k []):=by
 obtain⟨u,hu⟩:=h.box;obtain⟨vs,h1,h2⟩:=h.sets s;refine⟨vs,zja h1 fun g hg=>ho.block g (zfb h1 hg).2 (fun e=>?_) (by simp),fun k hk=>⟨h2 k hk,ho.list hu (h2 k hk)⟩⟩;rcases List.mem_singleton.1 e with rfl;obtain⟨_,⟨e',_⟩|⟨g',c',r',e',_,q6,_⟩⟩:=h1
 ·rw[e'] at hg;cases hg
 ·rw[e'] at hg;cases hg;rw[hu] at q6;cases q6
theorem Asks.set{w0 w w1:World}{b2 bb g:Nat}{sv bv:Value}{S B:List (List Nat)}{o:Obj}(hbb:bb<w0.heap.size)(h:Asks w0 b2 bb w sv S bv B)(hg:w0.heap.size≤g)(h1:sv.ownBlock≠some g)(h2:bv.ownBlock≠some g)(e:w1=w.putObj g o):Asks w0 b2 bb w1 sv S bv B:=by
 have hk:∀ k,k≠g→w1.heap[k]? = w.heap[k]?:=fun k hk=>by rw[e];exact World.putObj_heap_other hk
 refine⟨⟨by rw[e];exact h.old.os,by rw[e];exact h.old.tape,by rw[e];exact h.old.output,by rw[e,World.putObj_size];exact h.old.size,fun k hlt a b=>(hk k (by omega)).trans (h.old.block k hlt a b)⟩,⟨(hk bb (by omega)).trans h.best.1,h.best.2.keep fun k hk'=>hk k fun e'=>h2 (by rw[←e'];exact hk')⟩,h.few,h.share.keep fun k hk'=>hk k fun e'=>h1 (by rw[←e'];exact hk'),h.apart⟩
theorem yka{w:World}{z:Nat}{v:Value}(hz:z≤w.heap.size):(w.alloc (.cells #[v] 27)).ownsRow z 27 1 (.slice (some ⟨w.heap.size,0,none⟩) 1 1) 1 [v]:=
 ⟨rfl,.inr ⟨w.heap.size,1,_,rfl,hz,heap_alloc_new _ _,by omega,by simp[maxLen],by simp,by simp⟩⟩
theorem afterR_of{w0:World}{b2:Nat}{v u su:Value}{S:List (List Nat)}{x:List Nat}{vs:List Value}{w1 w w':World}(hb:Below w1.heap.size w1 w)(hel:∀ k,k<S.length→ListAt w0 b2 (vs.getD k undef) (S.getD k []))(hx:ListAt w0 b2 su x)
  (r1:w'.ownsRow w0.heap.size 27 1 u (S.length+1) (vs++[su])) (r2:w'.ownsRow w0.heap.size 27 1 v S.length vs) (r3:w.grownBy w' v.ownBlock) (r4:Lies w w' S.length 1 v u):zdc w0 b2 v u S x w1 w':=by
 have hsz:=hb.size;refine⟨Row.more (w:=w') (v:=u) (by have:=r2.1;omega) r1 hel hx,⟨vs,r2,hel⟩,(Kept.of_below [] _ hb).trans (Kept.of_grown [] r3) (fun k hk=>by cases hk) fun k hk _=>.inr hk,?_⟩;rcases r4 with⟨g,cap,h1,h2⟩|⟨h1,_⟩
 ·exact .inl ⟨g,cap,h1,h2⟩
 ·exact .inr ⟨_,hsz,h1⟩
theorem old_at{w0 w w1:World}{b2 bb:Nat}{sv u bv:Value}{S B:List (List Nat)}{x:List Nat}{L7 L8:Bool}{Z:Prop}(hbb:bb<w0.heap.size)(h:Asks w0 b2 bb w sv S bv B)(hS:S.length<9)(hx:x.length≤9)(h1:L7=false→Below w.heap.size w w1∧Z)(h2:L7=true→L8=false→zdc w0 b2 sv u S x w w1)(h8:L8=false):Old w0 bb w1:=by
 cases L7 with
 |false=>exact(h.below (h1 rfl).1).old
 |true=>exact((h2 rfl h8).asks hbb h hS hx).old
theorem blk_at{w0 w w1:World}{b2 g:Nat}{sv u:Value}{S:List (List Nat)}{x:List Nat}{L7 L8:Bool}{Z:Prop}(hlt:g<w.heap.size)(hne:sv.ownBlock≠some g)(h1:L7=false→Below w.heap.size w w1∧Z)(h2:L7=true→L8=false→zdc w0 b2 sv u S x w w1)(h8:L8=false):w1.heap[g]? = w.heap[g]?:=by
 cases L7 with
 |false=>exact(h1 rfl).1.block _ hlt
 |true=>exact(h2 rfl h8).kept.block _ hlt (by simp) hne
section
variable {w0:World}{b1 b2 bc bb bo bt r n c:Nat}{A:Option Addr}{l:Ents}{O:Nat→List (List Nat)}
theorem try_step(hn:n≤9)(hE:Hid (zbc w0 b1 b2 bc bb bo bt r n c A l O))(hbb:bb<w0.heap.size)(d s:Nat)(hs:s<n)(hd:n-s=d+1)(T:Nat→Bool)(sv bv:Value)(S B:List (List Nat))(W:World)(ha:Hid (Asks w0 b2 bb W sv S bv B))(hS:S.length≤s)
  (hIH:Hid (∀(T':Nat→Bool) (sv' bv':Value) (S' B':List (List Nat)) (w:World) (k:Int),k=((s+1:Nat):Int)→S'.length≤s+1→Asks w0 b2 bb w sv' S' bv' B'→CallsIn Fc 0 Tryz.prog 115 #[.int .i64 k,.agg (tkCells T'),sv',ptr bc,ptr bb,ptr bo,ptr bt] w (zkc w0 b2 bb w sv' S' bv' (tryE n O d T' S' B')))) :
  CallsIn Fc 0 Tryz.prog 115 #[.int .i64 s,.agg (tkCells T),sv,ptr bc,ptr bb,ptr bo,ptr bt] W (zkc w0 b2 bb W sv S bv (tryE n O (d+1) T S B)):=by
 obtain⟨i0,hi0,hz0,hz1,hz2⟩:=info_parts it27;have HI0:=Lib.hid hi0;have HZ0:=Lib.hid hz0;have HZ1:=Lib.hid hz1;have HZ2:=Lib.hid hz2;clear hi0 hz0 hz1 hz2;have hen:=hE.out.at_ ha.out.old;have q4:=hen.c4;have k4:=World.block_lt_of_cell? W _ q4;have q6:=hen.mo;have k6:=World.block_lt_of_cell? W _ q6;have q7:=hen.mt;have k7:=World.block_lt_of_cell? W _ q7;have hmap:=hen.map;obtain⟨LO,lo,hval⟩:=zeb (hen.sets s).choose_spec.1;have hbt:Below W.heap.size W (W.alloc (.cells (tkCells T) 127)):=(Below.refl _ _).alloc (Nat.le_refl _) _;have HBT:=Lib.hid hbt;have HA1:=Lib.hid (ha.out.below hbt);have htk:(W.alloc (.cells (tkCells T) 127)).heap[W.heap.size]? = some (.cells (tkCells T) 127 (0,0)):=zG rfl;have q8:=tk_at htk (s:=s) (by omega);have HTK:=Lib.hid htk;have HEN:=Lib.hid hen
 have hm1:MapAt (W.alloc (.cells (tkCells T) 127)) r l:=by obtain⟨cl,h⟩:=hmap;exact⟨cl,(Below.heap_alloc _ _ _ (Array.getElem?_eq_some_iff.1 h).1).trans h⟩
 have HM1:=Lib.hid hm1;have hsI:¬((s:Int)=(n:Int)):=by omega
 have hs9:s<9:=by omega
 have e1:n-(d+1)=s:=by omega
 rw[tryE,e1];clear hen htk hmap hm1 hbt;obtain hT|hT:T s=true∨T s=false:=by cases T s<;>simp
 ·rw[hT] at q8;rw[if_pos hT];have HT:=Lib.hid hT;clear hT;have f8:(W.alloc (.cells (tkCells T) 127)).frozen? ⟨W.heap.size,s,none⟩=false:=yO HTK.out;have hbT:Below W.heap.size W (W.alloc (.cells ((tkCells T).setIfInBounds s (.bool true)) 127)):=(Below.refl _ _).alloc (Nat.le_refl _) _;have hkT:(W.alloc (.cells ((tkCells T).setIfInBounds s (.bool true)) 127)).heap[W.heap.size]? = some (.cells ((tkCells T).setIfInBounds s (.bool true)) 127 (0,0)):=zG rfl;have hcall:=hIH.out (updT T s) sv bv S B (W.alloc (.cells ((tkCells T).setIfInBounds s (.bool true)) 127)) ((s:Int)+1) (by omega) (by omega) (ha.out.below hbT);rw[←yVb hs9] at hcall;simp only[ptr] at hcall;have HC:=Lib.hid hcall;have HKT:=Lib.hid hkT;have HB:=Lib.hid hbT;clear hbT hkT hcall;gi_enter Tryz.func115,Tryz.ntmps115;simp only[ptr]
  gi_wp2_with (first
   |(refine zV rfl _ rfl _ _ rfl HKT.out (by simp[tkCells]) ?_)
   |(gi_at_call 115;refine HC.out.mono ?_;rintro e w6 ⟨rfl,h6⟩;have H6:=Lib.hid h6;clear h6))
  go_end0;exact⟨rfl,H6.out.below HB.out⟩
 ·rw[hT] at q8;rw[if_neg (by rw[hT];decide)];have HT:=Lib.hid hT;clear hT;gi_enter Tryz.func115,Tryz.ntmps115;simp only[ptr]
  gi_wp2_with (refine yq rfl _ _ rfl r s l rfl rfl HM1.out ?_;rw[hval])
  gi_loopw [34] (fun y wr=>∃(i:Nat) (bv1:Value) (B1:List (List Nat)),i≤(O s).length∧y=.int .i64 i∧tryL n O d T S ((O s).drop i) B1=tryL n O d T S (O s) B∧Asks w0 b2 bb wr sv S bv1 B1∧(∀ g,bv1.ownBlock=some g→bv.ownBlock=some g∨W.heap.size+1≤g)∧Kept [bb] sv.ownBlock (W.alloc (.cells (tkCells T) 127)) wr) (fun y _=>(O s).length-(intOf y).toNat)
  case atStart=>exact⟨0,bv,B,by omega,rfl,rfl,HA1.out,fun g hg=>.inl hg,Kept.refl _ _ _⟩
  case round=>
   obtain⟨i,bv1,B1,hi,rfl,htl,hask,hbv,hkept⟩:=hrel;have HASK:=Lib.hid hask;have HTL:=Lib.hid htl;have HBV:=Lib.hid hbv;have HKEPT:=Lib.hid hkept;have hen:=hE.out.at_ hask.old;have q4:=hen.c4;have q6:=hen.mo;have q7:=hen.mt;have hsvlt:=fun g (hg:sv.ownBlock=some g)=>ha.out.share.own hg
   have hWbb:W.heap.size≠bb:=by have:=ha.out.bbs;omega
   have htk:wr.heap[W.heap.size]? = some (.cells (tkCells T) 127 (0,0)):=(hkept.block _ (by simp) (by simpa using hWbb) fun e=>by have:=(hsvlt _ e).2;omega).trans HTK.out;have HTK1:=Lib.hid htk;have q8:=tk_at htk (s:=s) (by omega);rw[HT.out] at q8;have hl:=hE.out.row hask.old s;clear htl hask hbv hkept htk hsvlt hen;by_cases hlt:i<(O s).length
   ·obtain⟨vs,hown,hel⟩:=hl;rw[hval] at hown;obtain⟨x,hx⟩:∃ x,(O s).getD i []=x:=⟨_,rfl⟩;obtain⟨u,hu⟩:∃ u,vs.getD i undef=u:=⟨_,rfl⟩;obtain⟨hel0,helx⟩:=hel i hlt;rw[hx,hu] at helx hel0;obtain⟨LX,kx,rfl,hkx,hints⟩:=helx.shape;obtain⟨_,⟨e,e0⟩|⟨gv,cap,cur,e,hbg,hgv,hcc,_⟩⟩:=id hown
    ·exfalso;omega
    cases e;have hc0:=hown.cellAt i (by omega);have hcell:wr.cell? ⟨gv,i,none⟩=some (.slice LX x.length kx):=by
     rw[hc0,←hu,List.getD_eq_getElem?_getD];have hv:i<vs.length:=by have:=hown.1;omega
     rw[List.getElem?_eq_getElem hv];rfl
    have hdr:(O s).drop i=x::(O s).drop (i+1):=by rw[yRb hlt,hx]
    have hx9:x.length≤9:=by rw[←hx];exact(hE.out.few s).2.1 i
    have hx9':∀ k,k<x.length→x.getD k 0<9:=by rw[←hx];exact(hE.out.few s).2.2 i
    have HINTS:=Lib.hid hints;have HELX:=Lib.hid hel0;have HDR:=Lib.hid hdr;have HX:=Lib.hid hx;have hiI:(i:Int)<((O s).length:Int):=by omega
    have h5000:i<5000:=by have:=(hE.out.few s).1;omega
    have hwith:=fun w hh=>with_any T x LX kx w hh hx9' hx9 hkx
    have htl:=HTL.out;rw[HDR.out] at htl;simp only[tryL,List.foldl_cons] at htl;clear hints helx hel0 hdr hx hu hel hown hgv hc0 hx9' HTL;obtain hfr|hfr:freeT T x=true∨freeT T x=false:=by cases freeT T x<;>simp
    ·have hw2:∀ w,zca w LX x.length (fun k=>((x.getD k 0:Nat):Int))→CallsIn Fc 0 Tryz.prog 119 #[.agg (tkCells T),.slice LX x.length kx] w fun e w'=>e=.returned (.tuple #[.agg (litT (withT T x)),.bool true])∧Below w.heap.size w w':=fun w hh=>by refine(hwith w hh).mono ?_;rintro e w' ⟨h1,h2⟩;rw[hfr] at h1;exact⟨h1,h2⟩
     have HW:=Lib.hid hw2;rw[if_pos hfr] at htl;have HTL:=Lib.hid htl;clear hwith hw2 hfr htl;obtain⟨T2,hT2⟩:∃ T2,withT T x=T2:=⟨_,rfl⟩;rw[hT2] at HW HTL;clear hT2
     gi_wp2_with (first
      |(refine zV rfl _ rfl _ _ rfl HTK1.out rfl ?_)
      |(gi_at_call 119;refine(HW.out _ HINTS.out).mono ?_;rintro e w3 ⟨rfl,hb3⟩;have HB3:=Lib.hid hb3;clear hb3;unfold litT))
     obtain⟨w4,hw4⟩:∃ w4,w4=w3.alloc (.cells #[.bool (T2 0),.bool (T2 1),.bool (T2 2),.bool (T2 3),.bool (T2 4),.bool (T2 5),.bool (T2 6),.bool (T2 7),.bool (T2 8)] 127):=⟨_,rfl⟩;rw[←hw4];have hb4:Below wr.heap.size wr w4:=by rw[hw4];exact HB3.out.alloc HB3.out.size _
     have hblk:w4.heap[w3.heap.size]? = some (.cells (tkCells T2) 127 (0,0)):=by rw[hw4];exact zG rfl
     have hlt3:w3.heap.size<w4.heap.size:=by rw[hw4];simp
     have HA4:=Lib.hid (HASK.out.below hb4);have hs3:sv.ownBlock≠some w3.heap.size:=fun e=>by have:=(HASK.out.share.own e).2;have:=HB3.out.size;omega
     have HBLK:=Lib.hid hblk;have HB4:=Lib.hid hb4;clear hw4 hblk hb4;have hS9:S.length<9:=by omega
     obtain⟨vs4,hown4,hel4⟩:=id HA4.out.share;have HOWN4:=Lib.hid hown4;have HEL4:=Lib.hid hel4;clear hown4 hel4;refine zsa (R:=[.val 45 (.func (.func 115) #[] #[ptr bc,ptr bb,ptr bo,ptr bt]),.val 46 (.int .i64 s),.val 47 (.int .i64 (s+1)),.val 48 (.agg (tkCells T2)),.val 49 sv,.val 50 (.slice LX x.length kx),.any 51,.any 52,.any 53])
      (I:=fun Lb V w=>(Lb 7=false→Below w4.heap.size w4 w∧(Lb 6=true→w.ownsRow w4.heap.size 27 1 (V 6) 1 [.slice LX x.length kx]))∧(Lb 7=true→Lb 8=false→zdc w0 b2 sv (V 7) S x w4 w)∧(Lb 8=true→Tried w0 b2 bb w4 w sv S bv1 (tryE n O d T2 (S++[x]) B1))) (z:=63) (by kernel_rfl) (by kernel_rfl) rfl (by kernel_rfl) rfl rfl ⟨fun _=>⟨(Below.refl _ _).drew,fun h=>by cases h⟩,(fun h=>by cases h),(fun h=>by cases h)⟩ ?_ ?_
     ·intro j Lb V a w hj hno hdep hah hd0 hz hold hv hV hI;have HI:=Lib.hid hI;have s0:=zc hz (hold 0 (by kernel_rfl)) (by omega);have s2:=zc hz (hold 2 (by kernel_rfl)) (by omega);have s6:=zc hz (hold 6 (by kernel_rfl)) (by omega);have s11:=zc hz (hold 11 (by kernel_rfl)) (by omega);have h12:=hold 12 (by kernel_rfl);clear hold;have hjs:j=0∨j=1∨j=2∨j=3∨j=4∨j=5∨j=6∨j=7∨j=8:=by have:j<9:=hj;omega
      rcases hjs with rfl|rfl|rfl|rfl|rfl|rfl|rfl|rfl|rfl
      ·have ho:=old_at hbb HA4.out hS9 hx9 HI.out.1 HI.out.2.1 (hah 8 (by kernel_rfl) rfl);have q7:=(hE.out.at_ ho).mt;clear hdep hah hv hV hno hI;refine wpOpIn_step rfl fun K hK=>?_
       go_simp;exact hK _ _ ⟨rfl,rfl,HI.out⟩
      ·clear hdep hah hv hV hno hI;refine wpOpIn_step rfl fun K hK=>?_
       go_simp;exact hK _ _ ⟨rfl,rfl,HI.out⟩
      ·have f46:=zc hz (hv 1 46 _ (by kernel_rfl) rfl) (by omega);have hwr:=wrapS s (by omega);clear hdep hah hv hV hno hI;refine wpOpIn_step rfl fun K hK=>?_
       go_simp;exact hK _ _ ⟨rfl,rfl,HI.out⟩
      ·have hblk:=(blk_at hlt3 hs3 HI.out.1 HI.out.2.1 (hah 8 (by kernel_rfl) rfl)).trans HBLK.out;refine wpOpIn_load127 rfl rfl _ rfl _ _ (h12.trans rfl) hblk rfl ?_;exact⟨hd0,rfl,HI.out⟩
      ·clear hdep hah hv hV hno hI;refine wpOpIn_step rfl fun K hK=>?_
       go_simp;exact hK _ _ ⟨rfl,rfl,HI.out⟩
      ·clear hdep hah hv hV hno hI;refine wpOpIn_step rfl fun K hK=>?_
       go_simp;exact hK _ _ ⟨rfl,rfl,HI.out⟩
      ·have f50:=zc hz (hv 5 50 _ (by kernel_rfl) rfl) (by omega);have h8:=hah 8 (by kernel_rfl) rfl;have h7:=hah 7 (by kernel_rfl) rfl;obtain⟨hbw,_⟩:=HI.out.1 h7;clear hdep hah hv hV hno hI;refine wpOpIn_step rfl fun K hK=>?_
       go_simp;exact hK _ _ ⟨rfl,_,rfl,⟨(fun h=>⟨hbw.alloc hbw.size _,fun _=>yka hbw.size⟩),(fun h=>by rw[show updB Lb 6 7=Lb 7 from rfl,h7] at h;cases h),(fun h=>by rw[show updB Lb 6 8=Lb 8 from rfl,h8] at h;cases h)⟩⟩
      ·have f49:=zc hz (hv 4 49 _ (by kernel_rfl) rfl) (by omega);have k6:=hdep 6 (by kernel_rfl) rfl;have f51:=zc hz (hV 6 51 rfl) (by omega);have h8:=hah 8 (by kernel_rfl) rfl;have h7:=hno rfl;obtain⟨hbw,ho⟩:=HI.out.1 h7;have ho:=ho k6;refine yd rfl rfl _ _ 40 rfl w0.heap.size 27 i0 (.slice none 0 0) 1 24 ut40 HI0.out HZ0.out HZ1.out HZ2.out rfl (by decide) sv S.length vs4 (hv 4 49 _ (by kernel_rfl) rfl) (zu HOWN4.out hbw) (V 6) w4.heap.size 1 [.slice LX x.length kx] (hV 6 51 rfl) (by omega) ho (by intro u hu;rcases List.mem_singleton.1 hu with rfl;rfl) (by simp[maxLen];omega) (by omega) (Nat.le_trans HA4.out.old.size hbw.size) ?_;intro v' w' r1 r2 r3 r4
       exact⟨hd0,_,rfl,⟨(fun h=>by cases h),(fun _ _=>afterR_of hbw HEL4.out HELX.out r1 r2 r3 r4),(fun h=>by rw[show updB Lb 7 8=Lb 8 from rfl,h8] at h;cases h)⟩⟩
      ·have f45:=zc hz (hv 0 45 _ (by kernel_rfl) rfl) (by omega);have k7:=hdep 7 (by kernel_rfl) rfl;have f52:=zc hz (hV 7 52 rfl) (by omega);have f47:=zc hz (hv 2 47 _ (by kernel_rfl) rfl) (by omega);have f48:=zc hz (hv 3 48 _ (by kernel_rfl) rfl) (by omega);have h8:=hno rfl;have haf:=HI.out.2.1 k7 h8;have hasks:=haf.asks hbb HA4.out hS9 hx9;clear hdep hah hv hV hno hI;refine wpOpIn_step rfl fun K hK=>?_
       go_simp;refine(hIH.out T2 (V 7) bv1 (S++[x]) B1 w _ (by omega) (by simp;omega) hasks).mono ?_;rintro e w1 ⟨rfl,hw⟩;exact hK _ _ ⟨rfl,_,rfl,⟨(fun h=>by rw[show updB Lb 8 7=Lb 7 from rfl,k7] at h;cases h),(fun _ h=>by cases h),fun _=>haf.tried hbb HA4.out hw⟩⟩
     intro Lb V w5 hL hI;have HT5:=Lib.hid (hI.2.2 (hL 8 rfl));clear hI hL;simp only[outsG,List.foldl_cons,List.foldl_nil,List.setIfInBounds_toArray,List.set_cons_succ,List.set_cons_zero];gi_wp2;obtain⟨bv2,hask2,hbv2⟩:=HT5.out.asks hbb HA4.out;have hz4:=HB4.out.size;have hz1:W.heap.size+1≤wr.heap.size:=by have:=HKEPT.out.size;simpa using this
     refine⟨⟨i+1,bv2,_,by omega,rfl,HTL.out,hask2,fun g hg=>?_,?_⟩,by show(O s).length-(intOf (Value.int IntKind.i64 ((i:Int)+1))).toNat<(O s).length-(intOf (Value.int IntKind.i64 (i:Int))).toNat;simp only[intOf];omega⟩
     ·rcases hbv2 g hg with h|h
      ·exact HBV.out g h
      ·exact .inr (by omega)
     ·exact(HKEPT.out.trans (Kept.of_below [bb] sv.ownBlock HB4.out) (fun x hx _=>.inl hx) fun x hx _=>.inr hx).trans HT5.out.kept (fun x hx _=>.inl hx) fun x hx _=>.inr hx
    ·have hw2:∀ w,zca w LX x.length (fun k=>((x.getD k 0:Nat):Int))→CallsIn Fc 0 Tryz.prog 119 #[.agg (tkCells T),.slice LX x.length kx] w fun e w'=>e=.returned (.tuple #[.agg (litT fun _=>false),.bool false])∧Below w.heap.size w w':=fun w hh=>by refine(hwith w hh).mono ?_;rintro e w' ⟨h1,h2⟩;rw[hfr] at h1;exact⟨h1,h2⟩
     have HW:=Lib.hid hw2;rw[if_neg (by rw[hfr];decide)] at htl;have HTL:=Lib.hid htl;clear hwith hw2 hfr htl
     gi_wp2_with (first
      |(refine zV rfl _ rfl _ _ rfl HTK1.out rfl ?_)
      |(gi_at_call 119;refine(HW.out _ HINTS.out).mono ?_;rintro e w3 ⟨rfl,hb3⟩;have HB3:=Lib.hid hb3;clear hb3;unfold litT))
     have hz1:W.heap.size+1≤wr.heap.size:=by have:=HKEPT.out.size;simpa using this
     have hb4:Below wr.heap.size wr (w3.alloc (.cells #[.bool false,.bool false,.bool false,.bool false,.bool false,.bool false,.bool false,.bool false,.bool false] 127)):=HB3.out.alloc HB3.out.size _;refine⟨⟨i+1,bv1,_,by omega,rfl,HTL.out,HASK.out.below hb4,HBV.out,?_⟩,by show(O s).length-(intOf (Value.int IntKind.i64 ((i:Int)+1))).toNat<(O s).length-(intOf (Value.int IntKind.i64 (i:Int))).toNat;simp only[intOf];omega⟩;exact HKEPT.out.trans (Kept.of_below [bb] sv.ownBlock hb4) (fun x hx _=>.inl hx) fun x hx _=>.inr hx
   ·have hiI:¬(i:Int)<((O s).length:Int):=by omega
    obtain rfl:i=(O s).length:=by omega
    clear hl;have f8:wr.frozen? ⟨W.heap.size,s,none⟩=false:=yO HTK1.out;have hput:=tk_put HTK1.out hs9;have hlt1:W.heap.size<wr.heap.size:=(Array.getElem?_eq_some_iff.1 HTK1.out).1;have hz1:W.heap.size+1≤wr.heap.size:=by have:=HKEPT.out.size;simpa using this
    have hn1:sv.ownBlock≠some W.heap.size:=fun e=>by have:=(ha.out.share.own e).2;omega
    have hn2:bv1.ownBlock≠some W.heap.size:=fun e=>by
     rcases HBV.out _ e with h|h
     ·have:=(ha.out.best.2.own h).2;omega
     ·omega
    have hasS:Asks w0 b2 bb (wr.setCell ⟨W.heap.size,s,none⟩ (.bool true)) sv S bv1 B1:=HASK.out.set hbb ha.out.old.size hn1 hn2 hput;have hkS:(wr.setCell ⟨W.heap.size,s,none⟩ (.bool true)).heap[W.heap.size]? = some (.cells (tkCells (updT T s)) 127 (0,0)):=by rw[hput];exact World.putObj_heap_same hlt1
    have q7S:=(hE.out.at_ hasS.old).mt;have hkp:Kept [bb] sv.ownBlock W (wr.setCell ⟨W.heap.size,s,none⟩ (.bool true)):=by have hk:=HKEPT.out;rw[hput];refine⟨hk.os,hk.tape,hk.output,by rw[World.putObj_size];omega,fun k hlt a b=>?_⟩;exact(World.putObj_heap_other (by omega)).trans ((hk.block k (by simp;omega) a b).trans (Below.heap_alloc _ _ _ hlt))
    have hcall:=hIH.out (updT T s) sv bv1 S B1 (wr.setCell ⟨W.heap.size,s,none⟩ (.bool true)) ((s:Int)+1) (by omega) (by omega) hasS;simp only[ptr] at hcall;have hB:B1=tryL n O d T S (O s) B:=by have h:=HTL.out;rw[List.drop_length] at h;exact h
    have HB:=Lib.hid hB;have HC:=Lib.hid hcall;have HKS:=Lib.hid hkS;have HKP:=Lib.hid hkp;clear hB hcall hkS hkp hput hasS hn1 hn2
    gi_wp2_with (first
     |(refine zV rfl _ rfl _ _ rfl HKS.out rfl ?_)
     |(gi_at_call 115;refine HC.out.mono ?_;rintro e w6 ⟨rfl,h6⟩;have H6:=Lib.hid h6;clear h6))
    go_end0;refine⟨rfl,?_⟩;have h:=H6.out;rw[HB.out] at h;exact Tried.trans HKP.out (fun g hg=>(HBV.out g hg).imp id fun h=>by omega) h
theorem yIb(hn:n≤9)(hE:Hid (zbc w0 b1 b2 bc bb bo bt r n c A l O))(hbb:bb<w0.heap.size):∀(d s:Nat) (k:Int) (T:Nat→Bool) (sv bv:Value) (S B:List (List Nat)) (W:World),k=(s:Int)→s≤n→n-s=d→S.length≤s→Asks w0 b2 bb W sv S bv B →
  CallsIn Fc 0 Tryz.prog 115 #[.int .i64 k,.agg (tkCells T),sv,ptr bc,ptr bb,ptr bo,ptr bt] W (zkc w0 b2 bb W sv S bv (tryE n O d T S B))
 |0,s,k,T,sv,bv,S,B,W,hk,hs,hd,hS,ha=>by
  obtain rfl:s=n:=by omega
  subst hk;exact try_end hn hE hbb T sv bv S B W (Lib.hid ha)
 |d+1,s,k,T,sv,bv,S,B,W,hk,hs,hd,hS,ha=>by subst hk;exact try_step hn hE hbb d s (by omega) hd T sv bv S B W (Lib.hid ha) hS (Lib.hid fun T' sv' bv' S' B' w k' h1 h2 h3=>yIb hn hE hbb d (s+1) k' T' sv' bv' S' B' w h1 (by omega) (by omega) h2 h3)
end
end
section
open Go.RowKit
theorem yUa{n m:Nat}:∀(d:Nat) (x y:List Nat),d≤n→(∀ a,a∈x→a<n)→y∈loopE n m d x→∀ a,a∈y→a<n
 |0,x,y,_,_,h=>by cases h
 |d+1,x,y,hd,hx,h=>by
  have hx1:∀ a,a∈x++[n-(d+1)]→a<n:=fun a ha=>by
   rcases List.mem_append.1 ha with h|h
   ·exact hx a h
   ·rcases List.mem_singleton.1 h with rfl;omega
  rw[loopE,List.mem_append] at h;rcases h with h|h
  ·split at h
   ·rcases List.mem_singleton.1 h with rfl;exact hx1
   ·exact yUa d _ y (by omega) hx1 h
  ·exact yUa d x y (by omega) hx h
theorem ynb{n m:Nat}{y:List Nat}(h:y∈extE n m n []):∀ a,a∈y→a<n:=by
 unfold extE at h;split at h
 ·rcases List.mem_singleton.1 h with rfl;intro a ha;cases ha
 ·exact yUa n [] y (Nat.le_refl _) (fun a ha=>by cases ha) h
theorem setsL_lt{P:Nat→Int}{n m:Nat}(hn:n≤9)(k j:Nat)(hj:j<((setsL P n m).getD k []).length):((setsL P n m).getD k []).getD j 0<9:=by
 obtain⟨y,hy⟩:∃ y,(setsL P n m).getD k []=y:=⟨_,rfl⟩;rw[hy] at hj ⊢;rw[List.getD_eq_getElem?_getD] at hy;cases h:(setsL P n m)[k]? with
 |none=>rw[h] at hy;subst hy;simp at hj
 |some z=>rw[h] at hy;have hyz:z=y:=hy;subst hyz;have hm:z∈extE n m n []:=(List.mem_filter.1 (List.mem_of_getElem? h)).1;have:z[j]<n:=ynb hm _ (List.getElem_mem hj);rw[List.getD_eq_getElem?_getD,List.getElem?_eq_getElem hj];show z[j]<9;omega
theorem yMb{p:List Nat→Prop}{M:List (List Nat)}{E:Evs}{s:Nat}(h0:p [])(h:∀ k,p (M.getD k []))(k:Nat):p ((ofE M E s).getD k []):=by
 rw[List.getD_eq_getElem?_getD];cases e:(ofE M E s)[k]? with
 |none=>exact h0
 |some y=>obtain⟨ev,_,rfl⟩:=List.mem_map.1 (List.mem_of_getElem? e);exact h _
def zab(P:Nat→Int)(n m:Nat)(s:Nat):List (List Nat):=ofE (setsL P n m) (evs (setsL P n m) (setsL P n m).length 0) s
theorem setsOfL_few{P:Nat→Int}{n m:Nat}(hn:n≤9)(s:Nat):(zab P n m s).length≤5000∧(∀ k,((zab P n m s).getD k []).length≤9)∧∀ k j,j<((zab P n m s).getD k []).length→((zab P n m s).getD k []).getD j 0<9:=by
 refine⟨?_,?_,?_⟩
 ·have h1:=yob (M:=setsL P n m) (N:=512) (B:=9) (zBb hn) (zcb hn) (setsL P n m).length;have h2:=yLb (setsL P n m) (evs (setsL P n m) (setsL P n m).length 0) s;have h3:=zBb (P:=P) (m:=m) hn;unfold zab;omega
 ·exact yMb (p:=fun y=>y.length≤9) (by simp) (zcb hn)
 ·exact yMb (p:=fun y=>∀ j,j<y.length→y.getD j 0<9) (by simp) (setsL_lt hn)
def zPb(P:Nat→Int)(n m:Nat)(T:Nat→Bool):List (List Nat):=tryE n (zab P n m) n T [] []
def SaysShare(M:List (List Nat))(W:World)(e:Ending)(w':World):Prop:=∃ v,e=.returned v∧zS w' W.heap.size W.heap.size v M∧Few M∧Below W.heap.size W w'
def shareW(w3:World)(b0 r:Nat):World:=((w3.alloc (.cells #[.map (some r)] 161)).alloc (.cells #[.slice none 0 0] 40)).alloc (.cells #[.func (.func 115) #[] #[ptr b0,ptr (w3.heap.size+1),ptr w3.heap.size,ptr (w3.heap.size+1+1)]] 163)
theorem few_nil:Few []:=⟨by simp,fun k=>by simp⟩
theorem share_call{rs rl rw:Int}{A:Option Addr}{n c r:Nat}{P:Nat→Int}{m b0 z:Nat}{T:Nat→Bool}{w3:World}{l:Ents}(hn:n≤9)(hck:w3.heap[b0]? = some (.cells (ckCells rs rl rw m A n c P) 106 (0,0)))(hm:MapAt w3 r l)(hs:∀ s,zS w3 z z (valAt l s) (zab P n m s)) :
  CallsIn Fc 0 Tryz.prog 115 #[.int .i64 0,.agg (tkCells T),.slice none 0 0,ptr b0,ptr (w3.heap.size+1),ptr w3.heap.size,ptr (w3.heap.size+1+1)] (shareW w3 b0 r) (zkc (shareW w3 b0 r) z (w3.heap.size+1) (shareW w3 b0 r) (.slice none 0 0) [] (.slice none 0 0) (zPb P n m T)):=by
 have hsz:(shareW w3 b0 r).heap.size=w3.heap.size+3:=by simp[shareW]
 have hb:Below w3.heap.size w3 (shareW w3 b0 r):=(((Below.refl _ _).alloc (Nat.le_refl _) _).alloc (by simp) _).alloc (by simp;omega) _;have hlt:=(Array.getElem?_eq_some_iff.1 hck).1;have hbb:(shareW w3 b0 r).heap[w3.heap.size+1]? = some (.cells #[.slice none 0 0] 40 (0,0)):=zp (zG (by simp));have hbo:(shareW w3 b0 r).heap[w3.heap.size]? = some (.cells #[.map (some r)] 161 (0,0)):=zp (zp (zG rfl));have hbt:(shareW w3 b0 r).heap[w3.heap.size+1+1]? = some (.cells #[.func (.func 115) #[] #[ptr b0,ptr (w3.heap.size+1),ptr w3.heap.size,ptr (w3.heap.size+1+1)]] 163 (0,0)):=zG (by simp);have hE:zbc (shareW w3 b0 r) z z b0 (w3.heap.size+1) w3.heap.size (w3.heap.size+1+1) r n c A l (zab P n m):=by
  refine⟨zVa ((hb.block _ hlt).trans hck) (i:=4) (by decide),by simp[World.cell?,hbo],by simp[World.cell?,hbt],⟨_,hbb⟩,?_,fun s=>?_,setsOfL_few hn,by omega,by omega,by omega⟩
  ·obtain⟨cl,h⟩:=hm;exact⟨cl,(hb.block _ (Array.getElem?_eq_some_iff.1 h).1).trans h⟩
  ·exact(hs s).keep (fun g hg=>hb.block _ ((hs s).own hg).2) fun k cs fz hc=>hb.block _ (Array.getElem?_eq_some_iff.1 hc).1
 exact yIb hn (Lib.hid hE) (by omega) n 0 0 T _ _ [] [] _ rfl (by omega) (by omega) (by simp) ⟨Kept.refl _ _ _,⟨hbb,Row.nil _ _ _⟩,⟨few_nil,few_nil⟩,Row.nil _ _ _,fun g hg=>by cases hg⟩
theorem share_any(rs rl rw:Int)(A:Option Addr)(n c:Nat)(P:Nat→Int)(m:Nat)(T:Nat→Bool)(W:World)(hn:n≤9) :
  CallsIn Fc 0 Tryz.prog 71 #[.agg (ckCells rs rl rw m A n c P),.agg (tkCells T)] W (SaysShare (zPb P n m T) W):=by
 have hset:=setsOf_any rs rl rw A n c P m ((W.alloc (.cells (ckCells rs rl rw m A n c P) 106)).alloc (.cells (tkCells T) 127)) hn;have hk0:((W.alloc (.cells (ckCells rs rl rw m A n c P) 106)).alloc (.cells (tkCells T) 127)).heap[W.heap.size]? = some (.cells (ckCells rs rl rw m A n c P) 106 (0,0)):=zp (zG rfl);have hk1:((W.alloc (.cells (ckCells rs rl rw m A n c P) 106)).alloc (.cells (tkCells T) 127)).heap[W.heap.size+1]? = some (.cells (tkCells T) 127 (0,0)):=zG (by simp);have hb0:Below W.heap.size W ((W.alloc (.cells (ckCells rs rl rw m A n c P) 106)).alloc (.cells (tkCells T) 127)):=((Below.refl _ _).alloc (Nat.le_refl _) _).alloc (by simp) _;have hs0:((W.alloc (.cells (ckCells rs rl rw m A n c P) 106)).alloc (.cells (tkCells T) 127)).heap.size=W.heap.size+2:=by simp
 have HSET:=Lib.hid hset;have HK0:=Lib.hid hk0;have HK1:=Lib.hid hk1;have HB0:=Lib.hid hb0;have HS0:=Lib.hid hs0;clear hset hk0 hk1 hb0 hs0;gi_enter Tryz.func71,Tryz.ntmps71
 gi_wp2_with (first
  |(refine zW rfl _ rfl _ _ rfl HK0.out (ck_size _ _ _ _ _ _ _ _) ?_)
  |(refine zV rfl _ rfl _ _ rfl (HK5.out _ _ _) rfl ?_)
  |(gi_at_call 114;refine HSET.out.mono ?_;rintro e w3 ⟨r,l,rfl,h1,h2,h3⟩;have hk5:∀ X Y Z,(((w3.alloc X).alloc Y).alloc Z).heap[W.heap.size+1]? = some (.cells (tkCells T) 127 (0,0)):=fun X Y Z=>zp (zp (zp ((h3.block _ (by rw[HS0.out];omega)).trans HK1.out)));have HK5:=Lib.hid (fun X Y Z=>hk5 X Y Z);have H1:=Lib.hid h1;have H2:=Lib.hid h2;have H3:=Lib.hid h3;clear h1 h2 h3 hk5))
 have hz3:=H3.out.size;rw[HS0.out] at hz3;have hcall:=share_call (rs:=rs) (rl:=rl) (rw:=rw) (A:=A) (c:=c) (T:=T) (b0:=W.heap.size) hn ((H3.out.block _ (by rw[HS0.out];omega)).trans HK0.out) H1.out H2.out;refine hcall.mono ?_;rintro e w9 ⟨rfl,h9⟩;obtain⟨bv,⟨hbest,hrow⟩,_⟩:=h9.best;obtain⟨LB,kb,rfl⟩:=zeb hrow.choose_spec.1;have q9:w9.cell? ⟨w3.heap.size+1,0,none⟩=some (.slice LB (zPb P n m T).length kb):=by simp[World.cell?,hbest]
 have HROW:=Lib.hid hrow;have H9:=Lib.hid h9;clear hbest hrow h9 hcall;gi_wp2;go_ret;have hk:=H9.out.kept;have hb3:=H3.out;have hb0:=HB0.out;have hs0:=HS0.out;have hsz:(shareW w3 W.heap.size r).heap.size=w3.heap.size+3:=by simp[shareW]
 have hb:Below w3.heap.size w3 (shareW w3 W.heap.size r):=(((Below.refl _ _).alloc (Nat.le_refl _) _).alloc (by simp) _).alloc (by simp;omega) _;have hbb:(shareW w3 W.heap.size r).heap[w3.heap.size+1]? = some (.cells #[.slice none 0 0] 40 (0,0)):=zp (zG (by simp));refine⟨_,rfl,?_,H9.out.few,?_⟩
 ·obtain⟨vs,h1,h2⟩:=HROW.out;refine⟨vs,?_,fun k hk'=>(Old.list (w0:=shareW w3 W.heap.size r) hk hbb (h2 k hk')).mono (by omega)⟩;obtain⟨q1,q2|⟨g',c',r',e,q3,q4⟩⟩:=h1
  ·exact⟨q1,.inl q2⟩
  ·exact⟨q1,.inr ⟨g',c',r',e,by omega,q4⟩⟩
 ·have z1:=hk.size;refine⟨hk.os.trans (hb.os.trans (hb3.os.trans hb0.os)),hk.tape.trans (hb.tape.trans (hb3.tape.trans hb0.tape)),hk.output.trans (hb.output.trans (hb3.output.trans hb0.output)),by omega,fun k hlt=>?_⟩;exact(hk.block k (by omega) (by simp;omega) (by intro e;cases e)).trans ((hb.block k (by omega)).trans ((hb3.block k (by omega)).trans (hb0.block k hlt)))
end
section
open Go.RowKit
def SaysStock(rs rl rw many:Int)(n:Nat)(sh:Nat→Shaft)(W:World)(e:Ending)(w':World):Prop:=∃ v:Int,e=.returned (.int .i64 v)∧(v=0→zxa rs rl rw many n sh)∧Below W.heap.size W w'
theorem CheckStock_any(rs rl rw many:Int)(A:Option Addr)(n c:Nat)(sh:Nat→Shaft)(W:World)(hc:n≤c)(hsh:Hid (zA W A n sh))(hnm:Hid (∀ k,k<n→(sh k).name.size≤100)) :
  CallsIn Fc 0 Tryz.prog 18 #[zga rs rl rw many A n c] W (SaysStock rs rl rw many n sh W):=by
 have hB2:∀ x y,Below W.heap.size W ((W.alloc x).alloc y):=fun x y=>((Below.refl _ _).alloc (Nat.le_refl _) _).alloc (by simp) _
 have HB2:=Lib.hid hB2;clear hB2;gi_enter Tryz.func18,Tryz.ntmps18;cases h1:inB rs 0 9999 with
 |false=>
  gi_wp2_with (gi_at_call 62;refine(zYa _ _ _ _).mono ?_;rintro e w' ⟨rfl,rfl⟩)
  go_ret;exact⟨1,rfl,fun h=>by simp at h,HB2.out _ _⟩
 |true=>
 cases h2:inB rl 0 9999 with
 |false=>
  gi_wp2_with (gi_at_call 62;refine(zYa _ _ _ _).mono ?_;rintro e w' ⟨rfl,rfl⟩)
  go_ret;exact⟨1,rfl,fun h=>by simp at h,HB2.out _ _⟩
 |true=>
 cases h3:inB rw 0 9999 with
 |false=>
  gi_wp2_with (gi_at_call 62;refine(zYa _ _ _ _).mono ?_;rintro e w' ⟨rfl,rfl⟩)
  go_ret;exact⟨1,rfl,fun h=>by simp at h,HB2.out _ _⟩
 |true=>
 cases h4:inB many 2 4 with
 |false=>
  gi_wp2_with (gi_at_call 62;refine(zYa _ _ _ _).mono ?_;rintro e w' ⟨rfl,rfl⟩)
  go_ret;exact⟨1,rfl,fun h=>by simp at h,HB2.out _ _⟩
 |true=>
 by_cases hn:(n:Int)>9
 ·gi_wp2_with (gi_at_call 62;refine(zYa _ _ _ _).mono ?_;rintro e w' ⟨rfl,rfl⟩)
  go_ret;exact⟨2,rfl,fun h=>by simp at h,HB2.out _ _⟩
 ·have hn9:n≤9:=by omega
  have HRU:Hid (yOa rs rl rw many):=Lib.hid (by simp[inB] at h1 h2 h3 h4;exact⟨h1.1,h1.2,h2.1,h2.2,h3.1,h3.2,h4.1,h4.2⟩)
  gi_wp2_with (gi_at_call 62;refine(zYa _ _ _ _).mono ?_;rintro e w' ⟨rfl,rfl⟩)
  clear h1 h2 h3 h4
  gi_loopw [4] (fun i wr=>∃ k:Nat,k≤n∧i=.int .i64 k∧wr.cell? ⟨W.heap.size,4,none⟩=some (.slice A n c)∧Below W.heap.size W wr∧(∀ j,j<k→yxa (sh j))∧∀ j i,j<i→i<k→((sh j).name.toList==(sh i).name.toList)=false) (fun i _=>n-(intOf i).toNat)
  case atStart=>exact⟨0,by omega,rfl,by go_simp,HB2.out _ _,fun j h=>by omega,fun j i _ h=>by omega⟩
  case round=>
   obtain⟨k,hk,rfl,c4,hb,hok,hon⟩:=hrel
   rename World=>wq
   have HB:=Lib.hid hb;have HOK:=Lib.hid hok;have HON:=Lib.hid hon;have hs:=hb.size;have hsz:W.heap.size<wq.heap.size:=World.block_lt_of_cell? wq _ c4;clear hb hok hon;by_cases hlt:k<n
   ·obtain⟨b,o,rfl,hx⟩:=hsh.out k hlt;obtain⟨x0,x1,x2,x3,x4,x5,x6⟩:=hx.below HB.out;have hlb:b<wq.heap.size:=World.block_lt_of_cell? wq _ x0
    gi_wp2_with (gi_at_call 63;refine(isName_any _ _ (by have:=hnm.out k hlt;simp[maxLen];omega)).mono ?_;rintro e w' ⟨nb,rfl,hnb,rfl⟩;cases nb)
    ·go_ret;exact⟨4,rfl,fun h=>by simp at h,HB.out.alloc (by omega) _⟩
    ·have HNK:=Lib.hid (hnb trivial);clear hnb hx
     gi_loopw [6] (fun i wi=>∃ j:Nat,j≤k∧i=.int .i64 j∧Below (wq.heap.size+1) (wq.alloc (.cells #[.string (sh k).name,.int .i64 (sh k).s0,.int .i64 (sh k).s1,.int .i64 (sh k).l0,.int .i64 (sh k).l1,.int .i64 (sh k).w0,.int .i64 (sh k).w1] 65)) wi∧∀ t,t<j→((sh t).name.toList==(sh k).name.toList)=false) (fun i _=>k-(intOf i).toNat)
     case atStart=>exact⟨0,by omega,rfl,Below.refl _ _,fun t h=>by omega⟩
     case round=>
      clear x0 x1 x2 x3 x4 x5 x6;obtain⟨j,hj,rfl,hbi,hne⟩:=hrel;have d4:wr.cell? ⟨W.heap.size,4,none⟩=some (.slice (some ⟨b,o,none⟩) n c):=by rw[hbi.cell (by simp;omega)];go_simp
      have y0:wr.cell? ⟨wq.heap.size,0,none⟩=some (.string (sh k).name):=by rw[hbi.cell (by simp)];go_simp
      have hsi:=hbi.size;simp at hsi;have HNE:=Lib.hid hne;have hbw:Below W.heap.size W wr:=(HB.out.alloc (by omega) _).trans (hbi.mono (by omega));have HBW:=Lib.hid hbw;have HBI:=Lib.hid hbi;clear hbi hbw hne c4;by_cases hlj:j<k
      ·obtain⟨b',o',e',hxj⟩:=hsh.out j (by omega);cases e';have z0:=(hxj.below HBW.out).h0;clear hxj;cases he:((sh j).name.toList==(sh k).name.toList) with
       |true=>
        gi_wp2
        gi_region_with fail
        all_goals
         gi_wp2;go_ret;exact⟨5,rfl,fun h=>by simp at h,HBW.out.drew⟩
       |false=>
        gi_wp2
        gi_region_with fail
        all_goals
         gi_wp2;go_roundw
         case rel=>exact⟨j+1,by omega,by go_num,HBI.out.drew,fun t ht=>by
          rcases Nat.lt_succ_iff_lt_or_eq.1 ht with ht|rfl
          ·exact HNE.out t ht
          ·exact he⟩
         case measure=>simp[intOf];omega
      ·obtain rfl:j=k:=by omega
       have y1:wr.cell? ⟨wq.heap.size,1,none⟩=some (.int .i64 (sh j).s0):=by rw[HBI.out.cell (by simp)];go_simp
       have y2:wr.cell? ⟨wq.heap.size,2,none⟩=some (.int .i64 (sh j).s1):=by rw[HBI.out.cell (by simp)];go_simp
       have y3:wr.cell? ⟨wq.heap.size,3,none⟩=some (.int .i64 (sh j).l0):=by rw[HBI.out.cell (by simp)];go_simp
       have y4:wr.cell? ⟨wq.heap.size,4,none⟩=some (.int .i64 (sh j).l1):=by rw[HBI.out.cell (by simp)];go_simp
       have y5:wr.cell? ⟨wq.heap.size,5,none⟩=some (.int .i64 (sh j).w0):=by rw[HBI.out.cell (by simp)];go_simp
       have y6:wr.cell? ⟨wq.heap.size,6,none⟩=some (.int .i64 (sh j).w1):=by rw[HBI.out.cell (by simp)];go_simp
       cases q1:insideB (sh j).s0 (sh j).s1 0 9999 with
       |false=>
        gi_wp2_with (gi_at_call 64;refine(yv _ _ _ _ _).mono ?_;rintro e w2 ⟨rfl,hb2⟩;(have d4:=Below.old hb2 d4);(have y3:=Below.old hb2 y3);(have y4:=Below.old hb2 y4);(have y5:=Below.old hb2 y5);(have y6:=Below.old hb2 y6);have HBW:=Lib.hid (HBW.out.trans (hb2.mono HBW.out.size));clear hb2)
        go_ret;exact⟨1,rfl,fun h=>by simp at h,HBW.out⟩
       |true=>
       cases q2:insideB (sh j).l0 (sh j).l1 0 9999 with
       |false=>
        gi_wp2_with (gi_at_call 64;refine(yv _ _ _ _ _).mono ?_;rintro e w2 ⟨rfl,hb2⟩;(have d4:=Below.old hb2 d4);(have y3:=Below.old hb2 y3);(have y4:=Below.old hb2 y4);(have y5:=Below.old hb2 y5);(have y6:=Below.old hb2 y6);have HBW:=Lib.hid (HBW.out.trans (hb2.mono HBW.out.size));clear hb2)
        go_ret;exact⟨1,rfl,fun h=>by simp at h,HBW.out⟩
       |true=>
       cases q3:insideB (sh j).w0 (sh j).w1 0 9999 with
       |false=>
        gi_wp2_with (gi_at_call 64;refine(yv _ _ _ _ _).mono ?_;rintro e w2 ⟨rfl,hb2⟩;(have d4:=Below.old hb2 d4);(have y3:=Below.old hb2 y3);(have y4:=Below.old hb2 y4);(have y5:=Below.old hb2 y5);(have y6:=Below.old hb2 y6);have HBW:=Lib.hid (HBW.out.trans (hb2.mono HBW.out.size));clear hb2)
        go_ret;exact⟨1,rfl,fun h=>by simp at h,HBW.out⟩
       |true=>
        gi_wp2_with (gi_at_call 64;refine(yv _ _ _ _ _).mono ?_;rintro e w2 ⟨rfl,hb2⟩;(have d4:=Below.old hb2 d4);(have y3:=Below.old hb2 y3);(have y4:=Below.old hb2 y4);(have y5:=Below.old hb2 y5);(have y6:=Below.old hb2 y6);have HBW:=Lib.hid (HBW.out.trans (hb2.mono HBW.out.size));clear hb2)
        go_roundw
        case rel=>
         refine⟨j+1,by omega,by go_num,d4,HBW.out,fun t ht=>?_,fun t i h5 h6=>?_⟩
         ·rcases Nat.lt_succ_iff_lt_or_eq.1 ht with ht|rfl
          ·exact HOK.out t ht
          ·simp[insideB,inB] at q1 q2 q3;exact⟨HNK.out,by omega,by omega,by omega,by omega,by omega,by omega,by omega,by omega,by omega⟩
         ·rcases Nat.lt_succ_iff_lt_or_eq.1 h6 with h6|rfl
          ·exact HON.out t i h5 h6
          ·exact HNE.out t h5
        case measure=>simp[intOf];omega
   ·obtain rfl:k=n:=by omega
    gi_wp2;go_ret;exact⟨0,rfl,fun _=>⟨HRU.out,hn9,HOK.out,HON.out⟩,HB.out⟩
end
section
open Go.RowKit
def SaysFit(rs rl rw many:Int)(n:Nat)(sh:Nat→Shaft)(W:World)(e:Ending)(w':World):Prop:=∃ b:Bool,e=.returned (.bool b)∧(b=true→zxa rs rl rw many n sh)∧Below W.heap.size W w'
theorem yUb(rs rl rw many:Int)(A:Option Addr)(n c:Nat)(sh:Nat→Shaft)(W:World)(hc:n≤c)(hsh:Hid (zA W A n sh)) :
    CallsIn Fc 0 Tryz.prog 33 #[zga rs rl rw many A n c] W (SaysFit rs rl rw many n sh W):=by
  have hB1:∀ x,Below W.heap.size W (W.alloc x):=fun x=>(Below.refl _ _).alloc (Nat.le_refl _) _
  have HB1:=Lib.hid hB1;clear hB1;gi_enter Tryz.func33,Tryz.ntmps33
  gi_wp2_with (first
    | (gi_at_call 13;refine(Great_any _ _ _ _ _ _ _ sh _ hc (Lib.hid (hsh.out.below (HB1.out _)))).mono ?_;rintro e w2 ⟨gb,rfl,hgb,hb2⟩
       have e0:w2.cell? ⟨W.heap.size,0,none⟩=some (.int .i64 rs):=Below.old hb2 (by go_simp);have e1:w2.cell? ⟨W.heap.size,1,none⟩=some (.int .i64 rl):=Below.old hb2 (by go_simp);have e2:w2.cell? ⟨W.heap.size,2,none⟩=some (.int .i64 rw):=Below.old hb2 (by go_simp);have e3:w2.cell? ⟨W.heap.size,3,none⟩=some (.int .i64 many):=Below.old hb2 (by go_simp);have e4:w2.cell? ⟨W.heap.size,4,none⟩=some (.slice A n c):=Below.old hb2 (by go_simp);have HB2:=Lib.hid ((HB1.out _).trans (hb2.mono (HB1.out _).size));have HGB:=Lib.hid hgb;clear hb2 hgb;cases gb)
    | (gi_at_call 18;refine(CheckStock_any _ _ _ _ _ _ _ sh _ hc (Lib.hid (hsh.out.below HB2.out)) (Lib.hid (HGB.out trivial).2)).mono ?_;rintro e w3 ⟨v,rfl,hv,hb3⟩
       have HB3:=Lib.hid (HB2.out.trans (hb3.mono HB2.out.size));have HV:=Lib.hid hv;clear hb3 hv))
  · go_ret;exact⟨v==0,rfl,fun h=>HV.out (by simpa using h),HB3.out⟩
  · go_ret;exact⟨false,rfl,fun h=>by simp at h,HB2.out⟩
end
section
open Go.RowKit
theorem bothZ_one(a b:Int):bothZ a b=1↔a=1∧b=1:=by
 unfold bothZ;by_cases h:a=2∨b=2
 ·rw[if_pos h];omega
 ·rw[if_neg h];by_cases h1:a=1∧b=1
  ·simp[h1]
  ·rw[if_neg h1];constructor
   ·intro h';omega
   ·intro h';exact absurd h' h1
theorem rowZ_one(T:Nat→Nat→Int)(l:Nat→Nat)(i:Nat)(s:Int):∀ j,rowZ T l i j s=1↔s=1∧∀ k,k<j→T (l k) (l i)=1
 |0=>by simp[rowZ]
 |j+1=>by
  rw[rowZ,bothZ_one,rowZ_one T l i s j];constructor
  ·rintro⟨⟨h,h1⟩,h2⟩;refine⟨h,fun k hk=>?_⟩;rcases Nat.lt_succ_iff_lt_or_eq.1 hk with hk|rfl
   ·exact h1 k hk
   ·exact h2
  ·rintro⟨h,h1⟩;exact⟨⟨h,fun k hk=>h1 k (by omega)⟩,h1 j (by omega)⟩
theorem listZ_one(T:Nat→Nat→Int)(l:Nat→Nat):∀ m,listZ T l m=1↔∀ j i,j<i→i<m→T (l j) (l i)=1
 |0=>by simp[listZ]
 |m+1=>by
  rw[listZ,rowZ_one,listZ_one T l m];constructor
  ·rintro⟨h1,h2⟩ j i hj hi;rcases Nat.lt_succ_iff_lt_or_eq.1 hi with hi|rfl
   ·exact h1 j i hj hi
   ·exact h2 j hj
  ·intro h;exact⟨fun j i hj hi=>h j i hj (by omega),fun k hk=>h k m hk (by omega)⟩
end
section
open Go.RowKit
theorem ydb(al a b c d:Int):nearZ al a b c d=1↔b-c≤al∧d-a≤al:=by
 unfold nearZ;split
 ·simp;omega
 ·split
  ·constructor
   ·intro h;omega
   ·intro h;omega
  ·constructor
   ·intro h;omega
   ·intro h;omega
theorem ycb(rs rl rw:Int)(x y:Shaft):pairZ rs rl rw x y=1↔∀ m,m<3→yOb rs rl rw x y m=1:=by
 unfold pairZ;simp only[upTo,bothZ_one];constructor
 ·rintro⟨⟨⟨_,h0⟩,h1⟩,h2⟩ m hm;have h3:m=0∨m=1∨m=2:=by omega
  rcases h3 with rfl|rfl|rfl<;>assumption
 ·intro h;exact⟨⟨⟨trivial,h 0 (by omega)⟩,h 1 (by omega)⟩,h 2 (by omega)⟩
structure SpansOk(x:Shaft):Prop where
 least:∀ m,m<3→0≤spanA x m
 up:∀ m,m<3→spanA x m≤spanB x m
 most:∀ m,m<3→spanB x m≤9999
theorem yxa.spans{x:Shaft}(h:yxa x):SpansOk x where
 least:=fun m hm=>by
  have h3:m=0∨m=1∨m=2:=by omega
  rcases h3 with rfl|rfl|rfl
  ·exact h.s0
  ·exact h.l0
  ·exact h.w0
 up:=fun m hm=>by
  have h3:m=0∨m=1∨m=2:=by omega
  rcases h3 with rfl|rfl|rfl
  ·exact h.s1
  ·exact h.l1
  ·exact h.w1
 most:=fun m hm=>by
  have h3:m=0∨m=1∨m=2:=by omega
  rcases h3 with rfl|rfl|rfl
  ·exact h.s2
  ·exact h.l2
  ·exact h.w2
def yTb(sh:Nat→Shaft)(n:Nat)(R:Nat→Nat→Int):Prop:=∀ j,j<n→∀ w,w<3→spanA (sh j) w≤R j w∧R j w≤spanB (sh j) w
def yHb(rs rl rw:Int)(R:Nat→Nat→Int)(l:Nat→Nat)(m:Nat):Prop:=∀ w,w<3→∀ i,i<m→∀ k,k<m→R (l i) w-R (l k) w≤allowOf rs rl rw w
theorem yOa.allow{rs rl rw many:Int}(h:yOa rs rl rw many)(w:Nat):0≤allowOf rs rl rw w:=by
 unfold allowOf;split
 ·exact h.s0
 ·exact h.l0
 ·exact h.w0
section
variable {rs rl rw many:Int}{n m:Nat}{sh:Nat→Shaft}{l:Nat→Nat}{R:Nat→Nat→Int}
theorem yGa:zoc rs rl rw sh l m=1↔∀ j i,j<i→i<m→∀ w,w<3→yOb rs rl rw (sh (l j)) (sh (l i)) w=1:=by unfold zoc;rw[listZ_one];exact⟨fun h j i h1 h2=>(ycb ..).1 (h j i h1 h2),fun h j i h1 h2=>(ycb ..).2 (h j i h1 h2)⟩
theorem matched_yes(hr:yOa rs rl rw many)(hl:∀ k,k<m→l k<n)(ht:yTb sh n R)(h:zoc rs rl rw sh l m=1):yHb rs rl rw R l m:=by
 intro w hw i hi k hk;have hal:=hr.allow w;have h1:=ht (l i) (hl i hi) w hw;have h2:=ht (l k) (hl k hk) w hw;rcases Nat.lt_trichotomy i k with e|e|e
 ·have:=(ydb ..).1 (yGa.1 h i k e hk w hw);omega
 ·subst e;omega
 ·have:=(ydb ..).1 (yGa.1 h k i e hi w hw);omega
end
end
section
open Go.RowKit
abbrev spanV(u v:Int):Value:=.agg #[.int .i64 u,.int .i64 v]
def SaysSpan(u v:Int)(w:World)(e:Ending)(w':World):Prop:=e=.returned (.agg #[.int .i64 u,.int .i64 v])∧Below w.heap.size w w'
theorem u52:(match Tryz.prog.underlying 52 with|some (.struct _)=>true|_=>false)=true:=by kernel_rfl
theorem i52:(Tryz.prog.info? 52).map (·.size)=some 2:=by kernel_rfl
theorem results_span{fn:Func}{tmps:Array Value}{w:World}{g:Nat}{u v:Int}(h:fn.results=#[.cell 4 52])(ht:tmps.getD 4 undef=.pointer (some ⟨g,0,none⟩))(hb:zI w g u v):(results fn tmps).run Tryz.prog w=.ok (spanV u v) w:=by
 have e:=u52;split at e
 ·next fs hu=>exact results_cell_row h tmps w g 52 _ (0,0) (.struct fs) ht hb hu rfl i52
 ·cases e
theorem span_new(w:World)(u v:Int):zI (w.alloc (.cells #[.int .i64 u,.int .i64 v] 52)) w.heap.size u v:=by unfold zI;exact heap_alloc_new _ _
theorem span_mid(w:World)(A C:Obj)(u v:Int):zI (((w.alloc A).alloc (.cells #[.int .i64 u,.int .i64 v] 52)).alloc C) (w.heap.size+1) u v:=by have h:=(span_new (w.alloc A) u v).below ((Below.refl _ _).alloc (Nat.le_refl _) C);simpa using h
theorem Measured_any(x:Shaft)(m:Nat)(hm:m<3)(w:World):CallsIn Fc 0 Tryz.prog 36 #[yXb x,.int .i64 m] w (SaysSpan (spanA x m) (spanB x m) w):=by
 have h3:m=0∨m=1∨m=2:=by omega
 rcases h3 with rfl|rfl|rfl
 all_goals
  gi_enter Tryz.func36,Tryz.ntmps36;gi_wp2;refine bodyPost_ret (v:=spanV _ _) (results_span rfl rfl (span_mid _ _ _ _ _)) rfl ?_;exact⟨rfl,(((Below.refl _ _).alloc (Nat.le_refl _) _).alloc (by simp) _).alloc (by simp;omega) _⟩
theorem Allowed_any(rs rl rw many:Int)(m:Nat)(hm:m<3)(w:World):CallsIn Fc 0 Tryz.prog 82 #[.agg #[.int .i64 rs,.int .i64 rl,.int .i64 rw,.int .i64 many],.int .i64 m] w (yya (allowOf rs rl rw m) w):=by
 have h3:m=0∨m=1∨m=2:=by omega
 rcases h3 with rfl|rfl|rfl
 all_goals
  gi_enter Tryz.func82,Tryz.ntmps82;gi_wp2;go_ret;exact⟨rfl,((Below.refl _ _).alloc (Nat.le_refl _) _).alloc (by simp) _⟩
def ye(w:World)(A:Option Addr)(n:Nat)(p:Nat→Int):Prop:=∀ k,k<n→∃ b o,A=some ⟨b,o,none⟩∧w.cell? ⟨b,o+k,none⟩=some (.int .u16 (p k))∧0≤p k∧p k≤65535
def choiceZ(n:Nat)(p:Nat→Int)(k:Nat):Int:=if k<n then p k else 0
theorem yG{w:World}{A:Option Addr}{n:Nat}{p:Nat→Int}(h:ye w A n p)(k:Nat):0≤choiceZ n p k∧choiceZ n p k≤65535:=by
 unfold choiceZ;split
 ·next h1=>obtain⟨_,_,_,_,h2,h3⟩:=h k h1;exact⟨h2,h3⟩
 ·omega
theorem ye.below{W w:World}(h:Below W.heap.size W w){A:Option Addr}{n:Nat}{p:Nat→Int}(hx:ye W A n p):ye w A n p:=fun k hk=>by obtain⟨b,o,rfl,h1,h2⟩:=hx k hk;exact⟨b,o,rfl,Below.old h h1,h2⟩
theorem Choice_any(A:Option Addr)(n c:Nat)(p:Nat→Int)(k:Nat)(w:World)(hc:n≤c)(hk:k<100)(hp:Hid (ye w A n p)):CallsIn Fc 0 Tryz.prog 84 #[.slice A n c,.int .i64 k] w fun e w'=>e=.returned (.int .i64 (choiceZ n p k))∧w=w':=by
 by_cases h:k<n
 ·obtain⟨b,o,rfl,h1,h2,h3⟩:=hp.out k h;have hb:b<w.heap.size:=World.block_lt_of_cell? w _ h1;have hcz:choiceZ n p k=p k:=by simp[choiceZ,h]
  rw[hcz];gi_enter Tryz.func84,Tryz.ntmps84;gi_wp2;go_ret;exact⟨rfl,rfl⟩
 ·have hcz:choiceZ n p k=0:=by simp[choiceZ,h]
  rw[hcz];gi_enter Tryz.func84,Tryz.ntmps84;gi_wp2;go_ret;exact⟨rfl,rfl⟩
def pickZ(u v n:Int):Int:=u+n.tmod (v-u+1)
theorem yca{u v n:Int}(h:u≤v)(hn:0≤n):u≤pickZ u v n∧pickZ u v n≤v:=by unfold pickZ;rw[Int.tmod_eq_emod_of_nonneg hn];have h1:=Int.emod_nonneg n (show v-u+1≠0 by omega);have h2:=Int.emod_lt_of_pos n (show 0<v-u+1 by omega);omega
theorem Pick_any(u v n:Int)(w:World)(h0:0≤u)(h1:u≤v)(h2:v≤9999)(hn0:0≤n)(hn1:n≤65535):CallsIn Fc 0 Tryz.prog 83 #[spanV u v,.int .i64 n] w (yya (pickZ u v n) w):=by
 have w1:IntKind.wrap .i64 (v-u)=v-u:=by simp[IntKind.wrap,IntKind.signed,IntKind.bits];omega
 have w2:IntKind.wrap .i64 (v-u+1)=v-u+1:=by simp[IntKind.wrap,IntKind.signed,IntKind.bits];omega
 have hne:¬(v-u+1=0):=by omega
 have hmod:=yca h1 hn0;unfold pickZ at hmod;have w3:IntKind.wrap .i64 (u+n.tmod (v-u+1))=u+n.tmod (v-u+1):=by simp[IntKind.wrap,IntKind.signed,IntKind.bits];omega
 gi_enter Tryz.func83,Tryz.ntmps83;gi_wp2
 gi_region_with (fail)
 all_goals
  gi_wp2;go_ret;exact⟨rfl,((Below.refl _ _).alloc (Nat.le_refl _) _).drew⟩
def realZ(sh:Nat→Shaft)(pn:Nat)(p:Nat→Int)(k m:Nat):Int:=pickZ (spanA (sh k) m) (spanB (sh k) m) (choiceZ pn p (3*k+m))
theorem ytb(rs rl rw many:Int)(A:Option Addr)(n c k m:Nat)(sh:Nat→Shaft)(PA:Option Addr)(pn pc:Nat)(p:Nat→Int)(W:World)(hk:k<n)(hc:n≤c)(hm:m<3)(hpc:pn≤pc)(hst:Hid (zxa rs rl rw many n sh))(hsh:Hid (zA W A n sh))(hp:Hid (ye W PA pn p)) :
    CallsIn Fc 0 Tryz.prog 41 #[zga rs rl rw many A n c,.int .i64 k,.int .i64 m,.slice PA pn pc] W (yya (realZ sh pn p k m) W):=by
  have hn:=hst.out.count;obtain⟨b,o,rfl,hx⟩:=hsh.out k hk;have hB1:∀ x,Below W.heap.size W (W.alloc x):=fun x=>(Below.refl _ _).alloc (Nat.le_refl _) _
  have HB1:=Lib.hid hB1;clear hB1;have hlb:b<W.heap.size:=hx.lt;obtain⟨x0,x1,x2,x3,x4,x5,x6⟩:=hx;have hsp:=(hst.out.each k hk).spans;have sp0:=hsp.least m hm;have sp1:=hsp.up m hm;have sp2:=hsp.most m hm;have hch:=yG hp.out (3*k+m);have w1:IntKind.wrap .i64 (3*(k:Int))=3*(k:Int):=by simp[IntKind.wrap,IntKind.signed,IntKind.bits];omega
  have w2:IntKind.wrap .i64 (3*(k:Int)+m)=((3*k+m:Nat):Int):=by simp[IntKind.wrap,IntKind.signed,IntKind.bits];omega
  clear hsp;gi_enter Tryz.func41,Tryz.ntmps41
  gi_wp2_with (first
    | (gi_at_call 36;refine(Measured_any (sh k) m hm _).mono ?_;rintro e w2 ⟨rfl,hb2⟩
       have HB2:=Lib.hid ((HB1.out _).trans (hb2.mono (HB1.out _).size));clear hb2)
    |(gi_at_call 84;refine(Choice_any PA pn pc p (3*k+m) _ hpc (by omega) (Lib.hid (hp.out.below HB2.out))).mono ?_;rintro e w3 ⟨rfl,rfl⟩)
    |(gi_at_call 83;refine(Pick_any _ _ _ _ sp0 sp1 sp2 hch.1 hch.2).mono ?_;rintro e w4 ⟨rfl,hb4⟩;have HB4:=Lib.hid (HB2.out.trans (hb4.mono HB2.out.size));clear hb4))
  go_ret;exact⟨rfl,HB4.out⟩
end
section
open Go.RowKit
end
section
open Go.RowKit
def SaysHas(p:Prop)(w:World)(e:Ending)(w':World):Prop:=∃ b:Bool,e=.returned (.bool b)∧(b=true↔p)∧w=w'
theorem yPa(LA:Option Addr)(m lc:Nat)(l:Nat→Nat)(k:Nat)(W:World)(hm:m≤9)(hmc:m≤lc)(hi:Hid (zca W LA m fun k=>(l k:Int))) :
  CallsIn Fc 0 Tryz.prog 40 #[.slice LA m lc,.int .i64 k] W (SaysHas (∃ i,i<m∧l i=k) W):=by
 gi_enter Tryz.func40,Tryz.ntmps40;gi_wp2
 gi_loopw [5] (fun v wr=>∃ i:Nat,i≤m∧v=.int .i64 i∧W=wr∧∀ j,j<i→l j≠k) (fun v _=>m-(intOf v).toNat)
 case atStart=>exact⟨0,Nat.zero_le _,rfl,rfl,fun j h=>by omega⟩
 case round=>
  obtain⟨i,hi',rfl,rfl,hno⟩:=hrel;by_cases hlt:i<m
  ·obtain⟨b,o,rfl,hc⟩:=hi.out i hlt;by_cases he:l i=k
   ·have he':((l i:Nat):Int)=(k:Int):=by omega
    gi_wp2;go_ret;exact⟨true,rfl,⟨fun _=>⟨i,hlt,he⟩,fun _=>rfl⟩,rfl⟩
   ·have he':¬((l i:Nat):Int)=(k:Int):=by omega
    gi_wp2;go_roundw
    case rel=>exact⟨i+1,by omega,by go_num,by first|rfl|trivial,fun j hj=>by
     rcases Nat.lt_succ_iff_lt_or_eq.1 hj with h|rfl
     ·exact hno j h
     ·exact he⟩
    case measure=>simp[intOf];omega
  ·gi_wp2;go_ret;exact⟨false,rfl,⟨fun h=>absurd h (by decide),fun⟨j,hj,he⟩=>absurd he (hno j (by omega))⟩,rfl⟩
end
section
open Go.RowKit
end
section
open Go.RowKit
section
variable (rs rl rw many:Int)(A:Option Addr)(n c k m:Nat)(x0 x1:Int)
end
end
section
open Go.RowKit
end
section
open Go.RowKit
end
section
open Go.RowKit
end
section
open Go.RowKit
end
section
open Go.RowKit
theorem Index_any(LA:Option Addr)(lc:Nat)(x:List Nat)(s:Nat)(W:World)(hx:x.length≤99)(hs:s≤99)(hc:x.length≤lc)(ha:Hid (zca W LA x.length fun k=>((x.getD k 0:Nat):Int))) :
  CallsIn Fc 0 Tryz.prog 121 #[.slice LA x.length lc,.int .i64 s] W fun e w'=>∃ z:Int,e=.returned (.int .i64 z)∧(0≤z↔s∈x)∧W=w':=by
 gi_enter Tryz.func121,Tryz.ntmps121;gi_wp2
 gi_loopw [8] (fun z wr=>∃ k:Nat,k≤x.length∧z=.int .i64 k∧wr=W∧∀ j,j<k→x.getD j 0≠s) (fun z _=>x.length-(intOf z).toNat)
 case atStart=>exact⟨0,by omega,rfl,rfl,fun j hj=>by omega⟩
 case round=>
  obtain⟨k,hkx,rfl,rfl,heq⟩:=hrel;have HEQ:=Lib.hid heq;clear heq;by_cases hlt:k<x.length
  ·obtain⟨b1,o1,rfl,q1⟩:=ha.out k hlt;obtain⟨a,ha'⟩:∃ a,x.getD k 0=a:=⟨_,rfl⟩
   replace q1:wr.cell? ⟨b1,o1+k,none⟩=some (.int .i64 (a:Int)):=by rw[q1,←ha']
   have hltI:(k:Int)<(x.length:Int):=by omega
   have h99:k<99:=by omega
   have HA:=Lib.hid ha';clear ha';by_cases h1:s=a
   ·have h1I:(s:Int)=(a:Int):=by omega
    have hm:s∈x:=by
     have h:=HA.out;rw[List.getD_eq_getElem?_getD,List.getElem?_eq_getElem hlt] at h;have:x[k]=s:=by rw[h1];exact h
     rw[←this];exact List.getElem_mem hlt
    have HM:=Lib.hid hm;clear hm h1;gi_wp2;go_ret;exact⟨k,rfl,⟨fun _=>HM.out,fun _=>by omega⟩,rfl⟩
   ·have h1I:¬(s:Int)=(a:Int):=by omega
    have H1:=Lib.hid h1;clear h1;gi_wp2;go_roundw
    case rel=>exact⟨k+1,by omega,by go_num,trivial,fun j hj=>by
     by_cases e:j=k
     ·subst e;rw[HA.out];exact fun e=>H1.out e.symm
     ·exact HEQ.out j (by omega)⟩
    case measure=>simp[intOf];omega
  ·obtain rfl:k=x.length:=by omega
   gi_wp2;go_ret;refine⟨-1,rfl,⟨fun h=>by omega,fun h=>?_⟩,rfl⟩;obtain⟨j,hj,e⟩:=List.mem_iff_getElem.1 h;refine absurd ?_ (HEQ.out j hj);rw[List.getD_eq_getElem?_getD,List.getElem?_eq_getElem hj];exact e
theorem Contains_any(LA:Option Addr)(lc:Nat)(x:List Nat)(s:Nat)(W:World)(hx:x.length≤99)(hs:s≤99)(hc:x.length≤lc)(ha:Hid (zca W LA x.length fun k=>((x.getD k 0:Nat):Int))) :
  CallsIn Fc 0 Tryz.prog 73 #[.slice LA x.length lc,.int .i64 s] W fun e w'=>e=.returned (.bool (decide (s∈x)))∧W=w':=by
 gi_enter Tryz.func73,Tryz.ntmps73
 gi_wp2_with (gi_at_call 121;refine(Index_any LA lc x s _ hx hs hc ha).mono ?_;rintro e w' ⟨z,rfl,hz,rfl⟩;have HZ:=Lib.hid hz;clear hz)
 go_ret;refine⟨?_,rfl⟩;have h:=HZ.out;simp[←h]
noncomputable def setsX(rs rl rw:Int)(sh:Nat→Shaft)(n m:Nat):List (List Nat):=(extE n m n []).filter fun x=>zoc rs rl rw sh (fun k=>x.getD k 0) x.length==1
theorem yna{n m:Nat}:∀(d:Nat) (x y:List Nat),d≤n→(∀ a,a∈x→a<n-d)→x.Pairwise (· < ·)→y∈loopE n m d x→y.Pairwise (· < ·)
 |0,x,y,_,_,_,h=>by cases h
 |d+1,x,y,hd,hx,hp,h=>by
  have hp1:(x++[n-(d+1)]).Pairwise (· < ·):=by rw[List.pairwise_append];refine⟨hp,List.pairwise_singleton _ _,fun a ha b hb=>?_⟩;rcases List.mem_singleton.1 hb with rfl;exact hx a ha
  rw[loopE,List.mem_append] at h;rcases h with h|h
  ·split at h
   ·rcases List.mem_singleton.1 h with rfl;exact hp1
   ·refine yna d _ y (by omega) (fun a ha=>?_) hp1 h;rcases List.mem_append.1 ha with h'|h'
    ·have:=hx a h';omega
    ·rcases List.mem_singleton.1 h' with rfl;omega
  ·exact yna d x y (by omega) (fun a ha=>by have:=hx a ha;omega) hp h
theorem yAb{n m:Nat}{y:List Nat}(h:y∈extE n m n []):y.Pairwise (· < ·):=by
 unfold extE at h;split at h
 ·rcases List.mem_singleton.1 h with rfl;exact List.Pairwise.nil
 ·exact yna n [] y (Nat.le_refl _) (fun a ha=>by cases ha) List.Pairwise.nil h
theorem asc_at{x:List Nat}(h:x.Pairwise (· < ·)){j i:Nat}(hji:j<i)(hi:i<x.length):x.getD j 0<x.getD i 0:=by have:=List.pairwise_iff_getElem.1 h j i (by omega) hi hji;rw[List.getD_eq_getElem?_getD,List.getD_eq_getElem?_getD,List.getElem?_eq_getElem hi,List.getElem?_eq_getElem (show j<x.length by omega)];exact this
theorem setsL_eq{rs rl rw:Int}{sh:Nat→Shaft}{n m:Nat}{P:Nat→Int}(h:∀ two one,one<two→two<n→P (one*9+two)=pairZ rs rl rw (sh one) (sh two)):setsL P n m=setsX rs rl rw sh n m:=by
 unfold setsL filt setsX;refine List.filter_congr fun x hx=>?_
 have e:yesZ P x=zoc rs rl rw sh (fun k=>x.getD k 0) x.length:=yw x.length fun j i h1 h2=>h _ _ (asc_at (yAb hx) h1 h2) (by rw[List.getD_eq_getElem?_getD,List.getElem?_eq_getElem h2];exact ynb hx _ (List.getElem_mem h2))
 rw[e]
end
section
open Go.RowKit
theorem u3i:Tryz.prog.underlying 3=some (.int .i64):=by kernel_rfl
theorem wpListIn_append_eq{F:Fence}{ops:Array Oper}{rest:List Oper}{o:Oper}{a:Act}{w:World}{Q:Exit→Act→World→Prop}(hg:o.guard=none)(s x:Operand)(t tn:TypeId)(hop:o.op=.call {callee:=.builtin .append,args:=#[s,x],argTypes:=#[t,tn]})(vs vx:Value)(hs:a.eval s=vs)(hx:a.eval x=vx)
  (v':Value) (w':World) (hr:(Builtin.append_ #[t,tn] o.type #[vs,vx]).run Tryz.prog w=.ok v' w') (h:wpListIn F 0 Tryz.prog ops Q rest (a.put o.dst v') w'):wpListIn F 0 Tryz.prog ops Q (o::rest) a w:=by
 refine wpListIn_plain hg fun K hK=>?_
 unfold Oper.wpIn;refine⟨?_,?_⟩
 ·simp[Oper.about,hop,resolve,Target.leads,Sem.run_pure]
 ·rw[Oper.semAt_plain F _ _ (by rw[hop];intro c hc';cases hc')];simp[execOp,hop,resolve,invoke,builtin,hs,hx,hr,Result.andThen];exact hK _ _ h
theorem Grow_any(k:Nat)(W:World)(hk:k≤99):CallsIn Fc 0 Tryz.prog 120 #[.slice none 0 0,.int .i64 k] W (fun e w'=>∃ v,e=.returned v∧w'.ownsRow W.heap.size 3 1 v 0 []∧Below W.heap.size W w'):=by
 by_cases h0:k=0
 ·subst h0;gi_enter Tryz.func120,Tryz.ntmps120;gi_wp2;go_ret;exact⟨_,rfl,World.ownsRow_nil _ _ _ _,Below.refl _ _⟩
 ·have hkI:(0:Int)<(k:Int):=by omega
  obtain⟨i0,hi0,hz0,hz1,hz2⟩:=info_parts it3;have hr:=Lib.run_append_nil_zeros (P:=Tryz.prog) W 27 3 27 3 i0 (.int .i64 0) .i64 .i64 ut27 u3i hi0 hz0 k (by omega) (by rw[hz1];decide) (by omega) (by rw[hz2];omega);have hge:=grownCap_ge W k 0 3;have hle:=grownCap_le_maxLen W k 0 3 (by simp only[maxLen];omega);generalize grownCap W k 0 3=gc at *;obtain⟨w1,hw1⟩:∃ w1,w1=W.drew.alloc (.cells (Builtin.zeroCells (Value.int .i64 0).cells k++Builtin.zeroCells (Value.int .i64 0).cells (gc-k)) 3):=⟨_,rfl⟩;rw[←hw1] at hr;have hb1:Below W.heap.size W w1:=by rw[hw1];exact((Below.refl _ _).drew).alloc (by simp) _
  have hh:w1.heap[W.heap.size]? = some (.cells (Builtin.zeroCells (Value.int .i64 0).cells k++Builtin.zeroCells (Value.int .i64 0).cells (gc-k)) 3 (0,0)):=by rw[hw1];exact zG (by simp)
  have HR:=Lib.hid hr;have HB:=Lib.hid hb1;have HH:=Lib.hid hh;clear hr hb1 hh hw1 hi0 hz0 hz1 hz2;gi_enter Tryz.func120,Tryz.ntmps120
  gi_wp2_with (refine wpListIn_append_eq rfl _ _ 27 3 rfl _ _ rfl rfl _ _ HR.out ?_)
  go_ret;refine⟨_,rfl,⟨rfl,.inr ⟨W.heap.size,gc,_,rfl,Nat.le_refl _,HH.out,by omega,hle,?_,by simp⟩⟩,HB.out⟩;have h1:(Value.int .i64 0).cells.size=1:=rfl;rw[Array.size_append,size_zeroCells,size_zeroCells,h1];omega
theorem take_next{S:List (List Nat)}{k:Nat}(h:k<S.length):S.take (k+1)=S.take k++[S.getD k []]:=by rw[List.take_succ_eq_append_getElem h,List.getD_eq_getElem?_getD,List.getElem?_eq_getElem h];rfl
theorem yF{S:List (List Nat)}{k:Nat}(h:k<S.length):(S.take (k+1)).flatten=(S.take k).flatten++S.getD k []:=by rw[take_next h,List.flatten_append];simp
theorem zWb{S:List (List Nat)}(h:Few S):∀ k,k≤S.length→(S.take k).flatten.length≤k*9
 |0,_=>by simp
 |k+1,hk=>by rw[yF (by omega),List.length_append];have:=zWb h k (by omega);have:=h.2 k;omega
theorem yHa{w:World}{b o:Nat}{x:List Nat}(h:zca w (some ⟨b,o,none⟩) x.length (fun k=>((x.getD k 0:Nat):Int)))(j:Nat)(u:Value)(hj:(x.map intV)[j]? = some u):w.cell? ((⟨b,o,none⟩:Addr).add j)=some u:=by
 have hlt:j<x.length:=by have:=(List.getElem?_eq_some_iff.1 hj).1;simpa using this
 obtain⟨b',o',e,hc⟩:=h j hlt;cases e;rw[addr_add,hc];rw[List.getElem?_map,List.getElem?_eq_getElem hlt] at hj;cases hj;simp[intV,List.getD_eq_getElem?_getD,List.getElem?_eq_getElem hlt]
theorem Concat_any(LA:Option Addr)(lc:Nat)(S:List (List Nat))(W:World)(hf:Few S)(hpos:∀ k,k<S.length→0<(S.getD k []).length)(hl:Hid (zlc W (.slice LA S.length lc) S)) :
    CallsIn Fc 0 Tryz.prog 72 #[.slice LA S.length lc] W (fun e w'=>∃ v,e=.returned v∧ListAt w' W.heap.size v S.flatten∧Below W.heap.size W w'):=by
  obtain⟨i0,hi0,hz0,hz1,hz2⟩:=info_parts it3;have HI0:=Lib.hid hi0;have HZ0:=Lib.hid hz0;have HZ1:=Lib.hid hz1;have HZ2:=Lib.hid hz2;clear hi0 hz0 hz1 hz2;obtain⟨_,_,e,hlc,hr⟩:=hl.out;cases e;have HR:=Lib.hid hr;have HF:=Lib.hid hf;have HP:=Lib.hid hpos;have h9:=hf.1;have hfl:=zWb hf S.length (Nat.le_refl _);rw[List.take_length] at hfl;clear hr hl hf hpos;gi_enter Tryz.func72,Tryz.ntmps72;gi_wp2
  gi_loopw [3,11] (fun t y wr=>∃ k:Nat,k≤S.length∧t=.int .i64 ((S.take k).flatten.length:Nat)∧y=.int .i64 k∧wr=W) (fun _ y _=>S.length-(intOf y).toNat)
  case atStart=>exact⟨0,by omega,by simp,rfl,rfl⟩
  case round=>
    obtain⟨k,hk,rfl,rfl,hwr⟩:=hrel;have hwr':=hwr.symm;subst hwr';have h81:=zWb HF.out k hk;obtain⟨t,ht⟩:∃ t,(S.take k).flatten.length=t:=⟨_,rfl⟩;rw[ht] at h81 ⊢;have HT:=Lib.hid ht;clear ht;by_cases hlt:k<S.length
    · obtain⟨b1,o1,LX,kx,rfl,q1,hkx,hix⟩:=HR.out k hlt;obtain⟨x,hx⟩:∃ x,S.getD k []=x:=⟨_,rfl⟩;have hx9:=HF.out.2 k;rw[hx] at q1 hkx hx9;have HX:=Lib.hid hx;have hltI:(k:Int)<(S.length:Int):=by omega
      have h99:k<99:=by omega
      clear hix hx;have ht81:t≤81:=by omega
      clear h81;gi_wp2;go_roundw
      case rel=>exact⟨k+1,by omega,by rw[yF hlt,List.length_append,HT.out,HX.out];go_num,by go_num,trivial⟩
      case measure=>simp[intOf];omega
    · obtain rfl:k=S.length:=by omega
      have hT:=HT.out;rw[List.take_length] at hT;have HTT:=Lib.hid hT;have ht99:t≤99:=by omega
      have hltI:¬(S.length:Int)<(S.length:Int):=by omega
      clear hT HT h81
      gi_wp2_with (gi_at_call 120;refine(Grow_any t _ ht99).mono ?_;rintro e w1 ⟨v1,rfl,ho1,hb1⟩;have HO1:=Lib.hid ho1;have HB1:=Lib.hid hb1;clear ho1 hb1)
      gi_loopw [6,27] (fun v y wr=>∃ k:Nat,k≤S.length∧y=.int .i64 k∧ListAt wr W.heap.size v (S.take k).flatten∧Below W.heap.size W wr) (fun _ y _=>S.length-(intOf y).toNat)
      case atStart=>exact⟨0,by omega,rfl,HO1.out,HB1.out⟩
      case round=>
        obtain⟨k,hk,rfl,hla,hbw⟩:=hrel;have h81:=zWb HF.out k hk;have HLA:=Lib.hid hla;have HBW:=Lib.hid hbw;clear hla hbw;by_cases hlt:k<S.length
        · obtain⟨b1,o1,LX,kx,rfl,q1,hkx,hix⟩:=HR.out k hlt;have hp:=HP.out k hlt;have hfn:=yF hlt;obtain⟨x,hx⟩:∃ x,S.getD k []=x:=⟨_,rfl⟩;have hx9:=HF.out.2 k;rw[hx] at q1 hkx hx9 hix hp hfn;have HFN:=Lib.hid hfn;obtain⟨b2,o2,rfl,_⟩:=hix 0 hp;have hcl:=yHa (hix.below HBW.out);have HCL:=Lib.hid hcl;have q1w:=Below.old HBW.out q1;have hltI:(k:Int)<(S.length:Int):=by omega
          have h99:k<99:=by omega
          obtain⟨M,hM⟩:∃ M,(S.take k).flatten=M:=⟨_,rfl⟩;have hla:wr.ownsRow W.heap.size 3 1 u6 M.length (M.map intV):=by rw[←hM];exact HLA.out
          have hM81:M.length≤81:=by rw[←hM];omega
          rw[hM] at HFN;have HLA2:=Lib.hid hla;clear hix hx hfn hcl hM h81 hla HLA q1
          gi_wp2_with
            (gi_at_builtin
             refine wpListIn_append_own _ rfl _ _ 27 rfl W.heap.size 3 i0 (.int .i64 0) 1 8 ut27 HI0.out HZ0.out HZ1.out HZ2.out rfl (by decide) u6 M.length (M.map intV) rfl HLA2.out ⟨b2,o2,none⟩ x.length kx (x.map intV) rfl (by simp) HCL.out (by intro u hu;obtain⟨n,_,rfl⟩:=List.mem_map.1 hu;rfl) (by simp[maxLen];omega) (by omega) (HBW.out.size) ?_;intro v' w4 hown4 hg4 hnil4;have HO:=Lib.hid hown4;have HG:=Lib.hid hg4;clear hg4 hnil4 hown4)
          refine⟨⟨k+1,by omega,rfl,?_,HBW.out.grown HG.out HBW.out.size fun g hg=>(zfb HLA2.out hg).1⟩,by show S.length-(intOf (Value.int IntKind.i64 ((k:Int)+1))).toNat<S.length-(intOf (Value.int IntKind.i64 (k:Int))).toNat;simp only[intOf];omega⟩;rw[HFN.out];have h:=HO.out;show w4.ownsRow W.heap.size 3 1 v' (M++x).length ((M++x).map intV);rw[List.map_append,List.length_append];exact h
        · obtain rfl:k=S.length:=by omega
          have hltI:¬(S.length:Int)<(S.length:Int):=by omega
          have hla:=HLA.out;rw[List.take_length] at hla;obtain⟨F,hF⟩:∃ F,S.flatten=F:=⟨_,rfl⟩;rw[hF] at hla;obtain⟨LV,lv,rfl,hlv,_⟩:=hla.shape;have HLA2:=Lib.hid hla;have HF2:=Lib.hid hF;clear hla HLA h81 hF;gi_wp2;go_ret;rw[HF2.out];exact⟨_,rfl,HLA2.out,HBW.out⟩
end
section
open Go.RowKit
theorem yP{n m:Nat}:∀(d:Nat) (x y:List Nat),y∈loopE n m d x→y.length=m
 |0,x,y,h=>by cases h
 |d+1,x,y,h=>by
  rw[loopE,List.mem_append] at h;rcases h with h|h
  ·split at h
   ·next e=>rcases List.mem_singleton.1 h with rfl;rw[List.length_append,List.length_singleton];exact e
   ·exact yP d _ y h
  ·exact yP d x y h
theorem ygb{n m d:Nat}{x y:List Nat}(h:y∈extE n m d x):y.length=m:=by
 unfold extE at h;split at h
 ·next e=>rcases List.mem_singleton.1 h with rfl;exact e
 ·exact yP d x y h
theorem yzb{p:List Nat→Prop}{f:List (List Nat)→List Nat→List (List Nat)}:∀(X B:List (List Nat)),(∀ B x,x∈X→(∀ y,y∈B→p y)→∀ y,y∈f B x→p y)→(∀ y,y∈B→p y)→∀ y,y∈X.foldl f B→p y
 | [],B,_,hB=>hB
 |x::X,B,hf,hB=>yzb X (f B x) (fun B z hz=>hf B z (List.mem_cons_of_mem _ hz)) (hf B x (List.mem_cons_self ..) hB)
theorem yRa{p:List Nat→Prop}{n:Nat}{O:Nat→List (List Nat)}(hO:∀ s x,x∈O s→p x):∀(d:Nat) (T:Nat→Bool) (S B:List (List Nat)),(∀ y,y∈S→p y)→(∀ y,y∈B→p y)→∀ y,y∈tryE n O d T S B→p y
 |0,T,S,B,hS,hB=>by
  rw[tryE];split
  ·exact hS
  ·exact hB
 |d+1,T,S,B,hS,hB=>by
  rw[tryE];refine yRa hO d _ S _ hS ?_;split
  ·exact hB
  ·refine yzb _ B (fun B x hx hB=>?_) hB;split
   ·refine yRa hO d _ _ B (fun y hy=>?_) hB;rcases List.mem_append.1 hy with h|h
    ·exact hS y h
    ·rcases List.mem_singleton.1 h with rfl;exact hO _ _ hx
   ·exact hB
theorem evs_fst{M:List (List Nat)}{ev:Nat×Nat}(h:ev∈evs M M.length 0):ev.2<M.length:=by simp only[evs,List.take_zero,List.map_nil,List.append_nil,List.mem_flatMap,List.mem_range,List.mem_map] at h;obtain⟨k,hk,s,_,rfl⟩:=h;exact hk
theorem ofE_mem'{M:List (List Nat)}{s:Nat}{x:List Nat}(h:x∈ofE M (evs M M.length 0) s):x∈M:=by obtain⟨ev,he,rfl⟩:=List.mem_map.1 h;have hlt:=evs_fst (List.mem_filter.1 he).1;rw[List.getD_eq_getElem?_getD,List.getElem?_eq_getElem hlt];exact List.getElem_mem hlt
theorem shareL_mem{P:Nat→Int}{n m:Nat}{T:Nat→Bool}{x:List Nat}(h:x∈zPb P n m T):x∈setsL P n m:=
 yRa (p:=fun x=>x∈setsL P n m) (fun s x hx=>ofE_mem' hx) n T [] [] (fun y hy=>by cases hy) (fun y hy=>by cases hy) x h
theorem setsL_mem{P:Nat→Int}{n m:Nat}{x:List Nat}(h:x∈setsL P n m):x∈extE n m n []:=(List.mem_filter.1 h).1
theorem shareL_pos{P:Nat→Int}{n m:Nat}{T:Nat→Bool}(hm:0<m)(k:Nat)(hk:k<(zPb P n m T).length):0<((zPb P n m T).getD k []).length:=by rw[List.getD_eq_getElem?_getD,List.getElem?_eq_getElem hk];show 0<((zPb P n m T)[k]).length;rw[ygb (setsL_mem (shareL_mem (List.getElem_mem hk)))];exact hm
noncomputable def zgc(rs rl rw:Int)(sh:Nat→Shaft)(n m:Nat)(T:Nat→Bool):List (List Nat):=tryE n (fun s=>ofE (setsX rs rl rw sh n m) (evs (setsX rs rl rw sh n m) (setsX rs rl rw sh n m).length 0) s) n T [] []
theorem shareL_eq{rs rl rw:Int}{sh:Nat→Shaft}{n m:Nat}{P:Nat→Int}(h:∀ two one,one<two→two<n→P (one*9+two)=pairZ rs rl rw (sh one) (sh two))(T:Nat→Bool):zPb P n m T=zgc rs rl rw sh n m T:=by
 unfold zPb zgc;have e:zab P n m=fun s=>ofE (setsX rs rl rw sh n m) (evs (setsX rs rl rw sh n m) (setsX rs rl rw sh n m).length 0) s:=by funext s;unfold zab;rw[setsL_eq h]
 rw[e]
theorem zS.below{w w':World}{b1 b2:Nat}{v:Value}{M:List (List Nat)}(h:zS w b1 b2 v M)(hb:Below w.heap.size w w'):zS w' b1 b2 v M:=
 h.keep (fun g hg=>hb.block g (h.own hg).2) fun k cs fz hk=>hb.block k (Array.getElem?_eq_some_iff.1 hk).1
theorem zS.read{w:World}{b1 b2:Nat}{v:Value}{S:List (List Nat)}(h:zS w b1 b2 v S):zlc w v S:=by
 obtain⟨vs,h1,h2⟩:=h;obtain⟨hl,⟨rfl,h0⟩|⟨g,cap,cur,rfl,hbg,hg,hc,hm,hs,ht⟩⟩:=id h1
 ·refine⟨none,0,by rw[h0],by omega,fun k hk=>by omega⟩
 ·refine⟨_,cap,rfl,hc,fun k hk=>?_⟩;obtain⟨LX,kx,e,q1,q2⟩:=(h2 k hk).shape;refine⟨g,0,LX,kx,rfl,?_,q1,q2⟩;have hv:k<vs.length:=by omega
  rw[Nat.zero_add,h1.cellAt k (by omega),←e,List.getD_eq_getElem?_getD,List.getElem?_eq_getElem hv];rfl
def leftL(n:Nat)(M:List (List Nat)):List Nat:=(List.range n).filter fun s=>decide (s∉M.flatten)
def SaysFill(M:List (List Nat))(L:List Nat)(z:Int)(W:World)(e:Ending)(w':World):Prop:=∃ v u,e=.returned (.tuple #[v,u,.int .i64 z])∧zS w' W.heap.size W.heap.size v M∧ListAt w' W.heap.size u L∧Below W.heap.size W w'
theorem Fill_fair(rs rl rw:Int)(m:Nat)(A:Option Addr)(n c:Nat)(sh:Nat→Shaft)(W:World)(hc:n≤c)(hsh:Hid (zA W A n sh))(hst:zxa rs rl rw m n sh) :
    CallsIn Fc 0 Tryz.prog 25 #[zga rs rl rw m A n c] W (SaysFill (zgc rs rl rw sh n m fun _=>false) (leftL n (zgc rs rl rw sh n m fun _=>false)) 0 W):=by
  obtain⟨i0,hi0,hz0,hz1,hz2⟩:=info_parts it3;have HI0:=Lib.hid hi0;have HZ0:=Lib.hid hz0;have HZ1:=Lib.hid hz1;have HZ2:=Lib.hid hz2;clear hi0 hz0 hz1 hz2;have hn9:=hst.count;have hm2:=hst.rule.m0;have hB1:∀ X Y,Below W.heap.size W ((W.alloc X).alloc Y):=fun X Y=>((Below.refl _ _).alloc (Nat.le_refl _) _).alloc (by simp) _
  have HB1:=Lib.hid hB1;have hck:=fun w (hb:Below W.heap.size W w)=>yCb rs rl rw m A n c sh w hc (Lib.hid hst) (Lib.hid (hsh.out.below hb))
  have HCK:=Lib.hid hck;have hcd:=fun w (hb:Below W.heap.size W w)=>ywa rs rl rw m A n c sh w (Lib.hid hst) (Lib.hid (hsh.out.below hb))
  have HCD:=Lib.hid hcd;clear hcd hck hst hB1;gi_enter Tryz.func25,Tryz.ntmps25
  gi_wp2_with (first
    | (gi_at_call 56;refine(HCK.out _ (HB1.out _ _)).mono ?_;rintro e w2 ⟨rfl,hb2⟩
       have e0:w2.cell? ⟨W.heap.size+1,0,none⟩=some (.int .i64 rs):=Below.old hb2 (by go_simp);have e1:w2.cell? ⟨W.heap.size+1,1,none⟩=some (.int .i64 rl):=Below.old hb2 (by go_simp);have e2:w2.cell? ⟨W.heap.size+1,2,none⟩=some (.int .i64 rw):=Below.old hb2 (by go_simp);have e3:w2.cell? ⟨W.heap.size+1,3,none⟩=some (.int .i64 m):=Below.old hb2 (by go_simp);have e4:w2.cell? ⟨W.heap.size+1,4,none⟩=some (.slice A n c):=Below.old hb2 (by go_simp);have e5:w2.cell? ⟨W.heap.size,4,none⟩=some (.slice A n c):=Below.old hb2 (by go_simp);have HB2:=Lib.hid ((HB1.out _ _).trans (hb2.mono (HB1.out _ _).size));clear hb2)
    |(gi_at_call 58;refine(HCD.out _ HB2.out).mono ?_;rintro e w7 ⟨P,rfl,hP,hb7⟩;have e7:=Below.old (hb7.mono (Nat.le_refl _)) e5;have HB7:=Lib.hid (HB2.out.trans (hb7.mono HB2.out.size));have HP:=Lib.hid (shareL_eq hP (m:=m) fun _=>false);clear hb7 hP e0 e1 e2 e3 e4 e5)
    |(gi_at_call 71;refine(share_any rs rl rw A n c P m (fun _=>false) _ hn9).mono ?_;rintro e w8 ⟨v,rfl,hl,hf,hb8⟩;have e8:=Below.old hb8 e7;have HL:=Lib.hid hl;have HF:=Lib.hid hf;have HB8:=Lib.hid (HB7.out.trans (hb8.mono HB7.out.size));clear hb8 hl hf e7))
  have hpos:=fun k hk=>shareL_pos (P:=P) (n:=n) (m:=m) (T:=fun _=>false) (by omega) k hk
  obtain⟨M,hM⟩:∃ M,zPb P n m (fun _=>false)=M:=⟨_,rfl⟩;have hrd:=HL.out.read;rw[hM] at hpos hrd HP HL HF;obtain⟨LA,lc,rfl,hlc,_⟩:=id hrd;have hfl:M.flatten.length≤81:=by have:=zWb HF.out M.length (Nat.le_refl _);rw[List.take_length] at this;have:=HF.out.1;omega
  refine(Concat_any LA lc M w8 HF.out hpos (Lib.hid hrd)).mono ?_;rintro e w9 ⟨u,rfl,hu,hb9⟩;have e9:=Below.old hb9 e8;obtain⟨LU,ku,rfl,hku,hiu⟩:=hu.shape;obtain⟨F,hF⟩:∃ F,M.flatten=F:=⟨_,rfl⟩;rw[hF] at hu hku hiu hfl ⊢;have HU:=Lib.hid hiu;have HL9:=Lib.hid (HL.out.below hb9);have HB9:=Lib.hid (HB8.out.trans (hb9.mono HB8.out.size));have HB89:=Lib.hid hb9;have HF2:=Lib.hid hF;have k9:=World.block_lt_of_cell? w9 _ e9;have hcon:=fun s (hs:s≤99) w (hw:Below w9.heap.size w9 w)=>Contains_any LU ku F s w (by omega) hs hku (Lib.hid (hiu.below hw))
  have HC:=Lib.hid hcon;clear hpos hM hrd hu hiu hF hb9 hcon e8;gi_wp2
  gi_loopw [3,25] (fun lv y wr=>∃ k:Nat,k≤n∧y=.int .i64 k∧ListAt wr w9.heap.size lv ((List.range k).filter fun s=>decide (s∉F))∧Below w9.heap.size w9 wr) (fun _ y _=>n-(intOf y).toNat)
  case atStart=>exact⟨0,by omega,rfl,ListAt.nil _ _,Below.refl _ _⟩
  case round=>
    obtain⟨k,hk,rfl,hla,hbw⟩:=hrel;have HLA:=Lib.hid hla;have HBW:=Lib.hid hbw;clear hla hbw;by_cases hlt:k<n
    · have hltI:(k:Int)<(n:Int):=by omega
      have h99:k<9:=by omega
      have hck:=HC.out k (by omega) wr HBW.out;have hnext:(List.range (k+1)).filter (fun s=>decide (s∉F))=(List.range k).filter (fun s=>decide (s∉F))++if k∈F then[] else[k]:=by rw[List.range_succ,List.filter_append];by_cases h:k∈F<;>simp[h]
      have hlen:((List.range k).filter fun s=>decide (s∉F)).length≤9:=Nat.le_trans (List.length_filter_le _ _) (by simp;omega);by_cases hin:k∈F
      · rw[show decide (k∈F)=true from decide_eq_true hin] at hck;rw[if_pos hin,List.append_nil] at hnext;have HN:=Lib.hid hnext;have HCK:=Lib.hid hck;clear hnext hck hin hlen
        gi_wp2_with (gi_at_call 73;refine HCK.out.mono ?_;rintro e w6 ⟨rfl,rfl⟩)
        exact⟨⟨k+1,by omega,rfl,by rw[HN.out];exact HLA.out,HBW.out⟩,by show n-(intOf (Value.int IntKind.i64 ((k:Int)+1))).toNat<n-(intOf (Value.int IntKind.i64 (k:Int))).toNat;simp only[intOf];omega⟩
      · rw[show decide (k∈F)=false from decide_eq_false hin] at hck;rw[if_neg hin] at hnext;have HN:=Lib.hid hnext;have HCK:=Lib.hid hck;obtain⟨L,hL⟩:∃ L,(List.range k).filter (fun s=>decide (s∉F))=L:=⟨_,rfl⟩;rw[hL] at hlen HN;have hla:∀ X,(wr.alloc X).ownsRow w9.heap.size 3 1 u3 L.length (L.map intV):=fun X=>by rw[←hL];exact zu HLA.out ((Below.refl _ _).alloc (Nat.le_refl _) X)
        have HLA2:=Lib.hid hla;clear hnext hck hin hL hla
        gi_wp2_with (first
          |(gi_at_call 73;refine HCK.out.mono ?_;rintro e w6 ⟨rfl,rfl⟩)
          | (gi_at_builtin
             refine wpListIn_append_own _ rfl _ _ 27 rfl w9.heap.size 3 i0 (.int .i64 0) 1 8 ut27 HI0.out HZ0.out HZ1.out HZ2.out rfl (by decide) u3 L.length (L.map intV) rfl (HLA2.out _) ⟨_,0,none⟩ 1 1 [.int .i64 (k:Int)] rfl rfl (cells_new _ _ _) (by intro u hu;rcases List.mem_singleton.1 hu with rfl;rfl) (by simp[maxLen];omega) (by omega) (by have:=HBW.out.size;simp;omega) ?_;intro v' w4 hown4 hg4 hnil4;have HO:=Lib.hid hown4;have HG:=Lib.hid hg4;clear hg4 hnil4 hown4))
        refine⟨⟨k+1,by omega,rfl,?_,(HBW.out.alloc HBW.out.size _).grown HG.out (by have:=HBW.out.size;simp;omega) fun g hg=>(zfb (HLA2.out (.cells #[.int .i64 (k:Int)] 3)) hg).1⟩,by show n-(intOf (Value.int IntKind.i64 ((k:Int)+1))).toNat<n-(intOf (Value.int IntKind.i64 (k:Int))).toNat;simp only[intOf];omega⟩;rw[HN.out];have h:=HO.out;show w4.ownsRow w9.heap.size 3 1 v' (L++[k]).length ((L++[k]).map intV);rw[List.map_append,List.length_append];exact h
    · obtain rfl:k=n:=by omega
      have hltI:¬(k:Int)<(k:Int):=by omega
      gi_wp2;refine bodyPost_ret (results_tmp3 rfl _ _ _) rfl ?_;refine⟨_,_,rfl,?_,?_,HB9.out.trans (HBW.out.mono HB9.out.size)⟩
      · rw[←HP.out];exact(HL9.out.below HBW.out).mono HB7.out.size HB7.out.size
      · unfold leftL;rw[←HP.out,HF2.out];exact HLA.out.mono HB9.out.size
end
section
open Go.RowKit
section
variable {rs rl rw many:Int}{n k:Nat}{sh:Nat→Shaft}{z:Int}
end
end
section
open Go.RowKit
end
end Go.Proofs.YtpdmgecbapmgdaaGreat
