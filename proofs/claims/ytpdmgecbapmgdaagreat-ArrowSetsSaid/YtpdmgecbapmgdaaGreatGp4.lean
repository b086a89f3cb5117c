/- A part of the proof that ArrowSets returns true for every input: no further condition. -/
import Derived.Test.YtpdmgecbapmgdaaGreatGp3
set_option linter.unusedSimpArgs false
set_option linter.unusedVariables false
set_option maxHeartbeats 4000000
set_option maxRecDepth 100000
namespace Go.Proofs.YtpdmgecbapmgdaaGreat
section
open Go.RowKit
def zS(w:World)(b1 b2:Nat)(v:Value)(M:List (List Nat)):Prop:=∃ vs:List Value,w.ownsRow b1 27 1 v M.length vs∧∀ k,k<M.length→ListAt w b2 (vs.getD k undef) (M.getD k [])
theorem zAa.p{S:List Nat}{w:World}{b:Nat}{v:Value}{M:List (List Nat)}(h:zAa S w b v M):zS w b b v M:=by obtain⟨vs,h1,_,h3⟩:=h;exact⟨vs,h1,fun k hk=>(h3 k hk).1⟩
theorem zS.nil(w:World)(b1 b2:Nat):zS w b1 b2 (.slice none 0 0) []:=⟨[],World.ownsRow_nil _ _ _ _,fun k hk=>by simp at hk⟩
theorem ListAt.keepC{w w':World}{base:Nat}{v:Value}{x:List Nat}(h:ListAt w base v x)(hc:∀(k:Nat) (cs:Array Value) (fz:Nat×Nat),w.heap[k]? = some (Obj.cells cs 3 fz)→w'.heap[k]? = w.heap[k]?):ListAt w' base v x:=h.kept fun g hg=>by
 obtain⟨_,⟨e,_⟩|⟨g',c',r',e,_,q6,_⟩⟩:=h
 ·rw[e] at hg;cases hg
 ·rw[e] at hg;cases hg;exact hc _ _ _ q6
theorem zS.keep{w w':World}{b1 b2:Nat}{v:Value}{M:List (List Nat)}(h:zS w b1 b2 v M)(hv:∀ g,v.ownBlock=some g→w'.heap[g]? = w.heap[g]?)(hc:∀(k:Nat) (cs:Array Value) (fz:Nat×Nat),w.heap[k]? = some (Obj.cells cs 3 fz)→w'.heap[k]? = w.heap[k]?):zS w' b1 b2 v M:=by obtain⟨vs,h1,h3⟩:=h;exact⟨vs,zja h1 hv,fun k hk=>(h3 k hk).keepC hc⟩
theorem zS.more{w':World}{b1 b2:Nat}{v' u:Value}{M:List (List Nat)}{x:List Nat}{vs:List Value}(hvs:vs.length=M.length)(h1:w'.ownsRow b1 27 1 v' (M.length+1) (vs++[u]))(h3:∀ k,k<M.length→ListAt w' b2 (vs.getD k undef) (M.getD k []))(hu:ListAt w' b2 u x):zS w' b1 b2 v' (M++[x]):=by
 refine⟨vs++[u],by rw[List.length_append];exact h1,fun k hk'=>?_⟩;rw[List.length_append,List.length_singleton] at hk';by_cases e:k=M.length
 ·subst e;have a1:(vs++[u]).getD M.length undef=u:=by rw[←hvs];simp[List.getD_eq_getElem?_getD]
  have a2:(M++[x]).getD M.length []=x:=by simp[List.getD_eq_getElem?_getD]
  rw[a1,a2];exact hu
 ·have hlt:k<M.length:=by omega
  have a1:(vs++[u]).getD k undef=vs.getD k undef:=by simp[List.getD_eq_getElem?_getD,List.getElem?_append_left,hvs,hlt]
  have a2:(M++[x]).getD k []=M.getD k []:=by simp[List.getD_eq_getElem?_getD,List.getElem?_append_left,hlt]
  rw[a1,a2];exact h3 k hlt
abbrev Evs:=List (Nat×Nat)
def ofE(M:List (List Nat))(E:Evs)(s:Nat):List (List Nat):=(E.filter fun e=>e.1==s).map fun e=>M.getD e.2 []
theorem ofE_more(M:List (List Nat))(E:Evs)(s k t:Nat):ofE M (E++[(s,k)]) t=if t=s then ofE M E t++[M.getD k []] else ofE M E t:=by
 unfold ofE;rw[List.filter_append,List.map_append];by_cases h:t=s
 ·subst h;simp
 ·rw[if_neg h];have:((s==t):Bool)=false:=by rw[beq_eq_false_iff_ne];exact fun e=>h e.symm
  simp[List.filter_cons,this]
def evs(M:List (List Nat))(i j:Nat):Evs:=(List.range i).flatMap (fun k=>(M.getD k []).map fun s=>(s,k))++((M.getD i []).take j).map fun s=>(s,i)
theorem evs_zero(M:List (List Nat)):evs M 0 0=[]:=by simp[evs]
theorem evs_next{M:List (List Nat)}{i j:Nat}(hj:j<(M.getD i []).length):evs M i (j+1)=evs M i j++[((M.getD i []).getD j 0,i)]:=by
 unfold evs;rw[List.take_succ_eq_append_getElem hj,List.map_append,←List.append_assoc]
 congr 1
 have e:(M.getD i []).getD j 0=(M.getD i [])[j]:=by rw[List.getD_eq_getElem?_getD,List.getElem?_eq_getElem hj];rfl
 rw[e];rfl
theorem evs_row{M:List (List Nat)}{i:Nat}:evs M i (M.getD i []).length=evs M (i+1) 0:=by unfold evs;rw[List.take_length,List.take_zero,List.map_nil,List.append_nil,List.range_succ,List.flatMap_append];simp
theorem ydc{M:List (List Nat)}{N B:Nat}(hM:M.length≤N)(hB:∀ k,(M.getD k []).length≤B):∀ i,(evs M i 0).length≤i*B
 |0=>by simp[evs]
 |i+1=>by
  rw[←evs_row];have h:=ydc hM hB i;have e:(evs M i (M.getD i []).length).length=(evs M i 0).length+(M.getD i []).length:=by simp[evs]
  rw[e,Nat.add_mul,Nat.one_mul];have:=hB i;omega
structure OfI(z2 b2 r:Nat)(M:List (List Nat))(E:Evs)(w2 w:World)(l:Ents):Prop where
 map:MapAt w r l
 each:∀ s,zS w z2 b2 (valAt l s) (ofE M E s)
 two:∀ s t g,s≠t→(valAt l s).ownBlock=some g→(valAt l t).ownBlock≠some g
 kept:Kept [r] none w2 w
theorem zS.own{w:World}{b1 b2:Nat}{v:Value}{M:List (List Nat)}(h:zS w b1 b2 v M){g:Nat}(hg:v.ownBlock=some g):b1≤g∧g<w.heap.size:=by obtain⟨vs,h1,_⟩:=h;exact zfb h1 hg
theorem OfI.put{z2 b2 r i s:Nat}{M:List (List Nat)}{E:Evs}{w2 w w4 w5:World}{l:Ents}{u v':Value}{us:List Value}{X o':Obj}{x:List Nat}{c:Nat}(h:OfI z2 b2 r M E w2 w l)(hr:r<z2)(hz:z2=w2.heap.size)(hx:M.getD i []=x)(hu:ListAt w b2 u x)
  (hus:w.ownsRow z2 27 1 (valAt l s) (ofE M E s).length us∧∀ k,k<(ofE M E s).length→ListAt w b2 (us.getD k undef) ((ofE M E s).getD k []))
  (hg:(w.alloc X).grownBy w4 (valAt l s).ownBlock) (ho:w4.ownsRow z2 27 1 v' ((ofE M E s).length+1) (us++[u])) (hat:v'.ownBlock=(valAt l s).ownBlock∨v'.ownBlock=some (w.alloc X).heap.size) (h5:w5=w4.putObj r o') (hm:MapAt w5 r (updL l s v' c)):OfI z2 b2 r M (E++[(s,i)]) w2 w5 (updL l s v' c):=by
 have hsz:=h.kept.size;have hsa:(w.alloc X).heap.size=w.heap.size+1:=by simp
 have hs4:=hg.size;have hv:=fun g (e:(valAt l s).ownBlock=some g)=>(h.each s).own e
 have hold:∀ k,k<w.heap.size→k≠r→(valAt l s).ownBlock≠some k→w5.heap[k]? = w.heap[k]?:=fun k hk hkr hne=>by rw[h5];exact(World.putObj_heap_other hkr).trans ((hg.block k (by omega) (fun e=>hne e.symm)).trans (Below.heap_alloc _ _ _ hk))
 obtain⟨cl,hrm⟩:=h.map;have hc3:∀(k:Nat) (cs:Array Value) (fz:Nat×Nat),w.heap[k]? = some (Obj.cells cs 3 fz)→w5.heap[k]? = w.heap[k]?:=fun k cs fz hk=>hold k (Array.getElem?_eq_some_iff.1 hk).1 (fun e=>by rw[e,hrm] at hk;cases hk) (yYb hus.1 hk (fun cs fz e=>by cases e))
 have hv5:∀ g,v'.ownBlock=some g→w5.heap[g]? = w4.heap[g]?:=fun g hg'=>by
  rw[h5];refine World.putObj_heap_other fun e=>?_
  have:=(zfb ho hg').1;omega
 refine⟨hm,fun t=>?_,fun a b g hab ha hb=>?_,?_⟩
 ·rw[valAt_upd,ofE_more];by_cases ht:t=s
  ·rw[if_pos ht,if_pos ht];subst ht;have hlen:us.length=(ofE M E t).length:=by have:=hus.1.1;omega
   rw[hx];exact zS.more hlen (zja ho hv5) (fun k hk=>(hus.2 k hk).keepC hc3) (hu.keepC hc3)
  ·rw[if_neg ht,if_neg ht];refine(h.each t).keep (fun g hg'=>hold g ((h.each t).own hg').2 (fun e=>?_) fun e=>h.two s t g (fun e=>ht e.symm) e hg') hc3;have:=((h.each t).own hg').1;omega
 ·rw[valAt_upd] at ha hb;by_cases has:a=s
  ·rw[if_pos has] at ha;rw[if_neg (by rw[←has];exact fun e=>hab e.symm)] at hb;rcases hat with e|e
   ·rw[e] at ha;exact h.two s b g (by rw[←has];exact hab) ha hb
   ·rw[e] at ha;cases ha;have:=((h.each b).own hb).2;omega
  ·rw[if_neg has] at ha;by_cases hbs:b=s
   ·rw[if_pos hbs] at hb;rcases hat with e|e
    ·rw[e] at hb;exact h.two s a g (fun e=>has e.symm) hb ha
    ·rw[e] at hb;cases hb;have:=((h.each a).own ha).2;omega
   ·rw[if_neg hbs] at hb;exact h.two a b g hab ha hb
 ·refine⟨?_,?_,?_,?_,fun k hk hkr _=>?_⟩
  ·rw[h5];exact hg.os.trans h.kept.os
  ·rw[h5];exact hg.tape.trans h.kept.tape
  ·rw[h5];exact hg.output.trans h.kept.output
  ·rw[h5,World.putObj_size];omega
  ·refine(hold k (by omega) (fun e=>hkr (by simp[e])) fun e=>?_).trans (h.kept.block k hk hkr (by simp));have:=(hv k e).1;omega
end
section
open Go.RowKit
theorem yoa{n m:Nat}:∀(d:Nat) (x y:List Nat),y∈loopE n m d x→y.length≤x.length+d
 |0,x,y,h=>by cases h
 |d+1,x,y,h=>by
  rw[loopE,List.mem_append] at h;rcases h with h|h
  ·split at h
   ·rcases List.mem_singleton.1 h with rfl;rw[List.length_append,List.length_singleton];omega
   ·have:=yoa d _ y h;rw[List.length_append,List.length_singleton] at this;omega
  ·have:=yoa d x y h;omega
theorem extE_elem{n m:Nat}{y:List Nat}(h:y∈extE n m n []):y.length≤n:=by
 unfold extE at h;split at h
 ·rcases List.mem_singleton.1 h with rfl;simp
 ·have:=yoa n _ y h;simpa using this
theorem extE_len{n m:Nat}(hn:n≤9):(extE n m n []).length≤512:=by
 have h:=yX n m n [];have h9:2 ^ n≤2 ^ 9:=Nat.pow_le_pow_right (by omega) hn;unfold extE;split
 ·simp
 ·omega
def setsL(P:Nat→Int)(n m:Nat):List (List Nat):=filt P (extE n m n [])
theorem zBb{P:Nat→Int}{n m:Nat}(hn:n≤9):(setsL P n m).length≤512:=Nat.le_trans (List.length_filter_le _ _) (extE_len hn)
theorem zcb{P:Nat→Int}{n m:Nat}(hn:n≤9)(k:Nat):((setsL P n m).getD k []).length≤9:=by
 rw[List.getD_eq_getElem?_getD];cases h:(setsL P n m)[k]? with
 |none=>simp
 |some y=>have hy:y∈extE n m n []:=(List.mem_filter.1 (List.mem_of_getElem? h)).1;have:=extE_elem hy;simp;omega
theorem yKc(M:List (List Nat))(E:Evs)(s:Nat):(ofE M E s).length≤E.length:=by unfold ofE;rw[List.length_map];exact List.length_filter_le _ _
theorem evs_small{P:Nat→Int}{n m i j:Nat}(hn:n≤9)(hi:i<(setsL P n m).length)(hj:j<((setsL P n m).getD i []).length):(evs (setsL P n m) i j).length≤5000:=by
 have h1:=ydc (M:=setsL P n m) (N:=512) (B:=9) (zBb hn) (zcb hn) i;have h2:=zcb (P:=P) (m:=m) hn i;have h3:=zBb (P:=P) (m:=m) hn;have e:(evs (setsL P n m) i j).length=(evs (setsL P n m) i 0).length+j:=by simp only[evs,List.length_append,List.length_map,List.length_take,List.take_zero,List.length_nil];omega
 omega
theorem mkmap(w:World):(Instr.makeMap 161 none).run Tryz.prog w=.ok (.map (some w.heap.size)) (w.alloc (.map #[] 0)):=by unfold Instr.makeMap;simp[Sem.run_bind,run_newObj_alloc,Result.andThen]
def SaysOf(M:List (List Nat))(W:World)(e:Ending)(w':World):Prop:=∃ r l,e=.returned (.map (some r))∧MapAt w' r l∧(∀ s,zS w' W.heap.size W.heap.size (valAt l s) (ofE M (evs M M.length 0) s))∧Below W.heap.size W w'
theorem zS.mono{w:World}{b1 b2 c1 c2:Nat}{v:Value}{M:List (List Nat)}(h:zS w b1 b2 v M)(h1:c1≤b1)(h2:c2≤b2):zS w c1 c2 v M:=by
 obtain⟨vs,q1,q3⟩:=h;refine⟨vs,?_,fun k hk=>(q3 k hk).mono h2⟩;obtain⟨a,b|⟨g,cap,cur,e,hb,r⟩⟩:=q1
 ·exact⟨a,.inl b⟩
 ·exact⟨a,.inr ⟨g,cap,cur,e,Nat.le_trans h1 hb,r⟩⟩
theorem setsOf_any(rs rl rw:Int)(A:Option Addr)(n c:Nat)(P:Nat→Int)(m:Nat)(W:World)(hn:n≤9) :
  CallsIn Fc 0 Tryz.prog 114 #[.agg (ckCells rs rl rw m A n c P)] W (SaysOf (setsL P n m) W):=by
 obtain⟨i0,hi0,hz0,hz1,hz2⟩:=info_parts it27;have HI0:=Lib.hid hi0;have HZ0:=Lib.hid hz0;have HZ1:=Lib.hid hz1;have HZ2:=Lib.hid hz2;clear hi0 hz0 hz1 hz2;have hk0:((W.alloc (.cells (ckCells rs rl rw m A n c P) 106)).alloc (.map #[] 0)).heap[W.heap.size]? = some (.cells (ckCells rs rl rw m A n c P) 106 (0,0)):=zp (zG rfl);have HK0:=Lib.hid hk0;have hm0:MapAt ((W.alloc (.cells (ckCells rs rl rw m A n c P) 106)).alloc (.map #[] 0)) (W.heap.size+1) []:=⟨0,zG (by simp)⟩;have HM0:=Lib.hid hm0;have hb0:Below W.heap.size W ((W.alloc (.cells (ckCells rs rl rw m A n c P) 106)).alloc (.map #[] 0)):=((Below.refl _ _).alloc (Nat.le_refl _) _).alloc (by simp) _;have HB0:=Lib.hid hb0;have hset:=yic rs rl rw A n c P m ((W.alloc (.cells (ckCells rs rl rw m A n c P) 106)).alloc (.map #[] 0)) hn
 have hsml:=fun(i j:Nat) (hi:i<(setsL P n m).length) (hj:j<((setsL P n m).getD i []).length)=>evs_small (P:=P) (m:=m) hn hi hj
 have hel9:=zcb (P:=P) (m:=m) hn;have hlen5:=zBb (P:=P) (m:=m) hn;change CallsIn Fc 0 Tryz.prog 68 _ _ (yCb (setsL P n m) _) at hset;generalize setsL P n m=M at *;have HSET:=Lib.hid hset;have HSML:=Lib.hid hsml;have HEL:=Lib.hid hel9;clear hset hk0 hm0 hb0 hsml hel9;have hmk:∀ w:World,(Instr.makeMap 161 none).run Tryz.prog w=.ok (.map (some w.heap.size)) (w.alloc (.map #[] 0)):=mkmap;gi_enter Tryz.func114,Tryz.ntmps114
 gi_wp2_with (first
  |(refine zW rfl _ rfl _ _ rfl HK0.out (ck_size _ _ _ _ _ _ _ _) ?_)
  |(gi_at_call 68;refine HSET.out.mono ?_;rintro e w3 ⟨vv,S,rfl,hl,hb3⟩;have HP:=Lib.hid hl.p;have HB3:=Lib.hid hb3;clear hb3 hl;obtain⟨vs,hown,hel⟩:=HP.out;obtain⟨LV,kc,rfl⟩:=zeb hown;have HOWN:=Lib.hid hown;have HLS:=Lib.hid hel;clear hown hel))
 obtain⟨z2,hz2⟩:∃ z2,z2=w3.heap.size:=⟨_,rfl⟩;have hW2:((W.alloc (.cells (ckCells rs rl rw m A n c P) 106)).alloc (.map #[] 0)).heap.size=W.heap.size+2:=by simp
 have hr2:W.heap.size+1<z2:=by have:=HB3.out.size;omega
 have hini:OfI z2 (W.heap.size+2) (W.heap.size+1) M (evs M 0 0) w3 w3 []:=by rw[evs_zero];obtain⟨cl,hcl⟩:=HM0.out;exact⟨⟨cl,(HB3.out.block _ (by omega)).trans hcl⟩,fun s=>zS.nil _ _ _,fun s t g _ e=>(by cases e),Kept.refl _ _ _⟩
 have hEL:∀ w l E,OfI z2 (W.heap.size+2) (W.heap.size+1) M E w3 w l→w.ownsRow (W.heap.size+2) 27 1 (.slice LV M.length kc) M.length vs∧∀ k,k<M.length→ListAt w (W.heap.size+2) (vs.getD k undef) (M.getD k []):=fun w l E h=>by
  have hh:=HOWN.out;have hl:=HLS.out;rw[hW2] at hh hl;have hk:∀ g,g<z2→W.heap.size+2≤g→w.heap[g]? = w3.heap[g]?:=fun g hg h2=>h.kept.block g (by omega) (by simp;omega) (by simp)
  refine⟨zja hh fun g hg=>hk g (by have:=(zfb hh hg).2;omega) (zfb hh hg).1,fun k hlt=>(hl k hlt).kept fun g hg=>hk g (by have:=(zfb (hl k hlt) hg).2;omega) (zfb (hl k hlt) hg).1⟩
 have HEE:=Lib.hid hEL;have HR2:=Lib.hid hr2;have HZZ:=Lib.hid hz2;have HINI:=Lib.hid hini;have HW2:=Lib.hid hW2;clear hEL hr2 hz2 hini hW2 hmk
 gi_loopw [12] (fun x wr=>∃(i:Nat) (l:Ents),i≤M.length∧x=.int .i64 i∧OfI z2 (W.heap.size+2) (W.heap.size+1) M (evs M i 0) w3 wr l) (fun x _=>M.length-(intOf x).toNat)
 case atStart=>exact⟨0,[],by omega,rfl,HINI.out⟩
 case round=>
  obtain⟨i,l,hi,rfl,hof⟩:=hrel;have HOF:=Lib.hid hof;clear hof;by_cases hlt:i<M.length
  ·obtain⟨hown,hel⟩:=HEE.out _ _ _ HOF.out;have helx:=hel i hlt;obtain⟨x,hx⟩:∃ x,M.getD i []=x:=⟨_,rfl⟩;obtain⟨u,hu⟩:∃ u,vs.getD i undef=u:=⟨_,rfl⟩;rw[hx,hu] at helx;obtain⟨LX,kx,rfl,hkx,hints⟩:=helx.shape;obtain⟨_,⟨e,e0⟩|⟨gv,cap,cur,e,hbg,hgv,hcc,_⟩⟩:=hown
   ·omega
   cases e;have hcell:wr.cell? ⟨gv,i,none⟩=some (.slice LX x.length kx):=by
    have h:=(HEE.out _ _ _ HOF.out).1.cellAt i (by omega);rw[h,←hu,List.getD_eq_getElem?_getD];have hv:i<vs.length:=by have:=(HEE.out _ _ _ HOF.out).1.1;omega
    rw[List.getElem?_eq_getElem hv];rfl
   have hx9:x.length≤9:=by have:=HEL.out i;rw[hx] at this;exact this
   have HU:=Lib.hid helx;have HUU:=Lib.hid hu;have HXI:=Lib.hid hx;have hiI:(i:Int)<(M.length:Int):=by omega
   have h600:i<600:=by omega
   clear hu hints hgv hel helx;gi_wp2
   gi_loopw [18] (fun y wi=>∃(j:Nat) (l':Ents),j≤x.length∧y=.int .i64 j∧OfI z2 (W.heap.size+2) (W.heap.size+1) M (evs M i j) w3 wi l') (fun y _=>x.length-(intOf y).toNat)
   case atStart=>exact⟨0,l,by omega,rfl,HOF.out⟩
   case round=>
    obtain⟨j,l',hj,rfl,hof'⟩:=hrel;have HOF':=Lib.hid hof';clear hof';by_cases hjl:j<x.length
    ·have hux:ListAt wr (W.heap.size+2) (.slice LX x.length kx) x:=by have h:=(HEE.out _ _ _ HOF'.out).2 i hlt;rw[HXI.out] at h;have e:vs.getD i undef=.slice LX x.length kx:=HUU.out;rw[e] at h;exact h
     obtain⟨LX',kx',e,_,hints⟩:=hux.shape;cases e;obtain⟨bx,ox,rfl,hcx⟩:=hints j hjl;obtain⟨s,hs⟩:∃ s,x.getD j 0=s:=⟨_,rfl⟩
     replace hcx:wr.cell? ⟨bx,ox+j,none⟩=some (.int .i64 (s:Int)):=by rw[hcx,←hs]
     obtain⟨us,hown,hels⟩:=HOF'.out.each s;have hEl:(ofE M (evs M i j) s).length≤5000:=Nat.le_trans (yKc _ _ _) (HSML.out i j hlt (by rw[HXI.out];exact hjl));have hmap:=HOF'.out.map;have HUX:=Lib.hid hux;have HS:=Lib.hid hs;have hown1:∀ X:Obj,(wr.alloc X).ownsRow z2 27 1 (valAt l' s) (ofE M (evs M i j) s).length us:=fun X=>zu hown ((Below.refl _ _).alloc (Nat.le_refl _) X)
     have HO1:=Lib.hid hown1;have HUS:=Lib.hid (And.intro hown hels);have hzle:∀ X:Obj,z2≤(wr.alloc X).heap.size:=fun X=>by have:=HOF'.out.kept.size;have:=HZZ.out;simp;omega
     have HZLE:=Lib.hid hzle;have hm4:∀(X:Obj) w4,(wr.alloc X).grownBy w4 (valAt l' s).ownBlock→MapAt w4 (W.heap.size+1) l':=fun X w4 hg=>by obtain⟨cl,hcl⟩:=HOF'.out.map;have hlt1:W.heap.size+1<wr.heap.size:=(Array.getElem?_eq_some_iff.1 hcl).1;refine⟨cl,(hg.block _ (by simp;omega) fun e=>?_).trans ((Below.heap_alloc _ _ _ hlt1).trans hcl)⟩;have:=((HOF'.out.each s).own e.symm).1;have:=HR2.out;omega
     have HM4:=Lib.hid hm4;have hjI:(j:Int)<(x.length:Int):=by omega
     have h99:j<99:=by omega
     clear hux hints hs hown hels hown1 hzle hm4
     gi_wp2_with (first
      |(refine yB rfl _ _ rfl (W.heap.size+1) s l' rfl rfl hmap ?_)
      |(gi_at_builtin;refine wpListIn_append_own_at _ rfl _ _ 40 rfl z2 27 i0 (.slice none 0 0) 1 24 ut40 HI0.out HZ0.out HZ1.out HZ2.out rfl (by decide) (valAt l' s) (ofE M (evs M i j) s).length us rfl (HO1.out _) ⟨wr.heap.size,0,none⟩ 1 1 [.slice (some ⟨bx,ox,none⟩) x.length kx] rfl rfl (cell_one_new _ _ _) (by intro u hu;rcases List.mem_singleton.1 hu with rfl;rfl) (by simp[maxLen];omega) (by omega) (HZLE.out _) ?_;intro v' w4 ho4 hg4 hn4 ha4;have hm4':=HM4.out _ _ hg4;have HO4:=Lib.hid ho4;have HG4:=Lib.hid hg4;have HA4:=Lib.hid ha4;clear ho4 hg4 hn4 ha4)
      |(refine wpListIn_upd161 rfl _ _ _ rfl (W.heap.size+1) s l' v' rfl rfl rfl hm4' ?_;intro w5 cc hm5 hp5;have HM5:=Lib.hid hm5;have HP5:=Lib.hid hp5;clear hm5 hp5))
     obtain⟨o',hp5⟩:=HP5.out;have hput:OfI z2 (W.heap.size+2) (W.heap.size+1) M (evs M i (j+1)) w3 w5 (updL l' s v' cc):=by
      have hjl2:j<(M.getD i []).length:=by rw[HXI.out];exact hjl
      rw[evs_next hjl2,HXI.out,HS.out];exact HOF'.out.put HR2.out HZZ.out HXI.out HUX.out HUS.out HG4.out HO4.out HA4.out hp5 HM5.out
     exact⟨⟨j+1,_,by omega,rfl,hput⟩,by show x.length-(intOf (Value.int IntKind.i64 ((j:Int)+1))).toNat<x.length-(intOf (Value.int IntKind.i64 (j:Int))).toNat;simp only[intOf];omega⟩
    ·have hjI:¬(j:Int)<(x.length:Int):=by omega
     gi_wp2;obtain rfl:j=x.length:=by omega
     have hof2:OfI z2 (W.heap.size+2) (W.heap.size+1) M (evs M (i+1) 0) w3 wr l':=by have h:=HOF'.out;rw[←HXI.out,evs_row] at h;exact h
     exact⟨⟨i+1,_,by omega,rfl,hof2⟩,by show M.length-(intOf (Value.int IntKind.i64 ((i:Int)+1))).toNat<M.length-(intOf (Value.int IntKind.i64 (i:Int))).toNat;simp only[intOf];omega⟩
  ·have hiI:¬(i:Int)<(M.length:Int):=by omega
   gi_wp2;go_ret;obtain rfl:i=M.length:=by omega
   have h1:=HW2.out;have hof:=HOF.out;have hk:=hof.kept;have hb3:=HB3.out;have hb0:=HB0.out;have hzz:=HZZ.out;refine⟨W.heap.size+1,l,rfl,hof.map,fun s=>(hof.each s).mono (by have:=HR2.out;omega) (by omega),?_⟩;have hz:W.heap.size+2≤w3.heap.size:=by have:=hb3.size;omega
   refine⟨hk.os.trans (hb3.os.trans hb0.os),hk.tape.trans (hb3.tape.trans hb0.tape),hk.output.trans (hb3.output.trans hb0.output),by have:=hk.size;omega,fun k hlt=>?_⟩;exact(hk.block k (by omega) (by simp;omega) (by simp)).trans ((hb3.block k (by omega)).trans (hb0.block k hlt))
end
section
open Go.RowKit
def tkCells(T:Nat→Bool):Array Value:=#[.bool (T 0),.bool (T 1),.bool (T 2),.bool (T 3),.bool (T 4),.bool (T 5),.bool (T 6),.bool (T 7),.bool (T 8)]
def updT(T:Nat→Bool)(s:Nat):Nat→Bool:=fun k=>if k=s then true else T k
def freeT:(Nat→Bool)→List Nat→Bool
 |_,[]=>true
 |T,s::r=>if T s then false else freeT (updT T s) r
def withT:(Nat→Bool)→List Nat→Nat→Bool
 |T,[]=>T
 |T,s::r=>withT (updT T s) r
def SaysWith(T:Nat→Bool)(x:List Nat)(W:World)(e:Ending)(w':World):Prop:=e=.returned (.tuple #[.agg (tkCells (if freeT T x then withT T x else fun _=>false)),.bool (freeT T x)])∧Below W.heap.size W w'
theorem drop_at{x:List Nat}{i s:Nat}(h:i<x.length)(hs:x.getD i 0=s):x.drop i=s::x.drop (i+1):=by rw[List.drop_eq_getElem_cons h,←hs,List.getD_eq_getElem?_getD,List.getElem?_eq_getElem h];rfl
theorem i127:(Tryz.prog.info? 127).map (·.size)=some 9:=by kernel_rfl
theorem u127:(match Tryz.prog.underlying 127 with|some (.array _ _)=>true|_=>false)=true:=by kernel_rfl
theorem yZb(w:World)(g:Nat)(cs:Array Value)(hb:w.heap[g]? = some (.cells cs 127 (0,0)))(hs:cs.size=9):(loadVar 127 ⟨g,0,none⟩).run Tryz.prog w=.ok (.agg cs) w:=by
 have h:=u127;split at h
 ·next a b hu=>exact run_loadVar_row w g 127 127 cs (0,0) (.array a b) hb hu rfl (by rw[i127,hs])
 ·cases h
theorem yhb{fn:Func}{tmps:Array Value}{w:World}{g:Nat}{cs:Array Value}{t:Value}(h:fn.results=#[.cell 4 127,.tmp 5])(ht:tmps.getD 4 undef=.pointer (some ⟨g,0,none⟩))(h5:tmps.getD 5 undef=t)(hb:w.heap[g]? = some (.cells cs 127 (0,0)))(hs:cs.size=9) :
  (results fn tmps).run Tryz.prog w=.ok (.tuple #[.agg cs,t]) w:=by
 have e:=yZb w g cs hb hs;have ht':tmps[4]?.getD undef=.pointer (some ⟨g,0,none⟩):=by rw[←ht,Array.getD_eq_getD_getElem?]
 have h5':tmps[5]?.getD undef=t:=by rw[←h5,Array.getD_eq_getD_getElem?]
 unfold results;rw[h];simp[ht',h5',asAddr,e]
theorem yrc{W:World}{X Y:Obj}:((W.alloc X).alloc Y).heap[W.heap.size+1]? = some Y:=zG (by simp)
theorem with_any(T:Nat→Bool)(x:List Nat)(LX:Option Addr)(kx:Nat)(W:World)(hi:zca W LX x.length (fun k=>((x.getD k 0:Nat):Int)))(hx:∀ k,k<x.length→x.getD k 0<9)(hl:x.length≤9)(hk:x.length≤kx) :
  CallsIn Fc 0 Tryz.prog 119 #[.agg (tkCells T),.slice LX x.length kx] W (SaysWith T x W):=by
 have HI:=Lib.hid hi;have HX:=Lib.hid hx;clear hi hx;gi_enter Tryz.func119,Tryz.ntmps119;gi_wp2
 gi_loopw [10] (fun y wr=>∃(i:Nat) (T':Nat→Bool),i≤x.length∧y=.int .i64 i∧(freeT T' (x.drop i)=freeT T x∧withT T' (x.drop i)=withT T x)∧wr=(W.alloc (.cells (tkCells T') 127)).alloc (.cells #[.bool false,.bool false,.bool false,.bool false,.bool false,.bool false,.bool false,.bool false,.bool false] 127)) (fun y _=>x.length-(intOf y).toNat)
 case atStart=>exact⟨0,T,by omega,rfl,⟨rfl,rfl⟩,rfl⟩
 case round=>
  obtain⟨i,T',hi,rfl,hT,rfl⟩:=hrel;have HT:=Lib.hid hT;clear hT;by_cases hlt:i<x.length
  ·obtain⟨bx,ox,rfl,hcx⟩:=HI.out i hlt;obtain⟨s,hs⟩:∃ s,x.getD i 0=s:=⟨_,rfl⟩;have hs9:s<9:=by have:=HX.out i hlt;omega
   have hbx:bx<W.heap.size:=World.block_lt_of_cell? W _ hcx
   replace hcx:W.cell? ⟨bx,ox+i,none⟩=some (.int .i64 (s:Int)):=by rw[hcx,←hs]
   have hd:=drop_at hlt hs;have HD:=Lib.hid hd;have hliI:(i:Int)<(x.length:Int):=by omega
   have h99:i<99:=by omega
   have hT0:=HT.out;rw[HD.out] at hT0;have HS:=Lib.hid hs;clear hs hd HT;unfold tkCells at *;obtain h|h:T' s=true∨T' s=false:=by cases T' s<;>simp
   ·have h1:=hT0.1;rw[freeT,if_pos h] at h1;have HF:=Lib.hid h1.symm;clear hT0 h1;rcases(by omega:s=0∨s=1∨s=2∨s=3∨s=4∨s=5∨s=6∨s=7∨s=8) with rfl|rfl|rfl|rfl|rfl|rfl|rfl|rfl|rfl
    all_goals
     gi_wp2;refine bodyPost_ret (v:=.tuple #[.agg _,.bool false]) (yhb rfl rfl rfl yrc rfl) rfl ?_;refine⟨by rw[HF.out];rfl,?_⟩;exact((Below.refl _ _).alloc (Nat.le_refl _) _).alloc (by simp) _
   ·have h1:=hT0.1;have h2:=hT0.2;rw[freeT,if_neg (by rw[h];decide)] at h1;rw[withT] at h2;have HF:=Lib.hid (And.intro h1 h2);clear hT0 h1 h2;rcases(by omega:s=0∨s=1∨s=2∨s=3∨s=4∨s=5∨s=6∨s=7∨s=8) with rfl|rfl|rfl|rfl|rfl|rfl|rfl|rfl|rfl
    all_goals
     gi_wp2;refine⟨⟨i+1,updT T' _,by omega,rfl,⟨HF.out.1,HF.out.2⟩,rfl⟩,?_⟩;show x.length-(intOf (Value.int IntKind.i64 ((i:Int)+1))).toNat<x.length-(intOf (Value.int IntKind.i64 (i:Int))).toNat;simp only[intOf];omega
  ·have hliI:¬(i:Int)<(x.length:Int):=by omega
   have h1:=HT.out;obtain rfl:i=x.length:=by omega
   rw[List.drop_length] at h1;have h2:freeT T x=true:=h1.1.symm;have h3:withT T x=T':=h1.2.symm;have HF:=Lib.hid (And.intro h2 h3);clear h1 h2 h3 HT;unfold tkCells at *;gi_wp2;refine bodyPost_ret (v:=.tuple #[.agg _,.bool true]) (yhb rfl rfl rfl yrc rfl) rfl ?_;refine⟨by rw[HF.out.1,HF.out.2];rfl,?_⟩;exact((Below.refl _ _).alloc (Nat.le_refl _) _).alloc (by simp) _
end
section
open Go.RowKit
def cmpZ(a b:Int):Int:=if a<b then -1 else if b<a then 1 else 0
theorem yVa(a:Int)(W:World):CallsIn Fc 0 Tryz.prog 158 #[.int .i64 a] W fun e w'=>e=.returned (.bool false)∧W=w':=by gi_enter Tryz.func158,Tryz.ntmps158;gi_wp2;go_ret;exact⟨rfl,rfl⟩
theorem yT(a b:Int)(W:World):CallsIn Fc 0 Tryz.prog 137 #[.int .i64 a,.int .i64 b] W fun e w'=>e=.returned (.int .i64 (cmpZ a b))∧W=w':=by
 by_cases h1:a<b
 ·gi_enter Tryz.func137,Tryz.ntmps137
  gi_wp2_with (gi_at_call 158;refine(yVa _ _).mono ?_;rintro e w' ⟨rfl,rfl⟩)
  go_ret;exact⟨by rw[cmpZ,if_pos h1];rfl,rfl⟩
 ·have h3:¬ a<b:=h1;by_cases h2:b<a
  ·gi_enter Tryz.func137,Tryz.ntmps137
   gi_wp2_with (gi_at_call 158;refine(yVa _ _).mono ?_;rintro e w' ⟨rfl,rfl⟩)
   go_ret;exact⟨by rw[cmpZ,if_neg (by omega),if_pos (by omega)];rfl,rfl⟩
  ·gi_enter Tryz.func137,Tryz.ntmps137
   gi_wp2_with (gi_at_call 158;refine(yVa _ _).mono ?_;rintro e w' ⟨rfl,rfl⟩)
   go_ret;exact⟨by rw[cmpZ,if_neg (by omega),if_neg (by omega)];rfl,rfl⟩
def cmpL:List Nat→List Nat→Int
 | [],[]=>0
 | [],_::_=>-1
 |_::_,[]=>1
 |a::x,b::y=>if a<b then -1 else if b<a then 1 else cmpL x y
theorem dropN{x:List Nat}{i:Nat}(h:i<x.length):x.drop i=x.getD i 0::x.drop (i+1):=by rw[List.drop_eq_getElem_cons h,List.getD_eq_getElem?_getD,List.getElem?_eq_getElem h];rfl
theorem CompareL_any(LA LB:Option Addr)(lc kc:Nat)(x y:List Nat)(W:World)(hx:x.length≤9)(hy:y.length≤9)(hc:x.length≤lc)(hk:y.length≤kc)(ha:Hid (zca W LA x.length fun k=>((x.getD k 0:Nat):Int)))(hb:Hid (zca W LB y.length fun k=>((y.getD k 0:Nat):Int))) :
  CallsIn Fc 0 Tryz.prog 117 #[.slice LA x.length lc,.slice LB y.length kc] W fun e w'=>e=.returned (.int .i64 (cmpL x y))∧W=w':=by
 gi_enter Tryz.func117,Tryz.ntmps117;gi_wp2
 gi_loopw [11] (fun z wr=>∃ k:Nat,k≤x.length∧k≤y.length∧z=.int .i64 k∧wr=W∧cmpL (x.drop k) (y.drop k)=cmpL x y) (fun z _=>x.length-(intOf z).toNat)
 case atStart=>exact⟨0,by omega,by omega,rfl,rfl,rfl⟩
 case round=>
  obtain⟨k,hkx,hky,rfl,rfl,heq⟩:=hrel;have HEQ:=Lib.hid heq;clear heq;by_cases hlt:k<x.length
  ·obtain⟨b1,o1,rfl,q1⟩:=ha.out k hlt;have hltI:(k:Int)<(x.length:Int):=by omega
   have h99:k<99:=by omega
   by_cases hlt2:k<y.length
   ·obtain⟨b2,o2,rfl,q2⟩:=hb.out k hlt2;have hnlt:¬(k:Int)≥y.length:=by omega
    have hlt2I:(k:Int)<(y.length:Int):=by omega
    obtain⟨a,ha'⟩:∃ a,x.getD k 0=a:=⟨_,rfl⟩;obtain⟨b,hb'⟩:∃ b,y.getD k 0=b:=⟨_,rfl⟩
    replace q1:wr.cell? ⟨b1,o1+k,none⟩=some (.int .i64 (a:Int)):=by rw[q1,←ha']
    replace q2:wr.cell? ⟨b2,o2+k,none⟩=some (.int .i64 (b:Int)):=by rw[q2,←hb']
    have h:=HEQ.out;rw[dropN hlt,dropN hlt2,ha',hb',cmpL] at h;have HH:=Lib.hid h;clear h ha' hb';by_cases h1:a<b
    ·have hz:cmpZ (a:Int) (b:Int) = -1:=by unfold cmpZ;rw[if_pos (by omega)]
     have hp:=HH.out;rw[if_pos h1] at hp;have HP:=Lib.hid hp;clear hp
     gi_wp2_with (gi_at_call 137;refine(yT _ _ _).mono ?_;rintro e w' ⟨rfl,rfl⟩)
     go_ret;exact⟨by rw[←HP.out];first|rfl|simp[hz],rfl⟩
    ·by_cases h2:b<a
     ·have hz:cmpZ (a:Int) (b:Int)=1:=by unfold cmpZ;rw[if_neg (by omega),if_pos (by omega)]
      have hp:=HH.out;rw[if_neg h1,if_pos h2] at hp;have HP:=Lib.hid hp;clear hp
      gi_wp2_with (gi_at_call 137;refine(yT _ _ _).mono ?_;rintro e w' ⟨rfl,rfl⟩)
      go_ret;exact⟨by rw[←HP.out];first|rfl|simp[hz],rfl⟩
     ·have hz:cmpZ (a:Int) (b:Int)=0:=by unfold cmpZ;rw[if_neg (by omega),if_neg (by omega)]
      have hp:=HH.out;rw[if_neg h1,if_neg h2] at hp;have HP:=Lib.hid hp;clear hp
      gi_wp2_with (gi_at_call 137;refine(yT _ _ _).mono ?_;rintro e w' ⟨rfl,rfl⟩)
      go_roundw
      case rel=>exact⟨k+1,by omega,by omega,by go_num,trivial,HP.out⟩
      case measure=>simp[intOf];omega
   ·have hnlt:(k:Int)≥y.length:=by omega
    obtain rfl:k=y.length:=by omega
    have h:=HEQ.out;rw[dropN hlt,List.drop_length,cmpL] at h;have HH:=Lib.hid h;clear h;gi_wp2;go_ret;exact⟨by rw[←HH.out];rfl,rfl⟩
  ·obtain rfl:k=x.length:=by omega
   have h:=HEQ.out;rw[List.drop_length] at h;by_cases hxy:x.length<y.length
   ·rw[dropN hxy,cmpL] at h;have HH:=Lib.hid h;have hI:(x.length:Int)<(y.length:Int):=by omega
    clear h;gi_wp2;go_ret;exact⟨by rw[←HH.out];rfl,rfl⟩
   ·have e:y.drop x.length=[]:=List.drop_eq_nil_of_le (by omega);rw[e,cmpL] at h;have HH:=Lib.hid h;have hI:¬(x.length:Int)<(y.length:Int):=by omega
    clear h;gi_wp2;go_ret;exact⟨by rw[←HH.out];rfl,rfl⟩
end
section
open Go.RowKit
def cmpLL:List (List Nat)→List (List Nat)→Int
 | [],[]=>0
 | [],_::_=>-1
 |_::_,[]=>1
 |a::x,b::y=>if cmpL a b≠0 then cmpL a b else cmpLL x y
def ztb(A B:List (List Nat)):Bool:=if A.length=B.length then decide (cmpLL A B<0) else decide (B.length<A.length)
def zlc(w:World)(v:Value)(M:List (List Nat)):Prop:=∃ LA lc,v=.slice LA M.length lc∧M.length≤lc∧∀ k,k<M.length→∃ b o LX kx,LA=some ⟨b,o,none⟩∧w.cell? ⟨b,o+k,none⟩=some (.slice LX (M.getD k []).length kx)∧(M.getD k []).length≤kx∧zca w LX (M.getD k []).length (fun j=>(((M.getD k []).getD j 0:Nat):Int))
theorem ywc{x:List (List Nat)}{i:Nat}(h:i<x.length):x.drop i=x.getD i []::x.drop (i+1):=by rw[List.drop_eq_getElem_cons h,List.getD_eq_getElem?_getD,List.getElem?_eq_getElem h];rfl
theorem CompareLL_any(LA LB:Option Addr)(lc kc:Nat)(A B:List (List Nat))(W:World)(hx:A.length≤9)(hm:B.length=A.length)(hA:∀ k,(A.getD k []).length≤9)(hB:∀ k,(B.getD k []).length≤9)(ha:zlc W (.slice LA A.length lc) A)(hb:zlc W (.slice LB B.length kc) B) :
  CallsIn Fc 0 Tryz.prog 142 #[.slice LA A.length lc,.slice LB B.length kc,.func (.func 117) #[] #[]] W fun e w'=>e=.returned (.int .i64 (cmpLL A B))∧W=w':=by
 have HA9:=Lib.hid hA;have HB9:=Lib.hid hB;obtain⟨_,_,e,hlc,hra⟩:=ha;cases e;obtain⟨_,_,e,hkc,hrb⟩:=hb;cases e;have HA:=Lib.hid hra;have HB:=Lib.hid hrb;rw[hm] at hkc ⊢;clear hra hrb hA hB;gi_enter Tryz.func142,Tryz.ntmps142;gi_wp2
 gi_loopw [13] (fun z wr=>∃ k:Nat,k≤A.length∧z=.int .i64 k∧wr=W∧cmpLL (A.drop k) (B.drop k)=cmpLL A B) (fun z _=>A.length-(intOf z).toNat)
 case atStart=>exact⟨0,by omega,rfl,rfl,rfl⟩
 case round=>
  obtain⟨k,hkx,rfl,rfl,heq⟩:=hrel;have HEQ:=Lib.hid heq;clear heq;by_cases hlt:k<A.length
  ·have hltB:k<B.length:=by omega
   obtain⟨b1,o1,LX,kx,rfl,q1,hkx1,hi1⟩:=HA.out k hlt;obtain⟨b2,o2,LY,ky,rfl,q2,hky1,hi2⟩:=HB.out k hltB;have h9a:=HA9.out k;have h9b:=HB9.out k;have h:=HEQ.out;rw[ywc hlt,ywc hltB,cmpLL] at h;obtain⟨a,ha'⟩:∃ a,A.getD k []=a:=⟨_,rfl⟩;obtain⟨b,hb'⟩:∃ b,B.getD k []=b:=⟨_,rfl⟩;rw[ha'] at q1 hkx1 hi1 h9a h;rw[hb'] at q2 hky1 hi2 h9b h;have HH:=Lib.hid h;have HI1:=Lib.hid hi1;have HI2:=Lib.hid hi2;have hltI:(k:Int)<(A.length:Int):=by omega
   have h99:k<99:=by omega
   have hnlt:¬(k:Int)≥A.length:=by omega
   clear h ha' hb' hi1 hi2 hltB;have hcall:=CompareL_any LX LY kx ky a b wr h9a h9b hkx1 hky1 HI1 HI2;by_cases hz:cmpL a b=0
   ·have hp:=HH.out;rw[if_neg (by rw[hz];simp)] at hp;rw[hz] at hcall;have HP:=Lib.hid hp;have HC:=Lib.hid hcall;clear hp hcall hz HH
    gi_wp2_with (gi_at_call 117;refine HC.out.mono ?_;rintro e w' ⟨rfl,rfl⟩)
    go_roundw
    case rel=>exact⟨k+1,by omega,by go_num,trivial,HP.out⟩
    case measure=>simp[intOf];omega
   ·have hp:=HH.out;rw[if_pos hz] at hp;rw[hp] at hcall hz;have HC:=Lib.hid hcall;clear hp hcall HH;obtain⟨zz,hzz⟩:∃ zz,cmpLL A B=zz:=⟨_,rfl⟩;rw[hzz] at hz HC;have HZ:=Lib.hid hzz;clear hzz
    gi_wp2_with (gi_at_call 117;refine HC.out.mono ?_;rintro e w' ⟨rfl,rfl⟩)
    go_ret;exact⟨by rw[HZ.out];rfl,rfl⟩
  ·obtain rfl:k=A.length:=by omega
   have h:=HEQ.out;have e:B.drop A.length=[]:=List.drop_eq_nil_of_le (by omega);rw[List.drop_length,e,cmpLL] at h;have HH:=Lib.hid h;have hnI:¬(A.length:Int)<(A.length:Int):=by omega
   clear h e;gi_wp2;go_ret;exact⟨by rw[←HH.out];rfl,rfl⟩
theorem better_any(LA LB:Option Addr)(lc kc:Nat)(A B:List (List Nat))(W:World)(hx:A.length≤9)(hy:B.length≤9)(hA:∀ k,(A.getD k []).length≤9)(hB:∀ k,(B.getD k []).length≤9)(ha:zlc W (.slice LA A.length lc) A)(hb:zlc W (.slice LB B.length kc) B) :
  CallsIn Fc 0 Tryz.prog 116 #[.slice LA A.length lc,.slice LB B.length kc,.func (.func 117) #[] #[]] W fun e w'=>e=.returned (.bool (ztb A B))∧W=w':=by
 by_cases h:A.length=B.length
 ·have hc:=CompareLL_any LA LB lc kc A B W hx h.symm hA hB ha hb;obtain⟨z,hz⟩:∃ z,cmpLL A B=z:=⟨_,rfl⟩;rw[hz] at hc;have HC:=Lib.hid hc;have e:ztb A B=decide (z<0):=by unfold ztb;rw[if_pos h,hz]
  rw[e];rw[←h] at HC ⊢;have hne:¬(A.length:Int)≠A.length:=by omega
  clear hc hz e hA hB ha hb h;gi_enter Tryz.func116,Tryz.ntmps116
  gi_wp2_with (gi_at_call 142;refine HC.out.mono ?_;rintro e w' ⟨rfl,rfl⟩)
  go_ret;exact⟨by simp,rfl⟩
 ·have e:ztb A B=decide (B.length<A.length):=by unfold ztb;rw[if_neg h]
  rw[e];clear e hA hB ha hb;gi_enter Tryz.func116,Tryz.ntmps116;gi_wp2;go_ret;exact⟨by simp,rfl⟩
end
section
open Go.RowKit
def tryE(n:Nat)(O:Nat→List (List Nat)):Nat→(Nat→Bool)→List (List Nat)→List (List Nat)→List (List Nat)
 |0,_,S,B=>if ztb S B then S else B
 |d+1,T,S,B=>tryE n O d (updT T (n-(d+1))) S (if T (n-(d+1)) then B else(O (n-(d+1))).foldl (fun B x=>if freeT T x then tryE n O d (withT T x) (S++[x]) B else B) B)
def tryL(n:Nat)(O:Nat→List (List Nat))(d:Nat)(T:Nat→Bool)(S:List (List Nat))(X B:List (List Nat)):List (List Nat):=X.foldl (fun B x=>if freeT T x then tryE n O d (withT T x) (S++[x]) B else B) B
def Few(S:List (List Nat)):Prop:=S.length≤9∧∀ k,(S.getD k []).length≤9
theorem Few.more{S:List (List Nat)}{x:List Nat}(h:Few S)(hS:S.length<9)(hx:x.length≤9):Few (S++[x]):=by
 refine⟨by rw[List.length_append,List.length_singleton];omega,fun k=>?_⟩;by_cases e:k<S.length
 ·simpa[List.getD_eq_getElem?_getD,List.getElem?_append_left e] using h.2 k
 ·by_cases e2:k=S.length
  ·subst e2;simpa[List.getD_eq_getElem?_getD] using hx
  ·rw[List.getD_eq_getElem?_getD,List.getElem?_eq_none (by rw[List.length_append,List.length_singleton];omega)];simp
def Row(w0:World)(b2:Nat)(w:World)(v:Value)(S:List (List Nat)):Prop:=∃ vs:List Value,w.ownsRow w0.heap.size 27 1 v S.length vs∧∀ k,k<S.length→ListAt w0 b2 (vs.getD k undef) (S.getD k [])
theorem Row.keep{w0 w w':World}{b2:Nat}{v:Value}{S:List (List Nat)}(h:Row w0 b2 w v S)(hv:∀ g,v.ownBlock=some g→w'.heap[g]? = w.heap[g]?):Row w0 b2 w' v S:=by obtain⟨vs,h1,h2⟩:=h;exact⟨vs,zja h1 hv,h2⟩
theorem Row.own{w0 w:World}{b2:Nat}{v:Value}{S:List (List Nat)}(h:Row w0 b2 w v S){g:Nat}(hg:v.ownBlock=some g):w0.heap.size≤g∧g<w.heap.size:=by obtain⟨vs,h1,_⟩:=h;exact zfb h1 hg
theorem Row.nil(w0:World)(b2:Nat)(w:World):Row w0 b2 w (.slice none 0 0) []:=⟨[],World.ownsRow_nil _ _ _ _,fun k hk=>by simp at hk⟩
def Old(w0:World)(bb:Nat)(w:World):Prop:=Kept [bb] none w0 w
theorem Old.list{w0 w:World}{bb b2:Nat}{v u:Value}{x:List Nat}(h:Old w0 bb w)(hb:w0.heap[bb]? = some (.cells #[u] 40 (0,0)))(hx:ListAt w0 b2 v x):ListAt w b2 v x:=by
 refine hx.kept fun g hg=>h.block g (hx.lt hg) (fun e=>?_) (by simp)
 rcases List.mem_singleton.1 e with rfl;obtain⟨_,⟨e,_⟩|⟨g',c',r',e,_,q6,_⟩⟩:=hx
 ·rw[e] at hg;cases hg
 ·rw[e] at hg;cases hg;rw[hb] at q6;cases q6
theorem Row.read{w0 w:World}{b2 bb:Nat}{v u:Value}{S:List (List Nat)}(h:Row w0 b2 w v S)(ho:Old w0 bb w)(hb:w0.heap[bb]? = some (.cells #[u] 40 (0,0))):zlc w v S:=by
 obtain⟨vs,h1,h2⟩:=h;obtain⟨hl,⟨rfl,h0⟩|⟨g,cap,cur,rfl,hbg,hg,hc,hm,hs,ht⟩⟩:=id h1
 ·refine⟨none,0,by rw[h0],by omega,fun k hk=>by omega⟩
 ·refine⟨_,cap,rfl,hc,fun k hk=>?_⟩;obtain⟨LX,kx,e,q1,q2⟩:=(ho.list hb (h2 k hk)).shape;refine⟨g,0,LX,kx,rfl,?_,q1,q2⟩;have hv:k<vs.length:=by omega
  rw[Nat.zero_add,h1.cellAt k (by omega),←e,List.getD_eq_getElem?_getD,List.getElem?_eq_getElem hv];rfl
theorem Row.more{w0 w w':World}{b2:Nat}{v v' u:Value}{S:List (List Nat)}{x:List Nat}{vs:List Value}(hvs:vs.length=S.length)(h1:w'.ownsRow w0.heap.size 27 1 v' (S.length+1) (vs++[u]))(h2:∀ k,k<S.length→ListAt w0 b2 (vs.getD k undef) (S.getD k []))(hu:ListAt w0 b2 u x):Row w0 b2 w' v' (S++[x]):=by
 refine⟨vs++[u],by rw[List.length_append];exact h1,fun k hk'=>?_⟩;rw[List.length_append,List.length_singleton] at hk';by_cases e:k=S.length
 ·subst e;have a1:(vs++[u]).getD S.length undef=u:=by rw[←hvs];simp[List.getD_eq_getElem?_getD]
  have a2:(S++[x]).getD S.length []=x:=by simp[List.getD_eq_getElem?_getD]
  rw[a1,a2];exact hu
 ·have hlt:k<S.length:=by omega
  have a1:(vs++[u]).getD k undef=vs.getD k undef:=by simp[List.getD_eq_getElem?_getD,List.getElem?_append_left,hvs,hlt]
  have a2:(S++[x]).getD k []=S.getD k []:=by simp[List.getD_eq_getElem?_getD,List.getElem?_append_left,hlt]
  rw[a1,a2];exact h2 k hlt
theorem Row.part{w0 w:World}{b2 g cap:Nat}{S:List (List Nat)}{x:List Nat}(h:Row w0 b2 w (.slice (some ⟨g,0,none⟩) (S.length+1) cap) (S++[x])):Row w0 b2 w (.slice (some ⟨g,0,none⟩) S.length cap) S:=by
 obtain⟨vs,h1,h2⟩:=h;rw[List.length_append,List.length_singleton] at h1 h2;have hl:=h1.1;have e:vs=vs.take S.length++vs.drop S.length:=(List.take_append_drop _ _).symm;have ht:(vs.take S.length).length=S.length*1:=by rw[List.length_take];omega
 rw[e] at h1;refine⟨vs.take S.length,yka ht (by omega) h1,fun k hk=>?_⟩;have h:=h2 k (by omega);have a1:vs.getD k undef=(vs.take S.length).getD k undef:=by simp[List.getD_eq_getElem?_getD,List.getElem?_take,hk]
 have a2:(S++[x]).getD k []=S.getD k []:=by simp[List.getD_eq_getElem?_getD,List.getElem?_append_left,hk]
 rw[a1,a2] at h;exact h
def SaysRow(w0:World)(b2:Nat)(S:List (List Nat))(W:World)(e:Ending)(w':World):Prop:=∃ u,e=.returned u∧Row w0 b2 w' u S∧Below W.heap.size W w'∧∀ g,u.ownBlock=some g→W.heap.size≤g
theorem CloneLL_any(w0:World)(b2:Nat)(v:Value)(S:List (List Nat))(W:World)(hS:S.length≤9)(h0:w0.heap.size≤W.heap.size)(hl:Hid (Row w0 b2 W v S)) :
    CallsIn Fc 0 Tryz.prog 118 #[v] W (SaysRow w0 b2 S W):=by
  obtain⟨i0,hi0,hz0,hz1,hz2⟩:=info_parts it27;have HI0:=Lib.hid hi0;have HZ0:=Lib.hid hz0;have HZ1:=Lib.hid hz1;have HZ2:=Lib.hid hz2;clear hi0 hz0 hz1 hz2;obtain⟨vs,how,hel⟩:=hl.out;have HEL:=Lib.hid hel;obtain⟨hlen,⟨rfl,hx0⟩|⟨g,cap,cur,rfl,hbg,hg,hc,hm,hs,ht⟩⟩:=id how
  · have hxn:S=[]:=List.eq_nil_of_length_eq_zero hx0;subst hxn;have hnil:∀ w:World,(binOp .eql 40 (.slice none 0 0) (.slice none 0 0)).run Tryz.prog w=.ok (.bool true) w:=fun w=>by
      first|exact Lib.run_eql_nil_slice w 40 27 ut40|(simp[binOp,run_underlying ut40,Sem.run_bind];rfl)
    clear hel how;gi_enter Tryz.func118,Tryz.ntmps118;gi_wp2;go_ret;exact⟨_,rfl,Row.nil _ _ _,Below.refl _ _,fun g hg=>by cases hg⟩
  · have hnil:∀ w:World,(binOp .eql 40 (.slice (some ⟨g,0,none⟩) S.length cap) (.slice none 0 0)).run Tryz.prog w=.ok (.bool false) w:=fun w=>Lib.run_eql_slice_nil w 40 27 _ S.length cap 0 0 ut40
    have HCE:=how.cells (g:=g) rfl;have hcell:∀ j u,vs[j]? = some u→(W.alloc (.cells #[] 27)).cell? ((⟨g,0,none⟩:Addr).add j)=some u:=fun j u hj=>Below.old ((Below.refl _ _).alloc (Nat.le_refl _) _) (HCE j u hj)
    have hone:∀ u,u∈vs→u.oneCell'=true:=fun u hu=>by obtain⟨k,hk⟩:=List.mem_iff_getElem?.1 hu;have hlt:k<vs.length:=(List.getElem?_eq_some_iff.1 hk).1;obtain⟨LX,kx,e,_⟩:=(hel k (by omega)).shape;rw[List.getD_eq_getElem?_getD,hk] at e;cases e;rfl
    have HC:=Lib.hid hcell;have HONE:=Lib.hid hone;have hvl:vs.length=S.length:=by omega
    clear HCE hcell hg hs ht hel how hone;gi_enter Tryz.func118,Tryz.ntmps118
    gi_wp2_with
      (gi_at_builtin
       refine wpListIn_append_own _ rfl _ _ 40 rfl W.heap.size 27 i0 (.slice none 0 0) 1 24 ut40 HI0.out HZ0.out HZ1.out HZ2.out rfl (by decide) (.slice (some ⟨W.heap.size,0,none⟩) 0 0) 0 [] rfl ⟨rfl,.inr ⟨W.heap.size,0,#[],rfl,by omega,heap_alloc_new _ _,by omega,by simp[maxLen],by simp,by simp⟩⟩ ⟨g,0,none⟩ S.length cap vs rfl (by omega) HC.out HONE.out (by simp[maxLen];omega) (by omega) (by simp) ?_;intro v' w4 hown4 hg4 hnil4;have HO:=Lib.hid hown4;have HG:=Lib.hid hg4;clear hg4 hnil4 hown4)
    go_ret;have ho:=HO.out;rw[Nat.zero_add,List.nil_append] at ho;have hb:Below W.heap.size W w4:=((Below.refl _ _).alloc (Nat.le_refl _) _).grown HG.out (by simp) (fun k e=>by cases e;exact Nat.le_refl _);refine⟨_,rfl,⟨vs,?_,HEL.out⟩,hb,fun k hk=>(zfb ho hk).1⟩;obtain⟨q1,q2|⟨g',c',r',e,q3,q4⟩⟩:=ho
    · exact⟨q1,.inl q2⟩
    · exact⟨q1,.inr ⟨g',c',r',e,by omega,q4⟩⟩
end
section
open Go.RowKit
structure zbc(w0:World)(b1 b2 bc bb bo bt r n c:Nat)(A:Option Addr)(l:Ents)(O:Nat→List (List Nat)):Prop where
 c4:w0.cell? ⟨bc,4,none⟩=some (.slice A n c)
 mo:w0.cell? ⟨bo,0,none⟩=some (.map (some r))
 mt:w0.cell? ⟨bt,0,none⟩=some (.func (.func 115) #[] #[ptr bc,ptr bb,ptr bo,ptr bt])
 box:∃ u,w0.heap[bb]? = some (.cells #[u] 40 (0,0))
 map:MapAt w0 r l
 sets:∀ s,zS w0 b1 b2 (valAt l s) (O s)
 few:∀ s,(O s).length≤5000∧(∀ k,((O s).getD k []).length≤9)∧∀ k j,j<((O s).getD k []).length→((O s).getD k []).getD j 0<9
 ne:bc≠bb∧bo≠bb∧bt≠bb
theorem yda{w w':World}{b i:Nat}{v:Value}(h:w'.heap[b]? = w.heap[b]?)(hc:w.cell? ⟨b,i,none⟩=some v):w'.cell? ⟨b,i,none⟩=some v:=by simpa[World.cell?,h] using hc
structure EnvAt(w:World)(b1 b2 bc bb bo bt r n c:Nat)(A:Option Addr)(l:Ents)(O:Nat→List (List Nat)):Prop where
 c4:w.cell? ⟨bc,4,none⟩=some (.slice A n c)
 mo:w.cell? ⟨bo,0,none⟩=some (.map (some r))
 mt:w.cell? ⟨bt,0,none⟩=some (.func (.func 115) #[] #[ptr bc,ptr bb,ptr bo,ptr bt])
 map:MapAt w r l
 sets:∀ s,zS w b1 b2 (valAt l s) (O s)
theorem yyc{w:World}{b bb t:Nat}{cs:Array Value}{u:Value}{fz:Nat×Nat}(h:w.heap[b]? = some (.cells cs t fz))(hb:w.heap[bb]? = some (.cells #[u] 40 (0,0)))(ht:t≠40):b≠bb:=fun e=>by subst e;rw[h] at hb;cases hb;exact ht rfl
theorem zbc.at_{w0 w:World}{b1 b2 bc bb bo bt r n c:Nat}{A:Option Addr}{l:Ents}{O:Nat→List (List Nat)}(h:zbc w0 b1 b2 bc bb bo bt r n c A l O)(ho:Old w0 bb w):EnvAt w b1 b2 bc bb bo bt r n c A l O:=by
 obtain⟨u,hu⟩:=h.box;obtain⟨n1,n2,n3⟩:=h.ne;have hk:∀ k,k<w0.heap.size→k≠bb→w.heap[k]? = w0.heap[k]?:=fun k h1 h2=>ho.block k h1 (fun e=>h2 (List.mem_singleton.1 e)) (by simp)
 refine⟨yda (hk _ (World.block_lt_of_cell? w0 _ h.c4) n1) h.c4,yda (hk _ (World.block_lt_of_cell? w0 _ h.mo) n2) h.mo,yda (hk _ (World.block_lt_of_cell? w0 _ h.mt) n3) h.mt,?_,fun s=>?_⟩
 ·obtain⟨cl,hm⟩:=h.map;exact⟨cl,(hk r (Array.getElem?_eq_some_iff.1 hm).1 (fun e=>by rw[e,hu] at hm;cases hm)).trans hm⟩
 ·refine(h.sets s).keep (fun g hg=>hk g ((h.sets s).own hg).2 fun e=>?_) fun k cs fz hc=>hk k (Array.getElem?_eq_some_iff.1 hc).1 (yyc hc hu (by decide))
  obtain⟨vs,h1,_⟩:=h.sets s;obtain⟨_,⟨e',_⟩|⟨g',c',r',e',_,q6,_⟩⟩:=h1
  ·rw[e'] at hg;cases hg
  ·rw[e'] at hg;cases hg;exact yyc q6 hu (by decide) e
structure Asks(w0:World)(b2 bb:Nat)(w:World)(sv:Value)(S:List (List Nat))(bv:Value)(B:List (List Nat)):Prop where
 old:Old w0 bb w
 best:w.heap[bb]? = some (.cells #[bv] 40 (0,0))∧Row w0 b2 w bv B
 few:Few S∧Few B
 share:Row w0 b2 w sv S
 apart:∀ g,sv.ownBlock=some g→bv.ownBlock≠some g
structure Tried(w0:World)(b2 bb:Nat)(w w':World)(sv:Value)(S:List (List Nat))(bv:Value)(B':List (List Nat)):Prop where
 best:∃ bv',(w'.heap[bb]? = some (.cells #[bv'] 40 (0,0))∧Row w0 b2 w' bv' B')∧∀ g,bv'.ownBlock=some g→bv.ownBlock=some g∨w.heap.size≤g
 few:Few B'
 share:Row w0 b2 w' sv S
 kept:Kept [bb] sv.ownBlock w w'
section
variable {w0 w w1 w2:World}{b2 bb:Nat}{sv u bv:Value}{S B B1 B2:List (List Nat)}{x:List Nat}
theorem Asks.bbs(h:Asks w0 b2 bb w sv S bv B):bb<w.heap.size:=(Array.getElem?_eq_some_iff.1 h.best.1).1
theorem Asks.below(h:Asks w0 b2 bb w sv S bv B)(hb:Below w.heap.size w w1):Asks w0 b2 bb w1 sv S bv B:=
 ⟨h.old.trans (Kept.of_below [bb] none hb) (fun x hx _=>.inl hx) (fun x hx _=>by cases hx),⟨(hb.block _ h.bbs).trans h.best.1,h.best.2.keep fun g hg=>hb.block _ (h.best.2.own hg).2⟩,h.few,h.share.keep fun g hg=>hb.block _ (h.share.own hg).2,h.apart⟩
theorem Asks.start(h:Asks w0 b2 bb w sv S bv B):Tried w0 b2 bb w w sv S bv B:=⟨⟨bv,h.best,fun g hg=>.inl hg⟩,h.few.2,h.share,Kept.refl _ _ _⟩
theorem Tried.asks(hbb:bb<w0.heap.size)(h:Asks w0 b2 bb w sv S bv B)(t:Tried w0 b2 bb w w1 sv S bv B1):∃ bv',Asks w0 b2 bb w1 sv S bv' B1∧∀ g,bv'.ownBlock=some g→bv.ownBlock=some g∨w.heap.size≤g:=by
 obtain⟨bv',q1,q2⟩:=t.best;refine⟨bv',⟨h.old.trans t.kept (fun x hx _=>.inl hx) (fun x hx hlt=>?_),q1,⟨h.few.1,t.few⟩,t.share,fun g hg e=>?_⟩,q2⟩
 ·have:=(h.share.own hx).1;omega
 ·rcases q2 g e with h'|h'
  ·exact h.apart g hg h'
  ·have:=(h.share.own hg).2;omega
theorem Tried.trans{bv1:Value}(t:Kept [bb] sv.ownBlock w w1)(h1:∀ g,bv1.ownBlock=some g→bv.ownBlock=some g∨w.heap.size≤g)(t2:Tried w0 b2 bb w1 w2 sv S bv1 B2):Tried w0 b2 bb w w2 sv S bv B2:=by
 obtain⟨bv',q1,q2⟩:=t2.best;have hsz:=t.size;refine⟨⟨bv',q1,fun g hg=>?_⟩,t2.few,t2.share,t.trans t2.kept (fun x hx _=>.inl hx) fun x hx _=>.inr hx⟩;rcases q2 g hg with h|h
 ·exact h1 g h
 ·exact .inr (by omega)
theorem Tried.below(hb:Below w.heap.size w w1)(t2:Tried w0 b2 bb w1 w2 sv S bv B2):Tried w0 b2 bb w w2 sv S bv B2:=Tried.trans (Kept.of_below _ _ hb) (fun g hg=>.inl hg) t2
structure zdc(w0:World)(b2:Nat)(v u:Value)(S:List (List Nat))(x:List Nat)(w w':World):Prop where
 new:Row w0 b2 w' u (S++[x])
 old:Row w0 b2 w' v S
 kept:Kept [] v.ownBlock w w'
 lies:(∃ g cap,v=.slice (some ⟨g,0,none⟩) S.length cap∧u=.slice (some ⟨g,0,none⟩) (S.length+1) cap)∨∃ g,w.heap.size≤g∧u.ownBlock=some g
theorem zdc.asks(hbb:bb<w0.heap.size)(h:Asks w0 b2 bb w sv S bv B)(hS:S.length<9)(hx:x.length≤9)(t:zdc w0 b2 sv u S x w w1):Asks w0 b2 bb w1 u (S++[x]) bv B:=by
 have hsv:=fun g (hg:sv.ownBlock=some g)=>h.share.own hg
 refine⟨h.old.trans t.kept (fun x hx _=>by cases hx) (fun x hx hlt=>by have:=(hsv x hx).1;omega),⟨(t.kept.block bb h.bbs (by simp) fun e=>by have:=(hsv bb e).1;omega).trans h.best.1,h.best.2.keep fun g hg=>t.kept.block g (h.best.2.own hg).2 (by simp) fun e=>h.apart g e hg⟩,⟨h.few.1.more hS hx,h.few.2⟩,t.new,fun g hg e=>?_⟩;rcases t.lies with⟨g',cap,rfl,rfl⟩|⟨g',hg',hu⟩
 ·exact h.apart g hg e
 ·rw[hu] at hg;cases hg;have:=(h.best.2.own e).2;omega
theorem zdc.tried(hbb:bb<w0.heap.size)(h:Asks w0 b2 bb w sv S bv B)(t:zdc w0 b2 sv u S x w w1)(t2:Tried w0 b2 bb w1 w2 u (S++[x]) bv B2):Tried w0 b2 bb w w2 sv S bv B2:=by
 have hsz:=t.kept.size;obtain⟨bv',q1,q2⟩:=t2.best;refine⟨⟨bv',q1,fun g hg=>(q2 g hg).imp id fun h=>by omega⟩,t2.few,?_,?_⟩
 ·rcases t.lies with⟨g,cap,rfl,rfl⟩|⟨g,hg,hu⟩
  ·exact t2.share.part
  ·refine t.old.keep fun k hk=>t2.kept.block k (t.old.own hk).2 (fun e=>?_) fun e=>?_
   ·rcases List.mem_singleton.1 e with rfl;have:=(h.share.own hk).1;omega
   ·rw[hu] at e;cases e;have:=(h.share.own hk).2;omega
 ·refine(Kept.wideS t.kept).trans t2.kept (fun k hk _=>.inl hk) fun k hk hlt=>.inr ?_
  rcases t.lies with⟨g,cap,rfl,rfl⟩|⟨g,hg,hu⟩
  ·exact hk
  ·rw[hu] at hk;cases hk;omega
theorem Asks.put(hbb:bb<w0.heap.size)(h:Asks w0 b2 bb w sv S bv B)(hb:Below w.heap.size w w1)(hu:Row w0 b2 w1 u S)(hlt:∀ g,u.ownBlock=some g→w.heap.size≤g)(h2:w2=w1.putObj bb (.cells #[u] 40)):Tried w0 b2 bb w w2 sv S bv S:=by
 have hs:=hb.size;have hbs:=h.bbs;have hk:∀ k,k≠bb→w2.heap[k]? = w1.heap[k]?:=fun k hk=>by rw[h2];exact World.putObj_heap_other hk
 refine⟨⟨u,⟨?_,hu.keep fun g hg=>hk g ?_⟩,fun g hg=>.inr (hlt g hg)⟩,h.few.1,h.share.keep fun g hg=>(hk g ?_).trans (hb.block g (h.share.own hg).2),?_⟩
 ·rw[h2];exact World.putObj_heap_same (by omega)
 ·have:=(hu.own hg).1;omega
 ·have:=(h.share.own hg).1;omega
 ·refine⟨by rw[h2];exact hb.os,by rw[h2];exact hb.tape,by rw[h2];exact hb.output,by rw[h2,World.putObj_size];exact hs,fun k hlt h3 _=>(hk k fun e=>h3 (by simp[e])).trans (hb.block k hlt)⟩
end
end
section
open Go.RowKit
def zkc(w0:World)(b2 bb:Nat)(W:World)(sv:Value)(S:List (List Nat))(bv:Value)(B':List (List Nat))(e:Ending)(w':World):Prop:=e=.returned (.tuple #[])∧Tried w0 b2 bb W w' sv S bv B'
theorem yma{w:World}{b i t:Nat}{cs:Array Value}(h:w.heap[b]? = some (.cells cs t (0,0))):w.frozen? ⟨b,i,none⟩=false:=by simp[World.frozen?,h]
theorem cell_put{w:World}{b t:Nat}{old v:Value}(h:w.heap[b]? = some (.cells #[old] t (0,0))):w.setCell ⟨b,0,none⟩ v=w.putObj b (.cells #[v] t):=by
 unfold World.setCell World.putObj
 congr 1
 apply Array.ext_getElem?;intro i;rw[Array.getElem?_modify,Array.getElem?_setIfInBounds];by_cases e:b=i
 ·subst e;have hlt:=(Array.getElem?_eq_some_iff.1 h).1;have e2:w.heap[b]=.cells #[old] t (0,0):=by have:=(Array.getElem?_eq_some_iff.1 h).2;exact this
  simp[hlt,e2]
 ·simp[e]
section
variable {w0:World}{b1 b2 bc bb bo bt r n c:Nat}{A:Option Addr}{l:Ents}{O:Nat→List (List Nat)}
theorem try_end(hn:n≤9)(hE:Hid (zbc w0 b1 b2 bc bb bo bt r n c A l O))(hbb:bb<w0.heap.size)(T:Nat→Bool)(sv bv:Value)(S B:List (List Nat))(W:World)(ha:Hid (Asks w0 b2 bb W sv S bv B)) :
  CallsIn Fc 0 Tryz.prog 115 #[.int .i64 n,.agg (tkCells T),sv,ptr bc,ptr bb,ptr bo,ptr bt] W (zkc w0 b2 bb W sv S bv (tryE n O 0 T S B)):=by
 obtain⟨u0,hu0⟩:=hE.out.box;have hen:=hE.out.at_ ha.out.old;have hbt:Below W.heap.size W (W.alloc (.cells (tkCells T) 127)):=(Below.refl _ _).alloc (Nat.le_refl _) _;have HA1:=Lib.hid (ha.out.below hbt);have hR1:=HA1.out.share.read HA1.out.old hu0;have hR2:=HA1.out.best.2.read HA1.out.old hu0;obtain⟨LA,lc,rfl,hlc,hr1⟩:=id hR1;obtain⟨LB,kc,rfl,hkc,hr2⟩:=id hR2;have HR1:=Lib.hid hR1;have HR2:=Lib.hid hR2;have q4:=hen.c4;have k4:=World.block_lt_of_cell? W _ q4;have q5:W.cell? ⟨bb,0,none⟩=some (.slice LB B.length kc):=by simp[World.cell?,ha.out.best.1]
 have k5:=ha.out.bbs;have q5':(W.alloc (.cells (tkCells T) 127)).cell? ⟨bb,0,none⟩=some (.slice LB B.length kc):=by simp[World.cell?,HA1.out.best.1]
 have k55:=HA1.out.bbs;have HBT:=Lib.hid hbt;have HU0:=Lib.hid hu0;clear hR1 hR2 hr1 hr2 hen hbt hu0;have hbet:=better_any LA LB lc kc S B (W.alloc (.cells (tkCells T) 127)) ha.out.few.1.1 ha.out.few.2.1 ha.out.few.1.2 ha.out.few.2.2 HR1.out HR2.out;rw[tryE];obtain hb|hb:ztb S B=true∨ztb S B=false:=by cases ztb S B<;>simp
 ·rw[hb] at hbet;rw[if_pos hb];have HBET:=Lib.hid hbet;clear hbet hb;have hcl:=CloneLL_any w0 b2 (.slice LA S.length lc) S (W.alloc (.cells (tkCells T) 127)) ha.out.few.1.1 HA1.out.old.size (Lib.hid HA1.out.share);have HCL:=Lib.hid hcl;clear hcl;gi_enter Tryz.func115,Tryz.ntmps115;simp only[ptr]
  gi_wp2_with (first
   |(gi_at_call 116;refine HBET.out.mono ?_;rintro e w' ⟨rfl,rfl⟩)
   |(gi_at_call 118;refine HCL.out.mono ?_;rintro e w5 ⟨u,rfl,hu5,hb5,ho5⟩;obtain⟨LU,uc,rfl⟩:=zeb hu5.choose_spec.1;have q55:=yda (hb5.block bb k55) q5';have h55:=(hb5.block bb k55).trans HA1.out.best.1;have f55:w5.frozen? ⟨bb,0,none⟩=false:=yma h55;have H55:=Lib.hid h55;clear h55;have HU5:=Lib.hid hu5;have HB5:=Lib.hid hb5;have HO5:=Lib.hid ho5;clear hu5 hb5 ho5))
  refine bodyPost_ret (results_none rfl _ _ _) rfl ?_;exact⟨rfl,(HA1.out.put hbb HB5.out HU5.out HO5.out (cell_put H55.out)).below HBT.out⟩
 ·rw[hb] at hbet;rw[if_neg (by rw[hb];decide)];have HBET:=Lib.hid hbet;clear hbet hb;gi_enter Tryz.func115,Tryz.ntmps115;simp only[ptr]
  gi_wp2_with (gi_at_call 116;refine HBET.out.mono ?_;rintro e w' ⟨rfl,rfl⟩)
  refine bodyPost_ret (results_none rfl _ _ _) rfl ?_;exact⟨rfl,HA1.out.start.below HBT.out⟩
end
end
section
open Go.RowKit
theorem zV{F:Fence}{ops:Array Oper}{rest:List Oper}{o:Oper}{a:Act}{w:World}{Q:Exit→Act→World→Prop}(hg:o.guard=none)(p:Operand)(hop:o.op=.load 127 p)(g:Nat)(cells:Array Value)(hp:a.eval p=.pointer (some ⟨g,0,none⟩))(hb:w.heap[g]? = some (.cells cells 127 (0,0)))(hs:cells.size=9)
  (h:wpListIn F 0 Tryz.prog ops Q rest (a.put o.dst (.agg cells)) w):wpListIn F 0 Tryz.prog ops Q (o::rest) a w:=by
 refine wpListIn_plain hg fun K hK'=>?_
 have e:(Instr.loadAt 127 (a.eval p)).run Tryz.prog w=.ok (.agg cells) w:=by rw[hp];exact yZb w g cells hb hs
 unfold Oper.wpIn;refine⟨?_,?_⟩
 ·simp[Oper.about,hop]
 ·rw[Oper.semAt_plain F _ _ (by rw[hop];intro c hc';cases hc')];simp only[execOp,hop];show o.uponIn F 0 Tryz.prog a K Q ((do pure (.value (←Instr.loadAt 127 (a.eval p))):Sem Next).run Tryz.prog w);rw[Sem.run_bind,e];exact hK' _ _ h
def litT(T:Nat→Bool):Array Value:=#[.bool (T 0),.bool (T 1),.bool (T 2),.bool (T 3),.bool (T 4),.bool (T 5),.bool (T 6),.bool (T 7),.bool (T 8)]
theorem tk_at{w:World}{b s:Nat}{T:Nat→Bool}(h:w.heap[b]? = some (.cells (tkCells T) 127 (0,0)))(hs:s<9):w.cell? ⟨b,s,none⟩=some (.bool (T s)):=by
 have e:(tkCells T)[s]? = some (.bool (T s)):=by rcases(by omega:s=0∨s=1∨s=2∨s=3∨s=4∨s=5∨s=6∨s=7∨s=8) with rfl|rfl|rfl|rfl|rfl|rfl|rfl|rfl|rfl<;>rfl
 simp[World.cell?,h,e]
theorem yTc{T:Nat→Bool}{s:Nat}(hs:s<9):(tkCells T).setIfInBounds s (.bool true)=tkCells (updT T s):=by rcases(by omega:s=0∨s=1∨s=2∨s=3∨s=4∨s=5∨s=6∨s=7∨s=8) with rfl|rfl|rfl|rfl|rfl|rfl|rfl|rfl|rfl<;>rfl
theorem tk_put{w:World}{b s:Nat}{T:Nat→Bool}(h:w.heap[b]? = some (.cells (tkCells T) 127 (0,0)))(hs:s<9):w.setCell ⟨b,s,none⟩ (.bool true)=w.putObj b (.cells (tkCells (updT T s)) 127):=by
 unfold World.setCell World.putObj
 congr 1
 apply Array.ext_getElem?;intro i;rw[Array.getElem?_modify,Array.getElem?_setIfInBounds];by_cases e:b=i
 ·subst e;have hlt:=(Array.getElem?_eq_some_iff.1 h).1;have e2:w.heap[b]=.cells (tkCells T) 127 (0,0):=by have:=(Array.getElem?_eq_some_iff.1 h).2;exact this
  simp[hlt,e2,yTc hs]
 ·simp[e]
theorem yL{F:Fence}{ops:Array Oper}{j:Nat}{o:Oper}{K:Act→World→Prop}{a:Act}{w:World}{Q:Exit→Act→World→Prop}(ho:ops[j]? = some o)(hg:o.guard=none)(p:Operand)(hop:o.op=.load 127 p)(g:Nat)(cells:Array Value)(hp:a.eval p=.pointer (some ⟨g,0,none⟩))(hb:w.heap[g]? = some (.cells cells 127 (0,0)))(hs:cells.size=9)
  (h:K (a.put o.dst (.agg cells)) w):wpOpIn F 0 Tryz.prog ops Q j K a w:=by
 refine wpOpIn_step ho fun K' hK'=>?_
 rw[if_pos (by simp[Region.wanted,hg])];have e:(Instr.loadAt 127 (a.eval p)).run Tryz.prog w=.ok (.agg cells) w:=by rw[hp];exact yZb w g cells hb hs
 unfold Oper.wpIn;refine⟨?_,?_⟩
 ·simp[Oper.about,hop]
 ·rw[Oper.semAt_plain F _ _ (by rw[hop];intro c hc';cases hc')];simp only[execOp,hop];show o.uponIn F 0 Tryz.prog a K' Q ((do pure (.value (←Instr.loadAt 127 (a.eval p))):Sem Next).run Tryz.prog w);rw[Sem.run_bind,e];exact hK' _ _ h
theorem zbc.row{w0 w:World}{b1 b2 bc bb bo bt r n c:Nat}{A:Option Addr}{l:Ents}{O:Nat→List (List Nat)}(h:zbc w0 b1 b2 bc bb bo bt r n c A l O)(ho:Old w0 bb w)(s:Nat):∃ vs:List Value,w.ownsRow b1 27 1 (valAt l s) (O s).length vs∧∀ k,k<(O s).length→ListAt w0 b2 (vs.getD k undef) ((O s).getD k [])∧ListAt w b2 (vs.getD k undef) ((O s).getD k []):=by
 obtain⟨u,hu⟩:=h.box;obtain⟨vs,h1,h2⟩:=h.sets s;refine⟨vs,zja h1 fun g hg=>ho.block g (zfb h1 hg).2 (fun e=>?_) (by simp),fun k hk=>⟨h2 k hk,ho.list hu (h2 k hk)⟩⟩;rcases List.mem_singleton.1 e with rfl;obtain⟨_,⟨e',_⟩|⟨g',c',r',e',_,q6,_⟩⟩:=h1
 ·rw[e'] at hg;cases hg
 ·rw[e'] at hg;cases hg;rw[hu] at q6;cases q6
theorem Asks.set{w0 w w1:World}{b2 bb g:Nat}{sv bv:Value}{S B:List (List Nat)}{o:Obj}(hbb:bb<w0.heap.size)(h:Asks w0 b2 bb w sv S bv B)(hg:w0.heap.size≤g)(h1:sv.ownBlock≠some g)(h2:bv.ownBlock≠some g)(e:w1=w.putObj g o):Asks w0 b2 bb w1 sv S bv B:=by
 have hk:∀ k,k≠g→w1.heap[k]? = w.heap[k]?:=fun k hk=>by rw[e];exact World.putObj_heap_other hk
 refine⟨⟨by rw[e];exact h.old.os,by rw[e];exact h.old.tape,by rw[e];exact h.old.output,by rw[e,World.putObj_size];exact h.old.size,fun k hlt a b=>(hk k (by omega)).trans (h.old.block k hlt a b)⟩,⟨(hk bb (by omega)).trans h.best.1,h.best.2.keep fun k hk'=>hk k fun e'=>h2 (by rw[←e'];exact hk')⟩,h.few,h.share.keep fun k hk'=>hk k fun e'=>h1 (by rw[←e'];exact hk'),h.apart⟩
theorem yQa{w:World}{z:Nat}{v:Value}(hz:z≤w.heap.size):(w.alloc (.cells #[v] 27)).ownsRow z 27 1 (.slice (some ⟨w.heap.size,0,none⟩) 1 1) 1 [v]:=
 ⟨rfl,.inr ⟨w.heap.size,1,_,rfl,hz,heap_alloc_new _ _,by omega,by simp[maxLen],by simp,by simp⟩⟩
theorem afterR_of{w0:World}{b2:Nat}{v u su:Value}{S:List (List Nat)}{x:List Nat}{vs:List Value}{w1 w w':World}(hb:Below w1.heap.size w1 w)(hel:∀ k,k<S.length→ListAt w0 b2 (vs.getD k undef) (S.getD k []))(hx:ListAt w0 b2 su x)
  (r1:w'.ownsRow w0.heap.size 27 1 u (S.length+1) (vs++[su])) (r2:w'.ownsRow w0.heap.size 27 1 v S.length vs) (r3:w.grownBy w' v.ownBlock) (r4:Lies w w' S.length 1 v u):zdc w0 b2 v u S x w1 w':=by
 have hsz:=hb.size;refine⟨Row.more (w:=w') (v:=u) (by have:=r2.1;omega) r1 hel hx,⟨vs,r2,hel⟩,(Kept.of_below [] _ hb).trans (Kept.of_grown [] r3) (fun k hk=>by cases hk) fun k hk _=>.inr hk,?_⟩;rcases r4 with⟨g,cap,h1,h2⟩|⟨h1,_⟩
 ·exact .inl ⟨g,cap,h1,h2⟩
 ·exact .inr ⟨_,hsz,h1⟩
theorem old_at{w0 w w1:World}{b2 bb:Nat}{sv u bv:Value}{S B:List (List Nat)}{x:List Nat}{L7 L8:Bool}{Z:Prop}(hbb:bb<w0.heap.size)(h:Asks w0 b2 bb w sv S bv B)(hS:S.length<9)(hx:x.length≤9)(h1:L7=false→Below w.heap.size w w1∧Z)(h2:L7=true→L8=false→zdc w0 b2 sv u S x w w1)(h8:L8=false):Old w0 bb w1:=by
 cases L7 with
 |false=>exact(h.below (h1 rfl).1).old
 |true=>exact((h2 rfl h8).asks hbb h hS hx).old
theorem blk_at{w0 w w1:World}{b2 g:Nat}{sv u:Value}{S:List (List Nat)}{x:List Nat}{L7 L8:Bool}{Z:Prop}(hlt:g<w.heap.size)(hne:sv.ownBlock≠some g)(h1:L7=false→Below w.heap.size w w1∧Z)(h2:L7=true→L8=false→zdc w0 b2 sv u S x w w1)(h8:L8=false):w1.heap[g]? = w.heap[g]?:=by
 cases L7 with
 |false=>exact(h1 rfl).1.block _ hlt
 |true=>exact(h2 rfl h8).kept.block _ hlt (by simp) hne
section
variable {w0:World}{b1 b2 bc bb bo bt r n c:Nat}{A:Option Addr}{l:Ents}{O:Nat→List (List Nat)}
theorem try_step(hn:n≤9)(hE:Hid (zbc w0 b1 b2 bc bb bo bt r n c A l O))(hbb:bb<w0.heap.size)(d s:Nat)(hs:s<n)(hd:n-s=d+1)(T:Nat→Bool)(sv bv:Value)(S B:List (List Nat))(W:World)(ha:Hid (Asks w0 b2 bb W sv S bv B))(hS:S.length≤s)
  (hIH:Hid (∀(T':Nat→Bool) (sv' bv':Value) (S' B':List (List Nat)) (w:World) (k:Int),k=((s+1:Nat):Int)→S'.length≤s+1→Asks w0 b2 bb w sv' S' bv' B'→CallsIn Fc 0 Tryz.prog 115 #[.int .i64 k,.agg (tkCells T'),sv',ptr bc,ptr bb,ptr bo,ptr bt] w (zkc w0 b2 bb w sv' S' bv' (tryE n O d T' S' B')))) :
  CallsIn Fc 0 Tryz.prog 115 #[.int .i64 s,.agg (tkCells T),sv,ptr bc,ptr bb,ptr bo,ptr bt] W (zkc w0 b2 bb W sv S bv (tryE n O (d+1) T S B)):=by
 obtain⟨i0,hi0,hz0,hz1,hz2⟩:=info_parts it27;have HI0:=Lib.hid hi0;have HZ0:=Lib.hid hz0;have HZ1:=Lib.hid hz1;have HZ2:=Lib.hid hz2;clear hi0 hz0 hz1 hz2;have hen:=hE.out.at_ ha.out.old;have q4:=hen.c4;have k4:=World.block_lt_of_cell? W _ q4;have q6:=hen.mo;have k6:=World.block_lt_of_cell? W _ q6;have q7:=hen.mt;have k7:=World.block_lt_of_cell? W _ q7;have hmap:=hen.map;obtain⟨LO,lo,hval⟩:=zeb (hen.sets s).choose_spec.1;have hbt:Below W.heap.size W (W.alloc (.cells (tkCells T) 127)):=(Below.refl _ _).alloc (Nat.le_refl _) _;have HBT:=Lib.hid hbt;have HA1:=Lib.hid (ha.out.below hbt);have htk:(W.alloc (.cells (tkCells T) 127)).heap[W.heap.size]? = some (.cells (tkCells T) 127 (0,0)):=zG rfl;have q8:=tk_at htk (s:=s) (by omega);have HTK:=Lib.hid htk;have HEN:=Lib.hid hen
 have hm1:MapAt (W.alloc (.cells (tkCells T) 127)) r l:=by obtain⟨cl,h⟩:=hmap;exact⟨cl,(Below.heap_alloc _ _ _ (Array.getElem?_eq_some_iff.1 h).1).trans h⟩
 have HM1:=Lib.hid hm1;have hsI:¬((s:Int)=(n:Int)):=by omega
 have hs9:s<9:=by omega
 have e1:n-(d+1)=s:=by omega
 rw[tryE,e1];clear hen htk hmap hm1 hbt;obtain hT|hT:T s=true∨T s=false:=by cases T s<;>simp
 ·rw[hT] at q8;rw[if_pos hT];have HT:=Lib.hid hT;clear hT;have f8:(W.alloc (.cells (tkCells T) 127)).frozen? ⟨W.heap.size,s,none⟩=false:=yma HTK.out;have hbT:Below W.heap.size W (W.alloc (.cells ((tkCells T).setIfInBounds s (.bool true)) 127)):=(Below.refl _ _).alloc (Nat.le_refl _) _;have hkT:(W.alloc (.cells ((tkCells T).setIfInBounds s (.bool true)) 127)).heap[W.heap.size]? = some (.cells ((tkCells T).setIfInBounds s (.bool true)) 127 (0,0)):=zG rfl;have hcall:=hIH.out (updT T s) sv bv S B (W.alloc (.cells ((tkCells T).setIfInBounds s (.bool true)) 127)) ((s:Int)+1) (by omega) (by omega) (ha.out.below hbT);rw[←yTc hs9] at hcall;simp only[ptr] at hcall;have HC:=Lib.hid hcall;have HKT:=Lib.hid hkT;have HB:=Lib.hid hbT;clear hbT hkT hcall;gi_enter Tryz.func115,Tryz.ntmps115;simp only[ptr]
  gi_wp2_with (first
   |(refine zV rfl _ rfl _ _ rfl HKT.out (by simp[tkCells]) ?_)
   |(gi_at_call 115;refine HC.out.mono ?_;rintro e w6 ⟨rfl,h6⟩;have H6:=Lib.hid h6;clear h6))
  go_end0;exact⟨rfl,H6.out.below HB.out⟩
 ·rw[hT] at q8;rw[if_neg (by rw[hT];decide)];have HT:=Lib.hid hT;clear hT;gi_enter Tryz.func115,Tryz.ntmps115;simp only[ptr]
  gi_wp2_with (refine yB rfl _ _ rfl r s l rfl rfl HM1.out ?_;rw[hval])
  gi_loopw [34] (fun y wr=>∃(i:Nat) (bv1:Value) (B1:List (List Nat)),i≤(O s).length∧y=.int .i64 i∧tryL n O d T S ((O s).drop i) B1=tryL n O d T S (O s) B∧Asks w0 b2 bb wr sv S bv1 B1∧(∀ g,bv1.ownBlock=some g→bv.ownBlock=some g∨W.heap.size+1≤g)∧Kept [bb] sv.ownBlock (W.alloc (.cells (tkCells T) 127)) wr) (fun y _=>(O s).length-(intOf y).toNat)
  case atStart=>exact⟨0,bv,B,by omega,rfl,rfl,HA1.out,fun g hg=>.inl hg,Kept.refl _ _ _⟩
  case round=>
   obtain⟨i,bv1,B1,hi,rfl,htl,hask,hbv,hkept⟩:=hrel;have HASK:=Lib.hid hask;have HTL:=Lib.hid htl;have HBV:=Lib.hid hbv;have HKEPT:=Lib.hid hkept;have hen:=hE.out.at_ hask.old;have q4:=hen.c4;have q6:=hen.mo;have q7:=hen.mt;have hsvlt:=fun g (hg:sv.ownBlock=some g)=>ha.out.share.own hg
   have hWbb:W.heap.size≠bb:=by have:=ha.out.bbs;omega
   have htk:wr.heap[W.heap.size]? = some (.cells (tkCells T) 127 (0,0)):=(hkept.block _ (by simp) (by simpa using hWbb) fun e=>by have:=(hsvlt _ e).2;omega).trans HTK.out;have HTK1:=Lib.hid htk;have q8:=tk_at htk (s:=s) (by omega);rw[HT.out] at q8;have hl:=hE.out.row hask.old s;clear htl hask hbv hkept htk hsvlt hen;by_cases hlt:i<(O s).length
   ·obtain⟨vs,hown,hel⟩:=hl;rw[hval] at hown;obtain⟨x,hx⟩:∃ x,(O s).getD i []=x:=⟨_,rfl⟩;obtain⟨u,hu⟩:∃ u,vs.getD i undef=u:=⟨_,rfl⟩;obtain⟨hel0,helx⟩:=hel i hlt;rw[hx,hu] at helx hel0;obtain⟨LX,kx,rfl,hkx,hints⟩:=helx.shape;obtain⟨_,⟨e,e0⟩|⟨gv,cap,cur,e,hbg,hgv,hcc,_⟩⟩:=id hown
    ·exfalso;omega
    cases e;have hc0:=hown.cellAt i (by omega);have hcell:wr.cell? ⟨gv,i,none⟩=some (.slice LX x.length kx):=by
     rw[hc0,←hu,List.getD_eq_getElem?_getD];have hv:i<vs.length:=by have:=hown.1;omega
     rw[List.getElem?_eq_getElem hv];rfl
    have hdr:(O s).drop i=x::(O s).drop (i+1):=by rw[ywc hlt,hx]
    have hx9:x.length≤9:=by rw[←hx];exact(hE.out.few s).2.1 i
    have hx9':∀ k,k<x.length→x.getD k 0<9:=by rw[←hx];exact(hE.out.few s).2.2 i
    have HINTS:=Lib.hid hints;have HELX:=Lib.hid hel0;have HDR:=Lib.hid hdr;have HX:=Lib.hid hx;have hiI:(i:Int)<((O s).length:Int):=by omega
    have h5000:i<5000:=by have:=(hE.out.few s).1;omega
    have hwith:=fun w hh=>with_any T x LX kx w hh hx9' hx9 hkx
    have htl:=HTL.out;rw[HDR.out] at htl;simp only[tryL,List.foldl_cons] at htl;clear hints helx hel0 hdr hx hu hel hown hgv hc0 hx9' HTL;obtain hfr|hfr:freeT T x=true∨freeT T x=false:=by cases freeT T x<;>simp
    ·have hw2:∀ w,zca w LX x.length (fun k=>((x.getD k 0:Nat):Int))→CallsIn Fc 0 Tryz.prog 119 #[.agg (tkCells T),.slice LX x.length kx] w fun e w'=>e=.returned (.tuple #[.agg (litT (withT T x)),.bool true])∧Below w.heap.size w w':=fun w hh=>by refine(hwith w hh).mono ?_;rintro e w' ⟨h1,h2⟩;rw[hfr] at h1;exact⟨h1,h2⟩
     have HW:=Lib.hid hw2;rw[if_pos hfr] at htl;have HTL:=Lib.hid htl;clear hwith hw2 hfr htl;obtain⟨T2,hT2⟩:∃ T2,withT T x=T2:=⟨_,rfl⟩;rw[hT2] at HW HTL;clear hT2
     gi_wp2_with (first
      |(refine zV rfl _ rfl _ _ rfl HTK1.out rfl ?_)
      |(gi_at_call 119;refine(HW.out _ HINTS.out).mono ?_;rintro e w3 ⟨rfl,hb3⟩;have HB3:=Lib.hid hb3;clear hb3;unfold litT))
     obtain⟨w4,hw4⟩:∃ w4,w4=w3.alloc (.cells #[.bool (T2 0),.bool (T2 1),.bool (T2 2),.bool (T2 3),.bool (T2 4),.bool (T2 5),.bool (T2 6),.bool (T2 7),.bool (T2 8)] 127):=⟨_,rfl⟩;rw[←hw4];have hb4:Below wr.heap.size wr w4:=by rw[hw4];exact HB3.out.alloc HB3.out.size _
     have hblk:w4.heap[w3.heap.size]? = some (.cells (tkCells T2) 127 (0,0)):=by rw[hw4];exact zG rfl
     have hlt3:w3.heap.size<w4.heap.size:=by rw[hw4];simp
     have HA4:=Lib.hid (HASK.out.below hb4);have hs3:sv.ownBlock≠some w3.heap.size:=fun e=>by have:=(HASK.out.share.own e).2;have:=HB3.out.size;omega
     have HBLK:=Lib.hid hblk;have HB4:=Lib.hid hb4;clear hw4 hblk hb4;have hS9:S.length<9:=by omega
     obtain⟨vs4,hown4,hel4⟩:=id HA4.out.share;have HOWN4:=Lib.hid hown4;have HEL4:=Lib.hid hel4;clear hown4 hel4;refine zsa (R:=[.val 45 (.func (.func 115) #[] #[ptr bc,ptr bb,ptr bo,ptr bt]),.val 46 (.int .i64 s),.val 47 (.int .i64 (s+1)),.val 48 (.agg (tkCells T2)),.val 49 sv,.val 50 (.slice LX x.length kx),.any 51,.any 52,.any 53])
      (I:=fun Lb V w=>(Lb 7=false→Below w4.heap.size w4 w∧(Lb 6=true→w.ownsRow w4.heap.size 27 1 (V 6) 1 [.slice LX x.length kx]))∧(Lb 7=true→Lb 8=false→zdc w0 b2 sv (V 7) S x w4 w)∧(Lb 8=true→Tried w0 b2 bb w4 w sv S bv1 (tryE n O d T2 (S++[x]) B1))) (z:=63) (by kernel_rfl) (by kernel_rfl) rfl (by kernel_rfl) rfl rfl ⟨fun _=>⟨(Below.refl _ _).drew,fun h=>by cases h⟩,(fun h=>by cases h),(fun h=>by cases h)⟩ ?_ ?_
     ·intro j Lb V a w hj hno hdep hah hd0 hz hold hv hV hI;have HI:=Lib.hid hI;have s0:=zc hz (hold 0 (by kernel_rfl)) (by omega);have s2:=zc hz (hold 2 (by kernel_rfl)) (by omega);have s6:=zc hz (hold 6 (by kernel_rfl)) (by omega);have s11:=zc hz (hold 11 (by kernel_rfl)) (by omega);have h12:=hold 12 (by kernel_rfl);clear hold;have hjs:j=0∨j=1∨j=2∨j=3∨j=4∨j=5∨j=6∨j=7∨j=8:=by have:j<9:=hj;omega
      rcases hjs with rfl|rfl|rfl|rfl|rfl|rfl|rfl|rfl|rfl
      ·have ho:=old_at hbb HA4.out hS9 hx9 HI.out.1 HI.out.2.1 (hah 8 (by kernel_rfl) rfl);have q7:=(hE.out.at_ ho).mt;clear hdep hah hv hV hno hI;refine wpOpIn_step rfl fun K hK=>?_
       go_simp;exact hK _ _ ⟨rfl,rfl,HI.out⟩
      ·clear hdep hah hv hV hno hI;refine wpOpIn_step rfl fun K hK=>?_
       go_simp;exact hK _ _ ⟨rfl,rfl,HI.out⟩
      ·have f46:=zc hz (hv 1 46 _ (by kernel_rfl) rfl) (by omega);have hwr:=wrapS s (by omega);clear hdep hah hv hV hno hI;refine wpOpIn_step rfl fun K hK=>?_
       go_simp;exact hK _ _ ⟨rfl,rfl,HI.out⟩
      ·have hblk:=(blk_at hlt3 hs3 HI.out.1 HI.out.2.1 (hah 8 (by kernel_rfl) rfl)).trans HBLK.out;refine yL rfl rfl _ rfl _ _ (h12.trans rfl) hblk rfl ?_;exact⟨hd0,rfl,HI.out⟩
      ·clear hdep hah hv hV hno hI;refine wpOpIn_step rfl fun K hK=>?_
       go_simp;exact hK _ _ ⟨rfl,rfl,HI.out⟩
      ·clear hdep hah hv hV hno hI;refine wpOpIn_step rfl fun K hK=>?_
       go_simp;exact hK _ _ ⟨rfl,rfl,HI.out⟩
      ·have f50:=zc hz (hv 5 50 _ (by kernel_rfl) rfl) (by omega);have h8:=hah 8 (by kernel_rfl) rfl;have h7:=hah 7 (by kernel_rfl) rfl;obtain⟨hbw,_⟩:=HI.out.1 h7;clear hdep hah hv hV hno hI;refine wpOpIn_step rfl fun K hK=>?_
       go_simp;exact hK _ _ ⟨rfl,_,rfl,⟨(fun h=>⟨hbw.alloc hbw.size _,fun _=>yQa hbw.size⟩),(fun h=>by rw[show updB Lb 6 7=Lb 7 from rfl,h7] at h;cases h),(fun h=>by rw[show updB Lb 6 8=Lb 8 from rfl,h8] at h;cases h)⟩⟩
      ·have f49:=zc hz (hv 4 49 _ (by kernel_rfl) rfl) (by omega);have k6:=hdep 6 (by kernel_rfl) rfl;have f51:=zc hz (hV 6 51 rfl) (by omega);have h8:=hah 8 (by kernel_rfl) rfl;have h7:=hno rfl;obtain⟨hbw,ho⟩:=HI.out.1 h7;have ho:=ho k6;refine yl rfl rfl _ _ 40 rfl w0.heap.size 27 i0 (.slice none 0 0) 1 24 ut40 HI0.out HZ0.out HZ1.out HZ2.out rfl (by decide) sv S.length vs4 (hv 4 49 _ (by kernel_rfl) rfl) (zu HOWN4.out hbw) (V 6) w4.heap.size 1 [.slice LX x.length kx] (hV 6 51 rfl) (by omega) ho (by intro u hu;rcases List.mem_singleton.1 hu with rfl;rfl) (by simp[maxLen];omega) (by omega) (Nat.le_trans HA4.out.old.size hbw.size) ?_;intro v' w' r1 r2 r3 r4
       exact⟨hd0,_,rfl,⟨(fun h=>by cases h),(fun _ _=>afterR_of hbw HEL4.out HELX.out r1 r2 r3 r4),(fun h=>by rw[show updB Lb 7 8=Lb 8 from rfl,h8] at h;cases h)⟩⟩
      ·have f45:=zc hz (hv 0 45 _ (by kernel_rfl) rfl) (by omega);have k7:=hdep 7 (by kernel_rfl) rfl;have f52:=zc hz (hV 7 52 rfl) (by omega);have f47:=zc hz (hv 2 47 _ (by kernel_rfl) rfl) (by omega);have f48:=zc hz (hv 3 48 _ (by kernel_rfl) rfl) (by omega);have h8:=hno rfl;have haf:=HI.out.2.1 k7 h8;have hasks:=haf.asks hbb HA4.out hS9 hx9;clear hdep hah hv hV hno hI;refine wpOpIn_step rfl fun K hK=>?_
       go_simp;refine(hIH.out T2 (V 7) bv1 (S++[x]) B1 w _ (by omega) (by simp;omega) hasks).mono ?_;rintro e w1 ⟨rfl,hw⟩;exact hK _ _ ⟨rfl,_,rfl,⟨(fun h=>by rw[show updB Lb 8 7=Lb 7 from rfl,k7] at h;cases h),(fun _ h=>by cases h),fun _=>haf.tried hbb HA4.out hw⟩⟩
     intro Lb V w5 hL hI;have HT5:=Lib.hid (hI.2.2 (hL 8 rfl));clear hI hL;simp only[outsG,List.foldl_cons,List.foldl_nil,List.setIfInBounds_toArray,List.set_cons_succ,List.set_cons_zero];gi_wp2;obtain⟨bv2,hask2,hbv2⟩:=HT5.out.asks hbb HA4.out;have hz4:=HB4.out.size;have hz1:W.heap.size+1≤wr.heap.size:=by have:=HKEPT.out.size;simpa using this
     refine⟨⟨i+1,bv2,_,by omega,rfl,HTL.out,hask2,fun g hg=>?_,?_⟩,by show(O s).length-(intOf (Value.int IntKind.i64 ((i:Int)+1))).toNat<(O s).length-(intOf (Value.int IntKind.i64 (i:Int))).toNat;simp only[intOf];omega⟩
     ·rcases hbv2 g hg with h|h
      ·exact HBV.out g h
      ·exact .inr (by omega)
     ·exact(HKEPT.out.trans (Kept.of_below [bb] sv.ownBlock HB4.out) (fun x hx _=>.inl hx) fun x hx _=>.inr hx).trans HT5.out.kept (fun x hx _=>.inl hx) fun x hx _=>.inr hx
    ·have hw2:∀ w,zca w LX x.length (fun k=>((x.getD k 0:Nat):Int))→CallsIn Fc 0 Tryz.prog 119 #[.agg (tkCells T),.slice LX x.length kx] w fun e w'=>e=.returned (.tuple #[.agg (litT fun _=>false),.bool false])∧Below w.heap.size w w':=fun w hh=>by refine(hwith w hh).mono ?_;rintro e w' ⟨h1,h2⟩;rw[hfr] at h1;exact⟨h1,h2⟩
     have HW:=Lib.hid hw2;rw[if_neg (by rw[hfr];decide)] at htl;have HTL:=Lib.hid htl;clear hwith hw2 hfr htl
     gi_wp2_with (first
      |(refine zV rfl _ rfl _ _ rfl HTK1.out rfl ?_)
      |(gi_at_call 119;refine(HW.out _ HINTS.out).mono ?_;rintro e w3 ⟨rfl,hb3⟩;have HB3:=Lib.hid hb3;clear hb3;unfold litT))
     have hz1:W.heap.size+1≤wr.heap.size:=by have:=HKEPT.out.size;simpa using this
     have hb4:Below wr.heap.size wr (w3.alloc (.cells #[.bool false,.bool false,.bool false,.bool false,.bool false,.bool false,.bool false,.bool false,.bool false] 127)):=HB3.out.alloc HB3.out.size _;refine⟨⟨i+1,bv1,_,by omega,rfl,HTL.out,HASK.out.below hb4,HBV.out,?_⟩,by show(O s).length-(intOf (Value.int IntKind.i64 ((i:Int)+1))).toNat<(O s).length-(intOf (Value.int IntKind.i64 (i:Int))).toNat;simp only[intOf];omega⟩;exact HKEPT.out.trans (Kept.of_below [bb] sv.ownBlock hb4) (fun x hx _=>.inl hx) fun x hx _=>.inr hx
   ·have hiI:¬(i:Int)<((O s).length:Int):=by omega
    obtain rfl:i=(O s).length:=by omega
    clear hl;have f8:wr.frozen? ⟨W.heap.size,s,none⟩=false:=yma HTK1.out;have hput:=tk_put HTK1.out hs9;have hlt1:W.heap.size<wr.heap.size:=(Array.getElem?_eq_some_iff.1 HTK1.out).1;have hz1:W.heap.size+1≤wr.heap.size:=by have:=HKEPT.out.size;simpa using this
    have hn1:sv.ownBlock≠some W.heap.size:=fun e=>by have:=(ha.out.share.own e).2;omega
    have hn2:bv1.ownBlock≠some W.heap.size:=fun e=>by
     rcases HBV.out _ e with h|h
     ·have:=(ha.out.best.2.own h).2;omega
     ·omega
    have hasS:Asks w0 b2 bb (wr.setCell ⟨W.heap.size,s,none⟩ (.bool true)) sv S bv1 B1:=HASK.out.set hbb ha.out.old.size hn1 hn2 hput;have hkS:(wr.setCell ⟨W.heap.size,s,none⟩ (.bool true)).heap[W.heap.size]? = some (.cells (tkCells (updT T s)) 127 (0,0)):=by rw[hput];exact World.putObj_heap_same hlt1
    have q7S:=(hE.out.at_ hasS.old).mt;have hkp:Kept [bb] sv.ownBlock W (wr.setCell ⟨W.heap.size,s,none⟩ (.bool true)):=by have hk:=HKEPT.out;rw[hput];refine⟨hk.os,hk.tape,hk.output,by rw[World.putObj_size];omega,fun k hlt a b=>?_⟩;exact(World.putObj_heap_other (by omega)).trans ((hk.block k (by simp;omega) a b).trans (Below.heap_alloc _ _ _ hlt))
    have hcall:=hIH.out (updT T s) sv bv1 S B1 (wr.setCell ⟨W.heap.size,s,none⟩ (.bool true)) ((s:Int)+1) (by omega) (by omega) hasS;simp only[ptr] at hcall;have hB:B1=tryL n O d T S (O s) B:=by have h:=HTL.out;rw[List.drop_length] at h;exact h
    have HB:=Lib.hid hB;have HC:=Lib.hid hcall;have HKS:=Lib.hid hkS;have HKP:=Lib.hid hkp;clear hB hcall hkS hkp hput hasS hn1 hn2
    gi_wp2_with (first
     |(refine zV rfl _ rfl _ _ rfl HKS.out rfl ?_)
     |(gi_at_call 115;refine HC.out.mono ?_;rintro e w6 ⟨rfl,h6⟩;have H6:=Lib.hid h6;clear h6))
    go_end0;refine⟨rfl,?_⟩;have h:=H6.out;rw[HB.out] at h;exact Tried.trans HKP.out (fun g hg=>(HBV.out g hg).imp id fun h=>by omega) h
theorem yFc(hn:n≤9)(hE:Hid (zbc w0 b1 b2 bc bb bo bt r n c A l O))(hbb:bb<w0.heap.size):∀(d s:Nat) (k:Int) (T:Nat→Bool) (sv bv:Value) (S B:List (List Nat)) (W:World),k=(s:Int)→s≤n→n-s=d→S.length≤s→Asks w0 b2 bb W sv S bv B →
  CallsIn Fc 0 Tryz.prog 115 #[.int .i64 k,.agg (tkCells T),sv,ptr bc,ptr bb,ptr bo,ptr bt] W (zkc w0 b2 bb W sv S bv (tryE n O d T S B))
 |0,s,k,T,sv,bv,S,B,W,hk,hs,hd,hS,ha=>by
  obtain rfl:s=n:=by omega
  subst hk;exact try_end hn hE hbb T sv bv S B W (Lib.hid ha)
 |d+1,s,k,T,sv,bv,S,B,W,hk,hs,hd,hS,ha=>by subst hk;exact try_step hn hE hbb d s (by omega) hd T sv bv S B W (Lib.hid ha) hS (Lib.hid fun T' sv' bv' S' B' w k' h1 h2 h3=>yFc hn hE hbb d (s+1) k' T' sv' bv' S' B' w h1 (by omega) (by omega) h2 h3)
end
end
end Go.Proofs.YtpdmgecbapmgdaaGreat
