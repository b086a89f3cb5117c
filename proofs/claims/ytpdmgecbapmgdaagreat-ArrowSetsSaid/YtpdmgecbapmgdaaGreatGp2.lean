/- A part of the proof that ArrowSets returns true for every input: no further condition. -/
import Derived.Test.YtpdmgecbapmgdaaGreatGp1
import Derived.Great.Frames
import Derived.Stop.RegionWithIn
import Derived.Maps.OwnIn
import Derived.Test.YtpdmgecbapmgdaaGreatGp0
import Derived.Lib.Hide
import Derived.OrdersIn
import Derived.TacticsIn
import Derived.RangeFuncSeq
import Derived.RangeFuncIn
import Derived.ControlIn
import Derived.OwnWalkIn
set_option linter.unusedSimpArgs false
set_option linter.unusedVariables false
set_option maxHeartbeats 2000000
set_option maxRecDepth 100000
namespace Go.Proofs.YtpdmgecbapmgdaaGreat
section
open Go.RowKit
section
variable {F:Fence}{n:Nat}{P:Program}{ops:Array Oper}{Q:Exit→Act→World→Prop}
def dstAt(ops:Array Oper)(j:Nat):Option Nat:=(ops[j]?).bind (·.dst)
def supB(ops:Array Oper)(sup:Nat→List Nat):Bool:=
 (List.range ops.size).all fun i=>(sup i).all fun d=>(List.range ops.size).all fun j=>j==i || !(dstAt ops j==some d) || depB ops i j
theorem supB_use{sup:Nat→List Nat}(h:supB ops sup=true){i j d:Nat}(hi:i<ops.size)(hj:j<ops.size)(hd:d∈sup i)(hji:j≠i)(e:dstAt ops j=some d):depB ops i j=true:=by unfold supB at h;have h1:=List.all_eq_true.1 h i (List.mem_range.2 hi);have h2:=List.all_eq_true.1 h1 d hd;have h3:=List.all_eq_true.1 h2 j (List.mem_range.2 hj);simpa[hji,e] using h3
abbrev vals(a:Act)(l:List Nat):List Value:=l.map fun s=>a.eval (.tmp s)
structure RF(ops:Array Oper)(sup:Nat→List Nat)(Ψ:Nat→List Value→World→Prop)(I:World→Prop)(z:Nat)(a0:Act)(listed:Array Bool)(a:Act)(w:World):Prop where
 defers:a.defers=[]
 size:a.tmps.size=z
 old:∀ s,(∀ j,j<ops.size→dstAt ops j≠some s)→a.eval (.tmp s)=a0.eval (.tmp s)
 inv:I w
 fact:∀ i,i<ops.size→listed.getD i false=true→Ψ i (vals a (sup i)) w
 closed:∀ i,i<ops.size→listed.getD i false=true→∀ j,depB ops i j=true→listed.getD j false=true
structure yad(ops:Array Oper)(sup:Nat→List Nat)(Ψ:Nat→List Value→World→Prop)(I:World→Prop)(listed:Array Bool)(j:Nat)(a:Act)(w:World)(a':Act)(w':World):Prop where
 put:∃ v,a'=a.put (dstAt ops j) v
 inv:I w'
 keep:∀ i,i<ops.size→i≠j→listed.getD i false=true→Ψ i (vals a (sup i)) w→Ψ i (vals a (sup i)) w'
 own:Ψ j (vals a' (sup j)) w'
variable {sup:Nat→List Nat}{Ψ:Nat→List Value→World→Prop}{I:World→Prop}{z:Nat}{a0:Act}
theorem RF.next(hs:supB ops sup=true){listed:Array Bool}{a a':Act}{w w':World}{j:Nat}(h:RF ops sup Ψ I z a0 listed a w)(hj:j∈Region.ready .any ops listed)(hn:yad ops sup Ψ I listed j a w a' w') :
  RF ops sup Ψ I z a0 (listed.setIfInBounds j true) a' w':=by
 obtain⟨v,rfl⟩:=hn.put;have hjs:j<ops.size:=by obtain⟨_,o,h3,_⟩:=mem_ready.1 hj;exact(Array.getElem?_eq_some_iff.1 h3).1
 refine⟨by rw[show(a.put (dstAt ops j) v).defers=a.defers by unfold Act.put;split<;>rfl];exact h.defers,by rw[Act.size_put];exact h.size,fun s hs'=>?_,hn.inv,fun i hi hl=>?_,fun i hi hl k hk=>?_⟩
 ·cases e:dstAt ops j with
  |none=>exact h.old s hs'
  |some d=>rw[Act.eval_put_ne _ _ _ _ (fun e'=>hs' j hjs (by rw[e,e']))];exact h.old s hs'
 ·by_cases e:i=j
  ·subst e;exact hn.own
  ·rw[gset (fun e'=>e e'.symm)] at hl;have h1:=hn.keep i hi e hl (h.fact i hi hl);have h2:vals (a.put (dstAt ops j) v) (sup i)=vals a (sup i):=by
    apply List.map_congr_left;intro d hd;cases e2:dstAt ops j with
    |none=>rfl
    |some d'=>
     refine Act.eval_put_ne _ _ _ _ fun e3=>?_
     subst e3;have h4:=h.closed i hi hl j (supB_use hs hi hjs hd (fun e'=>e e'.symm) e2);rw[yla hj] at h4;cases h4
   rw[h2];exact h1
 ·by_cases e:i=j
  ·subst e;by_cases e2:i=k
   ·subst e2;exact yo hj
   ·rw[gset e2];exact dep hj hk
  ·rw[gset (fun e'=>e e'.symm)] at hl;have h1:=h.closed i hi hl k hk;by_cases e2:j=k
   ·subst e2;exact yo hj
   ·rw[gset e2];exact h1
theorem wpIn_region_F{id:Nat}{w:World}(hm:P.follows .mixedOrders=true)(hb:backB .any ops=true)(hs:supB ops sup=true)(hd:a0.defers=[])(hz:a0.tmps.size=z)
  (h0:I {w with drawn:=w.drawn+1})
  (hJ:∀ listed a w j,RF ops sup Ψ I z a0 listed a w→j∈Region.ready .any ops listed→wpOpIn F n P ops Q j (yad ops sup Ψ I listed j a w) a w)
  (hE:∀ listed a w,RF ops sup Ψ I z a0 listed a w→(∀ i,i<ops.size→Ψ i (vals a (sup i)) w)→Q .normal a w):(Code.region id ops true).wpIn F n P Q a0 w:=by
 refine yh (J:=RF ops sup Ψ I z a0) hm hb ⟨hd,hz,fun _ _=>rfl,h0,fun i hi hl=>?_,fun i hi hl=>?_⟩ (fun listed a w j hj hr=>wpOpIn_mono (fun a' w' h=>hj.next hs hr h) (hJ listed a w j hj hr)) fun listed a w hj hall=>hE listed a w hj fun i hi=>hj.fact i hi (hall i hi)
 ·rw[Array.getD_eq_getD_getElem?] at hl;simp[hi] at hl
 ·rw[Array.getD_eq_getD_getElem?] at hl;simp[hi] at hl
end
end
section
open Go.RowKit
section
variable {F:Fence}{n:Nat}{P:Program}{ops:Array Oper}{Q:Exit→Act→World→Prop}{I:World→Prop}{z:Nat}{a0:Act}
theorem wpIn_region_V(V:Nat→Value){id:Nat}{w:World}(hm:P.follows .mixedOrders=true)(hb:backB .any ops=true)(hs:supB ops (fun j=>match dstAt ops j with|some d=>[d]|none=>[])=true)(hd:a0.defers=[])(hz:a0.tmps.size=z)(hdst:∀ j,j<ops.size→∃ d,dstAt ops j=some d∧d<z)
  (h0:I {w with drawn:=w.drawn+1})
  (hJ:∀ j a w,j<ops.size→a.defers=[]→a.tmps.size=z→(∀ s,(∀ j,j<ops.size→dstAt ops j≠some s)→a.eval (.tmp s)=a0.eval (.tmp s))→(∀ k d,depB ops j k=true→k<ops.size→dstAt ops k=some d→a.eval (.tmp d)=V k)→I w →
   wpOpIn F n P ops Q j (fun a' w'=>∃ d,dstAt ops j=some d∧a'.defers=[]∧a'.tmps=a.tmps.setIfInBounds d (V j)∧I w') a w)
  (hE:∀ a w,a.defers=[]→a.tmps.size=z→(∀ s,(∀ j,j<ops.size→dstAt ops j≠some s)→a.eval (.tmp s)=a0.eval (.tmp s))→(∀ k d,k<ops.size→dstAt ops k=some d→a.eval (.tmp d)=V k)→I w→Q .normal a w):(Code.region id ops true).wpIn F n P Q a0 w:=by
 refine wpIn_region_F (sup:=fun j=>match dstAt ops j with|some d=>[d]|none=>[]) (Ψ:=fun j vs _=>vs=[V j]) (I:=I) hm hb hs hd hz h0 (fun listed a w j hj hr=>?_) fun listed a w hj hall=>?_
 ·have hjs:j<ops.size:=by obtain⟨_,o,h3,_⟩:=mem_ready.1 hr;exact(Array.getElem?_eq_some_iff.1 h3).1
  refine wpOpIn_mono (fun a' w' h=>?_) (hJ j a w hjs hj.defers hj.size hj.old (fun k d hk hks hd=>?_) hj.inv)
  ·obtain⟨d,hd',e1,e2,hI⟩:=h;obtain⟨d',e3,hdz⟩:=hdst j hjs;rw[hd'] at e3;cases e3;obtain rfl:a'=a.put (dstAt ops j) (V j):=by obtain⟨t,df⟩:=a';simp only at e1 e2;rw[e1,e2,hd'];show _=Act.mk _ _;rw[hj.defers]
   refine⟨⟨_,rfl⟩,hI,fun _ _ _ _ h=>h,?_⟩;simp only[hd',vals,List.map_cons,List.map_nil];rw[Act.eval_put_same _ _ _ (by rw[hj.size];exact hdz)]
  ·have h1:=hj.fact k hks (dep hr hk);simpa[hd,vals] using h1
 ·refine hE a w hj.defers hj.size hj.old (fun k d hk hd'=>?_) hj.inv;have h1:=hall k hk;simpa[hd',vals] using h1
end
def oldB(ops:Array Oper)(s:Nat):Bool:=(List.range ops.size).all fun j=>!(dstAt ops j==some s)
theorem oldB_use{ops:Array Oper}{s:Nat}(h:oldB ops s=true):∀ j,j<ops.size→dstAt ops j≠some s:=fun j hj e=>by have h1:=List.all_eq_true.1 h j (List.mem_range.2 hj);simp[e] at h1
theorem zc{a:Act}{z d:Nat}{V:Value}(hz:a.tmps.size=z)(h:a.eval (.tmp d)=V)(hd:d<z):a.tmps[d]'(by omega)=V:=by rw[←h];simp[Act.eval,show d<a.tmps.size by omega]
section
variable {F:Fence}{n:Nat}{P:Program}{ops:Array Oper}{Q:Exit→Act→World→Prop}{I:World→Prop}{z:Nat}{a0:Act}
def dstsB(ops:Array Oper)(D:List Nat):Bool:=decide (D.length=ops.size)&&(List.range ops.size).all fun j=>dstAt ops j==D[j]?
theorem yZ(a:Act):∀(l:List (Nat×Value)) (t:Array Value),t.size=a.tmps.size→(∀ x∈l,a.eval (.tmp x.1)=x.2)→(∀ s,(∀ x∈l,x.1≠s)→t.getD s undef=a.eval (.tmp s))→l.foldl (fun t x=>t.setIfInBounds x.1 x.2) t=a.tmps
 | [],t,hz,_,h=>by apply Array.ext hz;intro i h1 h2;have:=h i (fun x hx=>by cases hx);simpa[Act.eval,h1,h2] using this
 |x::l,t,hz,hv,h=>by
  rw[List.foldl_cons];refine yZ a l _ (by simpa using hz) (fun y hy=>hv y (List.mem_cons_of_mem _ hy)) fun s hs=>?_
  by_cases e:x.1=s
  ·subst e;rw[hv x (List.mem_cons_self ..)];have hx:=hv x (List.mem_cons_self ..);rcases Nat.lt_or_ge x.1 t.size with h1|h1
   ·simp[h1]
   ·have h2:a.eval (.tmp x.1)=undef:=by simp[Act.eval,show¬ x.1<a.tmps.size by omega]
    rw[←hx,h2];simp[show¬ x.1<t.size by omega]
  ·have h1:=h s fun y hy=>by
    rcases List.mem_cons.1 hy with rfl|hy
    ·exact e
    ·exact hs y hy
   rw[←h1];simp[e]
theorem zL(D:List (Nat×Value)){id:Nat}{w:World}(hm:P.follows .mixedOrders=true)(hb:backB .any ops=true)(hs:supB ops (fun j=>match dstAt ops j with|some d=>[d]|none=>[])=true)(hD:dstsB ops (D.map (·.1))=true)(hDz:(D.map (·.1)).all (fun d=>decide (d<z))=true)(hd:a0.defers=[])(hz:a0.tmps.size=z)
  (h0:I {w with drawn:=w.drawn+1})
  (hJ:∀ j a w,j<ops.size→a.defers=[]→a.tmps.size=z→(∀ s,oldB ops s=true→a.eval (.tmp s)=a0.eval (.tmp s))→(∀ k d v,depB ops j k=true→D[k]? = some (d,v)→a.eval (.tmp d)=v)→I w →
   wpOpIn F n P ops Q j (fun a' w'=>∃ d v,D[j]? = some (d,v)∧a'.defers=[]∧a'.tmps=a.tmps.setIfInBounds d v∧I w') a w)
  (hE:∀ w,I w→Q .normal {tmps:=D.foldl (fun t x=>t.setIfInBounds x.1 x.2) a0.tmps,defers:=[]} w):(Code.region id ops true).wpIn F n P Q a0 w:=by
 unfold dstsB at hD;simp only[Bool.and_eq_true,decide_eq_true_eq] at hD;obtain⟨hlen,hdst⟩:=hD;rw[List.length_map] at hlen;have hat:∀ j,j<ops.size→dstAt ops j=(D[j]?).map (·.1):=fun j hj=>by have h1:=List.all_eq_true.1 hdst j (List.mem_range.2 hj);rw[List.getElem?_map] at h1;simpa using h1
 have hin:∀ j,j<ops.size→∃ d v,D[j]? = some (d,v)∧dstAt ops j=some d∧d<z:=fun j hj=>by
  have hj':j<D.length:=by omega
  refine⟨D[j].1,D[j].2,by simp[hj'],by rw[hat j hj];simp[hj'],?_⟩;exact of_decide_eq_true (List.all_eq_true.1 hDz D[j].1 (List.mem_map.2 ⟨D[j],List.getElem_mem hj',rfl⟩))
 refine wpIn_region_V (V:=fun j=>((D[j]?).map (·.2)).getD undef) (I:=I) hm hb hs hd hz (fun j hj=>by obtain⟨d,v,_,h1,h2⟩:=hin j hj;exact⟨d,h1,h2⟩) h0 (fun j a w hj hd hz hold hf hI=>?_) fun a w hd hz' hold hf hI=>?_
 ·refine wpOpIn_mono (fun a' w' h=>?_) (hJ j a w hj hd hz (fun s hs=>hold s (oldB_use hs)) (fun k d v hk e=>?_) hI)
  ·obtain⟨d,v,e,h1,h2,h3⟩:=h;obtain⟨d',v',e',h4,_⟩:=hin j hj;rw[e] at e';cases e';exact⟨d,h4,h1,by rw[h2,e];rfl,h3⟩
  ·have hk':k<ops.size:=by rw[←hlen];exact(List.getElem?_eq_some_iff.1 e).1
   have:=hf k d hk hk' (by rw[hat k hk',e];rfl);rw[this,e];rfl
 ·have e:D.foldl (fun t x=>t.setIfInBounds x.1 x.2) a0.tmps=a.tmps:=by
   refine yZ a D a0.tmps (by rw[hz,hz']) (fun x hx=>?_) fun s hs=>?_
   ·obtain⟨j,hj,rfl⟩:=List.mem_iff_getElem.1 hx;have hj':j<ops.size:=by omega
    have:=hf j D[j].1 hj' (by rw[hat j hj'];simp[hj]);rw[this];simp[hj]
   ·refine(hold s fun j hj e=>?_).symm;obtain⟨d,v,e1,e2,_⟩:=hin j hj;rw[e2] at e;cases e;exact hs _ (List.mem_iff_getElem?.2 ⟨j,e1⟩) rfl
  have h1:=hE w hI;rw[e] at h1;obtain⟨t,df⟩:=a;simp only at hd;subst hd;exact h1
end
end
section
open Go.RowKit
section
variable {F:Fence}{n:Nat}{P:Program}{ops:Array Oper}{Q:Exit→Act→World→Prop}
def depsOf(ops:Array Oper)(i:Nat):List Nat:=(List.range i).filter fun j=>depB ops i j
def clos(ops:Array Oper):Nat→List Nat→List Nat
 |0,S=>S
 |i+1,S=>clos ops i (if S.contains i then S++depsOf ops i else S)
def closB(ops:Array Oper)(k:Nat):Bool:=(List.range k).all fun j=>(clos ops (k+1) [k]).contains j
def chainB(ops:Array Oper)(k:Nat):Bool:=(List.range ops.size).all fun i=>decide (i≤k) || depB ops i (i-1)
theorem yR{listed:Array Bool}{k:Nat}(hc:∀ i,listed.getD i false=true→∀ j,depB ops i j=true→listed.getD j false=true)(hk:∀ j,depB ops k j=true→listed.getD j false=true) :
  ∀(i:Nat) (S:List Nat),(∀ s∈S,s=k∨listed.getD s false=true)→∀ s∈clos ops i S,s=k∨listed.getD s false=true
 |0,S,h=>h
 |i+1,S,h=>by
  unfold clos;refine yR hc hk i _ ?_;split
  ·next hi=>
   intro s hs;rcases List.mem_append.1 hs with hs|hs
   ·exact h s hs
   ·have hd:depB ops i s=true:=(List.mem_filter.1 hs).2;rcases h i (by simpa using hi) with e|e
    ·subst e;exact .inr (hk s hd)
    ·exact .inr (hc i e s hd)
  ·exact h
structure RL(F:Fence)(n:Nat)(P:Program)(ops:Array Oper)(Q:Exit→Act→World→Prop)(t:Nat)(listed:Array Bool)(a:Act)(w:World):Prop where
 yes:∀ i,i<t→listed.getD i false=true
 no:∀ i,t≤i→listed.getD i false=false
 go:wpListIn F n P ops Q (ops.toList.drop t) a w
def nodupB(D:List Nat):Bool:=decide D.Nodup
end
end
section
open Go.RowKit
section
variable {F:Fence}{n:Nat}{P:Program}{ops:Array Oper}{Q:Exit→Act→World→Prop}
structure RB2(ops:Array Oper)(k:Nat)(D:List (Option (Nat×Value)))(I:World→Prop)(lo z sa sb:Nat)(u1 v1 u2 v2:Int)(a0:Act)(listed:Array Bool)(a:Act)(w:World):Prop where
 defers:a.defers=[]
 size:a.tmps.size=z
 old:∀ s,(∀ x∈D.filterMap (fun x=>x),x.1≠s)→s≠sa→s≠sb→a.eval (.tmp s)=a0.eval (.tmp s)
 inv:I w
 fact:∀(j d:Nat) (v:Value),D[j]? = some (some (d,v))→listed.getD j false=true→a.eval (.tmp d)=v
 closed:∀ i,listed.getD i false=true→∀ j,depB ops i j=true→listed.getD j false=true
 ga:listed.getD k false=true→∃(p:Nat) (u v:Int),a.eval (.tmp sa)=.pointer (some ⟨p,0,none⟩)∧lo≤p∧zI w p u v∧(listed.getD (k+2) false=true→u=u1∧v=v1)
 gb:listed.getD (k+1) false=true→∃(p:Nat) (u v:Int),a.eval (.tmp sb)=.pointer (some ⟨p,0,none⟩)∧lo≤p∧zI w p u v∧(listed.getD (k+3) false=true→u=u2∧v=v2)
 ne:listed.getD k false=true→listed.getD (k+1) false=true→a.eval (.tmp sa)≠a.eval (.tmp sb)
def ylc(K:List (Option Nat))(sa sb z:Nat):Bool:=(List.range K.length).all fun i=>match K[i]? with
 |some (some d)=>d != sa&&d != sb&&decide (d<z)&&(List.range K.length).all fun j=>i==j || !(K[j]? == some (some d))
 |_=>true
theorem ygb{K:List (Option Nat)}{sa sb z:Nat}(h:ylc K sa sb z=true){i d:Nat}(hi:K[i]? = some (some d)):d≠sa∧d≠sb∧d<z∧∀ j,j≠i→K[j]?≠some (some d):=by
 have hil:=(List.getElem?_eq_some_iff.1 hi).1;have h1:=List.all_eq_true.1 h i (List.mem_range.2 hil);rw[hi] at h1;simp only[Bool.and_eq_true,bne_iff_ne,decide_eq_true_eq] at h1;refine⟨h1.1.1.1,h1.1.1.2,h1.1.2,fun j hj e=>?_⟩;have hjl:=(List.getElem?_eq_some_iff.1 e).1;have h2:=List.all_eq_true.1 h1.2 j (List.mem_range.2 hjl);simp only[e,Bool.or_eq_true,beq_iff_eq,Bool.not_eq_true',beq_self_eq_true] at h2;rcases h2 with h2|h2
 ·exact hj h2.symm
 ·cases h2
theorem yC(k sa sb:Nat)(D:List (Option (Nat×Value))){I:World→Prop}{lo z:Nat}{u1 v1 u2 v2:Int}{a0:Act}{id:Nat}{w:World}(hm:P.follows .mixedOrders=true)(hb:backB .any ops=true)(hsz:k+4≤ops.size)(hlen:D.length=ops.size)(hrow:[D[k]?,D[k+1]?,D[k+2]?,D[k+3]?]=[some none,some none,some none,some none])(hall:(List.range ops.size).all (fun j=>decide (k≤j∧j<k+4) || (D[j]?.map (·.isSome))==some true)=true)(hnd:ylc (D.map (·.map (·.1))) sa sb z=true)(hsa:sa<z)(hsb:sb<z)(hab:sa≠sb)
  (hda:depB ops (k+2) k=true) (hdb:depB ops (k+3) (k+1)=true) (hd:a0.defers=[]) (hz:a0.tmps.size=z)
  (hlo:∀ w,I w→lo≤w.heap.size) (hIg:∀ w o,I w→I (w.alloc o)) (hIs:∀ w p j x,I w→lo≤p→I (w.setCell ⟨p,j,none⟩ x))
  (h0:I {w with drawn:=w.drawn+1})
  (hJ:∀ j a w,j<ops.size→¬(k≤j∧j<k+4)→a.defers=[]→a.tmps.size=z→(∀ s,(D.filterMap (fun x=>x)).all (fun x=>x.1 != s)=true→s≠sa→s≠sb→a.eval (.tmp s)=a0.eval (.tmp s))→(∀ k d v,depB ops j k=true→D[k]? = some (some (d,v))→a.eval (.tmp d)=v)→I w →
   wpOpIn F n P ops Q j (fun a' w'=>∃ d v,D[j]? = some (some (d,v))∧a'.defers=[]∧a'.tmps=a.tmps.setIfInBounds d v∧I w'∧Below w.heap.size w w') a w)
  (hA1:∀ a w,a.defers=[]→a.tmps.size=z→wpOpIn F n P ops Q k (fun a' w'=>a'.defers=[]∧a'.tmps=a.tmps.setIfInBounds sa (.pointer (some ⟨w.heap.size,0,none⟩))∧w'=w.alloc (.cells #[.int .i64 0,.int .i64 0] 52)) a w)
  (hA2:∀ a w,a.defers=[]→a.tmps.size=z→wpOpIn F n P ops Q (k+1) (fun a' w'=>a'.defers=[]∧a'.tmps=a.tmps.setIfInBounds sb (.pointer (some ⟨w.heap.size,0,none⟩))∧w'=w.alloc (.cells #[.int .i64 0,.int .i64 0] 52)) a w)
  (hS1:∀ a w p u v,a.defers=[]→a.tmps.size=z→a.eval (.tmp sa)=.pointer (some ⟨p,0,none⟩)→zI w p u v→(∀ m d v,depB ops (k+2) m=true→D[m]? = some (some (d,v))→a.eval (.tmp d)=v) →
   wpOpIn F n P ops Q (k+2) (fun a' w'=>a'.defers=[]∧a'.tmps=a.tmps∧w'=(w.setCell ⟨p,0,none⟩ (.int .i64 u1)).setCell ⟨p,1,none⟩ (.int .i64 v1)) a w)
  (hS2:∀ a w p u v,a.defers=[]→a.tmps.size=z→a.eval (.tmp sb)=.pointer (some ⟨p,0,none⟩)→zI w p u v→(∀ m d v,depB ops (k+3) m=true→D[m]? = some (some (d,v))→a.eval (.tmp d)=v) →
   wpOpIn F n P ops Q (k+3) (fun a' w'=>a'.defers=[]∧a'.tmps=a.tmps∧w'=(w.setCell ⟨p,0,none⟩ (.int .i64 u2)).setCell ⟨p,1,none⟩ (.int .i64 v2)) a w)
  (hE:∀ w p q,I w→p≠q→lo≤p→lo≤q→zI w p u1 v1→zI w q u2 v2→Q .normal {tmps:=(((D.filterMap (fun x=>x)).foldl (fun t x=>t.setIfInBounds x.1 x.2) a0.tmps).setIfInBounds sa (.pointer (some ⟨p,0,none⟩))).setIfInBounds sb (.pointer (some ⟨q,0,none⟩)),defers:=[]} w):(Code.region id ops true).wpIn F n P Q a0 w:=by
 simp only[List.cons.injEq,and_true] at hrow;obtain⟨hr0,hr1,hr2,hr3⟩:=hrow;have hK:∀{j d:Nat} {v:Value},D[j]? = some (some (d,v))→(D.map (·.map (·.1)))[j]? = some (some d):=fun h=>by rw[List.getElem?_map,h];rfl
 have hkey:∀{j d:Nat} {v:Value},D[j]? = some (some (d,v))→d≠sa∧d≠sb∧d<z∧∀ i d' v',i≠j→D[i]? = some (some (d',v'))→d'≠d:=fun h=>by obtain⟨q1,q2,q3,q4⟩:=ygb hnd (hK h);exact⟨q1,q2,q3,fun i d' v' hi h' e=>q4 i hi (by rw[hK h',e])⟩
 have hnr:∀{j d:Nat} {v:Value},D[j]? = some (some (d,v))→¬(k≤j∧j<k+4):=fun{j d v} h hj=>by
  have:j=k∨j=k+1∨j=k+2∨j=k+3:=by omega
  rcases this with rfl|rfl|rfl|rfl
  ·rw[hr0] at h;cases h
  ·rw[hr1] at h;cases h
  ·rw[hr2] at h;cases h
  ·rw[hr3] at h;cases h
 have hmemD:∀{j d:Nat} {v:Value},D[j]? = some (some (d,v))→(d,v)∈D.filterMap (fun x=>x):=fun{j d v} h=>List.mem_filterMap.2 ⟨some (d,v),List.mem_iff_getElem?.2 ⟨j,h⟩,rfl⟩
 have hDmem:∀ x∈D.filterMap (fun x=>x),∃ j,D[j]? = some (some x):=fun x hx=>by obtain⟨o,ho,e⟩:=List.mem_filterMap.1 hx;subst e;exact List.mem_iff_getElem?.1 ho
 have evs:∀(a a':Act) (d:Nat) (v:Value),a'.tmps=a.tmps.setIfInBounds d v→(∀ s,s≠d→a'.eval (.tmp s)=a.eval (.tmp s))∧(d<a.tmps.size→a'.eval (.tmp d)=v):=fun a a' d v h=>by
  constructor
  ·intro s hs;simp only[Act.eval,h];simp[Ne.symm hs]
  ·intro hd;simp only[Act.eval,h];simp[hd]
 have evn:∀(a a':Act),a'.tmps=a.tmps→∀ s,a'.eval (.tmp s)=a.eval (.tmp s):=fun a a' h s=>by simp only[Act.eval,h]
 have clo:∀(listed:Array Bool) (i:Nat),i∈Region.ready .any ops listed→(∀ i,listed.getD i false=true→∀ j,depB ops i j=true→listed.getD j false=true)→∀ m,(listed.setIfInBounds i true).getD m false=true→∀ m',depB ops m m'=true→(listed.setIfInBounds i true).getD m' false=true:=fun listed i hi hc m hm m' hm'=>by
  have key:listed.getD m' false=true:=by
   by_cases e:m=i
   ·subst e;exact dep hi hm'
   ·rw[gset (fun e'=>e e'.symm)] at hm;exact hc m hm m' hm'
  by_cases e2:i=m'
  ·subst e2;exact yo hi
  ·rw[gset e2];exact key
 refine yh (J:=RB2 ops k D I lo z sa sb u1 v1 u2 v2 a0) hm hb ?_ (fun listed a w i hj hi=>?_) fun listed a w hj hall'=>?_
 ·have hno:∀ i,(Array.replicate ops.size false).getD i false=true→False:=fun i hl=>by rw[Array.getD_eq_getD_getElem?] at hl;rcases Nat.lt_or_ge i ops.size with h|h<;>simp[h] at hl
  exact⟨hd,hz,fun _ _ _ _=>rfl,h0,fun j d v _ hl=>(hno j hl).elim,fun i hl=>(hno i hl).elim,fun h=>(hno _ h).elim,fun h=>(hno _ h).elim,fun h=>(hno _ h).elim⟩
 ·have his:i<ops.size:=by obtain⟨_,o,h3,_⟩:=mem_ready.1 hi;exact(Array.getElem?_eq_some_iff.1 h3).1
  have hcl:=clo listed i hi hj.closed;have hcase:¬(k≤i∧i<k+4)∨i=k∨i=k+1∨i=k+2∨i=k+3:=by omega
  rcases hcase with hik|rfl|rfl|rfl|rfl
  ·
   refine wpOpIn_mono (fun a' w' h=>?_) (hJ i a w his hik hj.defers hj.size (fun s hs h1 h2=>hj.old s (fun x hx=>by simpa using List.all_eq_true.1 hs x hx) h1 h2) (fun m d v hdep e=>hj.fact m d v e (dep hi hdep)) hj.inv);obtain⟨d,v,hD,h1,h2,h3,h4⟩:=h;obtain⟨e1,e2⟩:=evs a a' d v h2;have hmem:=hmemD hD;obtain⟨hda1,hdb1,hdz1,hne1⟩:=hkey hD;have sp:∀ p u v,zI w p u v→zI w' p u v:=fun p u v h=>h.below h4
   refine⟨h1,by rw[h2];simpa using hj.size,fun s hs h5 h6=>?_,h3,fun j d' v' hjd hl=>?_,hcl,fun h=>?_,fun h=>?_,fun h h'=>?_⟩
   ·rw[e1 s fun e=>hs _ hmem e.symm];exact hj.old s hs h5 h6
   ·by_cases e:j=i
    ·subst e;rw[hD] at hjd;cases hjd;exact e2 (by rw[hj.size];exact hdz1)
    ·rw[gset (fun e'=>e e'.symm)] at hl;have hne:d'≠d:=hne1 j d' v' e hjd;rw[e1 d' hne];exact hj.fact j d' v' hjd hl
   ·rw[gset (by omega)] at h;obtain⟨p,u,v',q1,q2,q3,q4⟩:=hj.ga h;exact⟨p,u,v',by rw[e1 sa (Ne.symm hda1)];exact q1,q2,sp _ _ _ q3,fun h=>q4 (by rwa [gset (by omega)] at h)⟩
   ·rw[gset (by omega)] at h;obtain⟨p,u,v',q1,q2,q3,q4⟩:=hj.gb h;exact⟨p,u,v',by rw[e1 sb (Ne.symm hdb1)];exact q1,q2,sp _ _ _ q3,fun h=>q4 (by rwa [gset (by omega)] at h)⟩
   ·rw[gset (by omega)] at h h';rw[e1 sa (Ne.symm hda1),e1 sb (Ne.symm hdb1)];exact hj.ne h h'
  ·
   refine wpOpIn_mono (fun a' w' h=>?_) (hA1 a w hj.defers hj.size);obtain⟨h1,h2,rfl⟩:=h;obtain⟨e1,e2⟩:=evs a a' sa _ h2;have hnl:=yla hi;have hns:listed.getD (i+2) false=false:=by
    cases h:listed.getD (i+2) false with
    |false=>rfl
    |true=>rw[hj.closed _ h _ hda] at hnl;cases hnl
   have sp:∀ p u v,zI w p u v→zI (w.alloc (.cells #[.int .i64 0,.int .i64 0] 52)) p u v:=fun p u v h=>h.below ((Below.refl _ _).alloc (Nat.le_refl _) _)
   refine⟨h1,by rw[h2];simpa using hj.size,fun s hs h5 h6=>?_,hIg _ _ hj.inv,fun j d' v' hjd hl=>?_,hcl,fun h=>?_,fun h=>?_,fun h h'=>?_⟩
   ·rw[e1 s h5];exact hj.old s hs h5 h6
   ·have hjk:=hnr hjd;rw[gset (by omega)] at hl;rw[e1 d' (hkey hjd).1];exact hj.fact j d' v' hjd hl
   ·refine⟨w.heap.size,0,0,e2 (by rw[hj.size];exact hsa),hlo _ hj.inv,zNb _ _,fun h=>?_⟩;rw[gset (by omega),hns] at h;cases h
   ·rw[gset (by omega)] at h;obtain⟨p,u,v',q1,q2,q3,q4⟩:=hj.gb h;exact⟨p,u,v',by rw[e1 sb (Ne.symm hab)];exact q1,q2,sp _ _ _ q3,fun h=>q4 (by rwa [gset (by omega)] at h)⟩
   ·rw[gset (by omega)] at h';obtain⟨p,u,v',q1,q2,q3,q4⟩:=hj.gb h';rw[e2 (by rw[hj.size];exact hsa),e1 sb (Ne.symm hab),q1];intro e;have:=q3.lt;simp only[Value.pointer.injEq,Option.some.injEq,Addr.mk.injEq] at e;omega
  ·
   refine wpOpIn_mono (fun a' w' h=>?_) (hA2 a w hj.defers hj.size);obtain⟨h1,h2,rfl⟩:=h;obtain⟨e1,e2⟩:=evs a a' sb _ h2;have hnl:=yla hi;have hns:listed.getD (k+3) false=false:=by
    cases h:listed.getD (k+3) false with
    |false=>rfl
    |true=>rw[hj.closed _ h _ hdb] at hnl;cases hnl
   have sp:∀ p u v,zI w p u v→zI (w.alloc (.cells #[.int .i64 0,.int .i64 0] 52)) p u v:=fun p u v h=>h.below ((Below.refl _ _).alloc (Nat.le_refl _) _)
   refine⟨h1,by rw[h2];simpa using hj.size,fun s hs h5 h6=>?_,hIg _ _ hj.inv,fun j d' v' hjd hl=>?_,hcl,fun h=>?_,fun h=>?_,fun h h'=>?_⟩
   ·rw[e1 s h6];exact hj.old s hs h5 h6
   ·have hjk:=hnr hjd;rw[gset (by omega)] at hl;rw[e1 d' (hkey hjd).2.1];exact hj.fact j d' v' hjd hl
   ·rw[gset (by omega)] at h;obtain⟨p,u,v',q1,q2,q3,q4⟩:=hj.ga h;exact⟨p,u,v',by rw[e1 sa hab];exact q1,q2,sp _ _ _ q3,fun h=>q4 (by rwa [gset (by omega)] at h)⟩
   ·refine⟨w.heap.size,0,0,e2 (by rw[hj.size];exact hsb),hlo _ hj.inv,zNb _ _,fun h=>?_⟩;rw[gset (by omega),hns] at h;cases h
   ·rw[gset (by omega)] at h;obtain⟨p,u,v',q1,q2,q3,q4⟩:=hj.ga h;rw[e2 (by rw[hj.size];exact hsb),e1 sa hab,q1];intro e;have:=q3.lt;simp only[Value.pointer.injEq,Option.some.injEq,Addr.mk.injEq] at e;omega
  ·
   obtain⟨p,u,v,q1,q2,q3,_⟩:=hj.ga (dep hi hda);refine wpOpIn_mono (fun a' w' h=>?_) (hS1 a w p u v hj.defers hj.size q1 q3 fun m d v hdep e=>hj.fact m d v e (dep hi hdep));obtain⟨h1,h2,rfl⟩:=h;have e1:=evn a a' h2;refine⟨h1,by rw[h2];exact hj.size,fun s hs h5 h6=>by rw[e1];exact hj.old s hs h5 h6,hIs _ _ _ _ (hIs _ _ _ _ hj.inv q2) q2,fun j d' v' hjd hl=>?_,hcl,fun h=>?_,fun h=>?_,fun h h'=>?_⟩
   ·have hjk:=hnr hjd;rw[gset (by omega)] at hl;rw[e1];exact hj.fact j d' v' hjd hl
   ·exact⟨p,u1,v1,by rw[e1];exact q1,q2,q3.set u1 v1,fun _=>⟨rfl,rfl⟩⟩
   ·rw[gset (by omega)] at h;obtain⟨p',u',v',r1,r2,r3,r4⟩:=hj.gb h;have hpp:p≠p':=fun e=>hj.ne (dep hi hda) h (by rw[q1,r1,e])
    exact⟨p',u',v',by rw[e1];exact r1,r2,(r3.far hpp _ _).far hpp _ _,fun h=>r4 (by rwa [gset (by omega)] at h)⟩
   ·rw[gset (by omega)] at h h';rw[e1,e1];exact hj.ne h h'
  ·
   obtain⟨p,u,v,q1,q2,q3,_⟩:=hj.gb (dep hi hdb);refine wpOpIn_mono (fun a' w' h=>?_) (hS2 a w p u v hj.defers hj.size q1 q3 fun m d v hdep e=>hj.fact m d v e (dep hi hdep));obtain⟨h1,h2,rfl⟩:=h;have e1:=evn a a' h2;refine⟨h1,by rw[h2];exact hj.size,fun s hs h5 h6=>by rw[e1];exact hj.old s hs h5 h6,hIs _ _ _ _ (hIs _ _ _ _ hj.inv q2) q2,fun j d' v' hjd hl=>?_,hcl,fun h=>?_,fun h=>?_,fun h h'=>?_⟩
   ·have hjk:=hnr hjd;rw[gset (by omega)] at hl;rw[e1];exact hj.fact j d' v' hjd hl
   ·rw[gset (by omega)] at h;obtain⟨p',u',v',r1,r2,r3,r4⟩:=hj.ga h;have hpp:p≠p':=fun e=>hj.ne h (dep hi hdb) (by rw[q1,r1,e])
    exact⟨p',u',v',by rw[e1];exact r1,r2,(r3.far hpp _ _).far hpp _ _,fun h=>r4 (by rwa [gset (by omega)] at h)⟩
   ·exact⟨p,u2,v2,by rw[e1];exact q1,q2,q3.set u2 v2,fun _=>⟨rfl,rfl⟩⟩
   ·rw[gset (by omega)] at h h';rw[e1,e1];exact hj.ne h h'
 ·obtain⟨p,u,v,p1,p2,p3,p4⟩:=hj.ga (hall' k (by omega));obtain⟨q,u',v',q1,q2,q3,q4⟩:=hj.gb (hall' (k+1) (by omega));obtain⟨rfl,rfl⟩:=p4 (hall' _ (by omega));obtain⟨rfl,rfl⟩:=q4 (hall' _ (by omega));have hpq:p≠q:=fun e=>hj.ne (hall' k (by omega)) (hall' (k+1) (by omega)) (by rw[p1,q1,e])
  have h1:=hE w p q hj.inv hpq p2 q2 p3 q3;have e:(D.filterMap (fun x=>x)++[((sa,Value.pointer (some ⟨p,0,none⟩)):Nat×Value),(sb,Value.pointer (some ⟨q,0,none⟩))]).foldl (fun(t:Array Value) (x:Nat×Value)=>t.setIfInBounds x.1 x.2) a0.tmps=a.tmps:=by
   refine yZ a _ a0.tmps (by rw[hz,hj.size]) (fun x hx=>?_) fun s hs=>?_
   ·rcases List.mem_append.1 hx with hx|hx
    ·obtain⟨j,hj'⟩:=hDmem x hx;exact hj.fact j x.1 x.2 hj' (hall' j (by rw[←hlen];exact(List.getElem?_eq_some_iff.1 hj').1))
    ·simp only[List.mem_cons,List.not_mem_nil,or_false] at hx;rcases hx with rfl|rfl
     ·exact p1
     ·exact q1
   ·refine(hj.old s (fun x hx=>hs x (List.mem_append_left _ hx)) (fun e=>hs (sa,.pointer (some ⟨p,0,none⟩)) (by simp) e.symm) fun e=>hs (sb,.pointer (some ⟨q,0,none⟩)) (by simp) e.symm).symm
  rw[List.foldl_append] at e;simp only[List.foldl_cons,List.foldl_nil] at e;rw[e] at h1;obtain⟨tm,df⟩:=a;have hdf:=hj.defers;simp only at hdf;subst hdf;exact h1
end
end
section
open Go.RowKit
def bothZ(a b:Int):Int:=if a=2∨b=2 then 2 else if a=1∧b=1 then 1 else 0
theorem yIa(a b:Int)(w:World):CallsIn Fc 0 Tryz.prog 102 #[.int .i64 a,.int .i64 b] w fun e w'=>e=.returned (.int .i64 (bothZ a b))∧w=w':=by
 by_cases a2:a=2
 ·subst a2;gi_enter Tryz.func102,Tryz.ntmps102;gi_wp2;go_ret;exact⟨by simp[bothZ],rfl⟩
 ·have ha:(a==2)=false:=by simpa using a2
  by_cases b2:b=2
  ·subst b2;gi_enter Tryz.func102,Tryz.ntmps102;gi_wp2;go_ret;exact⟨by simp[bothZ],rfl⟩
  ·have hb:(b==2)=false:=by simpa using b2
   by_cases a1:a=1
   ·subst a1;by_cases b1:b=1
    ·subst b1;gi_enter Tryz.func102,Tryz.ntmps102;gi_wp2;go_ret;exact⟨by simp[bothZ],rfl⟩
    ·have hb1:(b==1)=false:=by simpa using b1
     gi_enter Tryz.func102,Tryz.ntmps102;gi_wp2;go_ret;exact⟨by simp[bothZ,b2,b1],rfl⟩
   ·have ha1:(a==1)=false:=by simpa using a1
    gi_enter Tryz.func102,Tryz.ntmps102;gi_wp2;go_ret;exact⟨by simp[bothZ,a2,b2,a1],rfl⟩
def zvb(v:Int)(w:World)(e:Ending)(w':World):Prop:=e=.returned (.int .i64 v)∧Below w.heap.size w w'
def nearZ(al aMin aMax bMin bMax:Int):Int:=
 if max (aMax-bMin) (bMax-aMin)≤al then 1 else if max (aMin-bMax) (bMin-aMax)>al then 2 else 0
abbrev yUc(u v:Int):Value:=.agg #[.int .i64 u,.int .i64 v]
theorem yxb(rs rl rw many:Int)(b o n c i1 i2:Nat)(sh:Nat→Shaft)(W:World)(h1:i1<n)(h2:i2<n)(hn:n≤9)(hst:Hid (zxa rs rl rw many n sh))(hsh:Hid (zA W (some ⟨b,o,none⟩) n sh))
  (f g m k:Nat) (hfg:(f=105∧g=106∧m=0∧k=1)∨(f=107∧g=108∧m=1∧k=3)∨(f=109∧g=110∧m=2∧k=5)) :
  CallsIn Fc 0 Tryz.prog 66 #[zga rs rl rw many (some ⟨b,o,none⟩) n c,.int .i64 i1,.int .i64 i2,.agg #[.func (.func f) #[] #[],.func (.func g) #[] #[]]] W
   (zvb (nearZ (allowOf rs rl rw m) (spanA (sh i1) m) (spanB (sh i1) m) (spanA (sh i2) m) (spanB (sh i2) m)) W):=by
 have hx:=hst.out.each i1 h1;have hy:=hst.out.each i2 h2;have key:∀ x:Shaft,yBb x→∀ m,0≤spanA x m∧spanA x m≤9999∧0≤spanB x m∧spanB x m≤9999:=fun x hx m=>by have:=hx.s0;have:=hx.s1;have:=hx.s2;have:=hx.l0;have:=hx.l1;have:=hx.l2;have:=hx.w0;have:=hx.w1;have:=hx.w2;unfold spanA spanB;split<;>omega
 obtain⟨a0,a0',a1,a1'⟩:=key _ hx m;obtain⟨a2,a2',a3,a3'⟩:=key _ hy m;clear hx hy key;have hcell:∀ W1,Below W.heap.size W W1→W1.cell? ⟨b,o+i1*7+k,none⟩=some (.int .i64 (spanA (sh i1) m))∧W1.cell? ⟨b,o+i1*7+k+1,none⟩=some (.int .i64 (spanB (sh i1) m))∧W1.cell? ⟨b,o+i2*7+k,none⟩=some (.int .i64 (spanA (sh i2) m))∧W1.cell? ⟨b,o+i2*7+k+1,none⟩=some (.int .i64 (spanB (sh i2) m))∧b<W1.heap.size:=fun W1 hB1=>by
  obtain⟨b',o',e,hx⟩:=hsh.out i1 h1;cases e;obtain⟨b',o',e,hy⟩:=hsh.out i2 h2;cases e;have hx:=hx.below hB1;have hy:=hy.below hB1;rcases hfg with⟨_,_,rfl,rfl⟩|⟨_,_,rfl,rfl⟩|⟨_,_,rfl,rfl⟩
  ·exact⟨hx.h1,hx.h2,hy.h1,hy.h2,hx.lt⟩
  ·exact⟨hx.h3,hx.h4,hy.h3,hy.h4,hx.lt⟩
  ·exact⟨hx.h5,hx.h6,hy.h5,hy.h6,hx.lt⟩
 have HX:=Lib.hid hcell;clear hcell;generalize spanA (sh i1) m=x1 at *;generalize spanB (sh i1) m=y1 at *;generalize spanA (sh i2) m=x2 at *;generalize spanB (sh i2) m=y2 at *;have HFG:=Lib.hid hfg;clear hfg;gi_enter Tryz.func66,Tryz.ntmps66;gi_wp2;generalize hW1:(W.alloc (.cells #[.int .i64 rs,.int .i64 rl,.int .i64 rw,.int .i64 many,.slice (some ⟨b,o,none⟩) n c] 99)).alloc (.cells #[.func (.func f) #[] #[],.func (.func g) #[] #[]] 119)=W1 at *;have hB1:Below W.heap.size W W1:=by rw[←hW1];exact((Below.refl _ _).alloc (Nat.le_refl _) _).alloc (by simp) _
 have cf:W1.cell? ⟨W.heap.size+1,0,none⟩=some (.func (.func f) #[] #[]):=by rw[←hW1];simp
 have cg:W1.cell? ⟨W.heap.size+1,1,none⟩=some (.func (.func g) #[] #[]):=by rw[←hW1];simp
 have c0:W1.cell? ⟨W.heap.size,0,none⟩=some (.int .i64 rs):=by rw[←hW1];simp
 have c1:W1.cell? ⟨W.heap.size,1,none⟩=some (.int .i64 rl):=by rw[←hW1];simp
 have c2:W1.cell? ⟨W.heap.size,2,none⟩=some (.int .i64 rw):=by rw[←hW1];simp
 have c3:W1.cell? ⟨W.heap.size,3,none⟩=some (.int .i64 many):=by rw[←hW1];simp
 have cs:W1.cell? ⟨W.heap.size,4,none⟩=some (.slice (some ⟨b,o,none⟩) n c):=by rw[←hW1];simp
 have ls:W.heap.size+1<W1.heap.size:=by rw[←hW1];simp
 clear hW1;have ls':W.heap.size<W1.heap.size:=by omega
 have HB1:=Lib.hid hB1;have HC:=Lib.hid (And.intro cf (And.intro cg (And.intro c0 (And.intro c1 (And.intro c2 (And.intro c3 (And.intro cs ls)))))));clear cf cg c0 c1 c2 c3 cs ls hB1
 refine yC 20 9 10 (D:=[some (12,.pointer (some ⟨W.heap.size+1,0,none⟩)),some (13,.func (.func f) #[] #[]),some (14,.pointer (some ⟨W.heap.size,0,none⟩)),some (15,.pointer (some ⟨W.heap.size,4,none⟩)),some (16,.slice (some ⟨b,o,none⟩) n c),some (17,.int .i64 i1),some (18,.pointer (some ⟨b,o+i1*7,none⟩)),some (19,.pointer (some ⟨b,o+i1*7+k,none⟩)),some (20,.pointer (some ⟨b,o+i1*7+k,none⟩)),some (21,yUc x1 y1),some (22,.pointer (some ⟨W.heap.size+1,0,none⟩)),some (23,.func (.func f) #[] #[]),some (24,.pointer (some ⟨W.heap.size,0,none⟩)),some (25,.pointer (some ⟨W.heap.size,4,none⟩)),some (26,.slice (some ⟨b,o,none⟩) n c),some (27,.int .i64 i2),some (28,.pointer (some ⟨b,o+i2*7,none⟩)),some (29,.pointer (some ⟨b,o+i2*7+k,none⟩)),some (30,.pointer (some ⟨b,o+i2*7+k,none⟩)),some (31,yUc x2 y2),none,none,none,none])
  (I:=fun w=>Below W1.heap.size W1 w) (lo:=W1.heap.size) (z:=66) (u1:=x1) (v1:=y1) (u2:=x2) (v2:=y2) (by kernel_rfl) (by kernel_rfl) (by decide) rfl rfl (by kernel_rfl) (by kernel_rfl) (by omega) (by omega) (by omega) (by kernel_rfl) (by kernel_rfl) rfl rfl
  (fun w h=>h.size) (fun w x h=>h.alloc h.size _) (fun w p j x h hp=>h.setCell hp _) (Below.refl _ _).drew ?_ ?_ ?_ ?_ ?_ ?_
 ·intro j a w hj hnr hd hz hold hf hI;have HI:=Lib.hid hI;obtain⟨cf,cg,c0,c1,c2,c3,cs,ls⟩:=HC.out;have cf:=Below.old hI cf;have cs:=Below.old hI cs;have lb:=Nat.lt_of_lt_of_le ls hI.size;have lb':W.heap.size<w.heap.size:=by omega
  obtain⟨q1,q2,q3,q4,q5⟩:=HX.out w (HB1.out.trans (hI.mono HB1.out.size));clear hI cg c0 c1 c2 c3 ls;have s1:=zc hz (hold 1 (by kernel_rfl) (by omega) (by omega)) (by omega);have s2:=zc hz (hold 2 (by kernel_rfl) (by omega) (by omega)) (by omega);have s4:=zc hz (hold 4 (by kernel_rfl) (by omega) (by omega)) (by omega);have s7:=zc hz (hold 7 (by kernel_rfl) (by omega) (by omega)) (by omega);clear hold;have hjs:j=0∨j=1∨j=2∨j=3∨j=4∨j=5∨j=6∨j=7∨j=8∨j=9∨j=10∨j=11∨j=12∨j=13∨j=14∨j=15∨j=16∨j=17∨j=18∨j=19:=by have:j<24:=hj;omega
  rcases hjs with rfl|rfl|rfl|rfl|rfl|rfl|rfl|rfl|rfl|rfl|rfl|rfl|rfl|rfl|rfl|rfl|rfl|rfl|rfl|rfl
  ·refine wpOpIn_step rfl fun K hK=>?_
   go_simp;exact hK _ _ ⟨_,_,rfl,rfl,rfl,HI.out,Below.refl _ _⟩
  ·have f12:=zc hz (hf 0 12 _ (by kernel_rfl) rfl) (by omega);refine wpOpIn_step rfl fun K hK=>?_
   go_simp;exact hK _ _ ⟨_,_,rfl,rfl,rfl,HI.out,Below.refl _ _⟩
  ·refine wpOpIn_step rfl fun K hK=>?_
   go_simp;exact hK _ _ ⟨_,_,rfl,rfl,rfl,HI.out,Below.refl _ _⟩
  ·have f14:=zc hz (hf 2 14 _ (by kernel_rfl) rfl) (by omega);refine wpOpIn_step rfl fun K hK=>?_
   go_simp;exact hK _ _ ⟨_,_,rfl,rfl,rfl,HI.out,Below.refl _ _⟩
  ·have f15:=zc hz (hf 3 15 _ (by kernel_rfl) rfl) (by omega);refine wpOpIn_step rfl fun K hK=>?_
   go_simp;exact hK _ _ ⟨_,_,rfl,rfl,rfl,HI.out,Below.refl _ _⟩
  ·refine wpOpIn_step rfl fun K hK=>?_
   go_simp;exact hK _ _ ⟨_,_,rfl,rfl,rfl,HI.out,Below.refl _ _⟩
  ·have f16:=zc hz (hf 4 16 _ (by kernel_rfl) rfl) (by omega);have f17:=zc hz (hf 5 17 _ (by kernel_rfl) rfl) (by omega);refine wpOpIn_step rfl fun K hK=>?_
   go_simp;exact hK _ _ ⟨_,_,rfl,rfl,rfl,HI.out,Below.refl _ _⟩
  ·have f13:=zc hz (hf 1 13 _ (by kernel_rfl) rfl) (by omega);have f18:=zc hz (hf 6 18 _ (by kernel_rfl) rfl) (by omega);rcases HFG.out with⟨rfl,_,_,rfl⟩|⟨rfl,_,_,rfl⟩|⟨rfl,_,_,rfl⟩
   all_goals
    refine wpOpIn_step rfl fun K hK=>?_
    go_simp;refine(by first|exact zAb _ _ _|exact zzb _ _ _|exact zyb _ _ _:CallsIn Fc 0 Tryz.prog _ _ _ (fun e w'=>_∧_)).mono ?_;rintro e w' ⟨rfl,rfl⟩;exact hK _ _ ⟨_,_,rfl,rfl,rfl,HI.out,Below.refl _ _⟩
  ·have f19:=zc hz (hf 7 19 _ (by kernel_rfl) rfl) (by omega);refine wpOpIn_step rfl fun K hK=>?_
   go_simp;exact hK _ _ ⟨_,_,rfl,rfl,rfl,HI.out,Below.refl _ _⟩
  ·have f20:=zc hz (hf 8 20 _ (by kernel_rfl) rfl) (by omega);refine wpOpIn_step rfl fun K hK=>?_
   go_simp;exact hK _ _ ⟨_,_,rfl,rfl,rfl,HI.out,Below.refl _ _⟩
  ·refine wpOpIn_step rfl fun K hK=>?_
   go_simp;exact hK _ _ ⟨_,_,rfl,rfl,rfl,HI.out,Below.refl _ _⟩
  ·have f22:=zc hz (hf 10 22 _ (by kernel_rfl) rfl) (by omega);refine wpOpIn_step rfl fun K hK=>?_
   go_simp;exact hK _ _ ⟨_,_,rfl,rfl,rfl,HI.out,Below.refl _ _⟩
  ·refine wpOpIn_step rfl fun K hK=>?_
   go_simp;exact hK _ _ ⟨_,_,rfl,rfl,rfl,HI.out,Below.refl _ _⟩
  ·have f24:=zc hz (hf 12 24 _ (by kernel_rfl) rfl) (by omega);refine wpOpIn_step rfl fun K hK=>?_
   go_simp;exact hK _ _ ⟨_,_,rfl,rfl,rfl,HI.out,Below.refl _ _⟩
  ·have f25:=zc hz (hf 13 25 _ (by kernel_rfl) rfl) (by omega);refine wpOpIn_step rfl fun K hK=>?_
   go_simp;exact hK _ _ ⟨_,_,rfl,rfl,rfl,HI.out,Below.refl _ _⟩
  ·refine wpOpIn_step rfl fun K hK=>?_
   go_simp;exact hK _ _ ⟨_,_,rfl,rfl,rfl,HI.out,Below.refl _ _⟩
  ·have f26:=zc hz (hf 14 26 _ (by kernel_rfl) rfl) (by omega);have f27:=zc hz (hf 15 27 _ (by kernel_rfl) rfl) (by omega);refine wpOpIn_step rfl fun K hK=>?_
   go_simp;exact hK _ _ ⟨_,_,rfl,rfl,rfl,HI.out,Below.refl _ _⟩
  ·have f23:=zc hz (hf 11 23 _ (by kernel_rfl) rfl) (by omega);have f28:=zc hz (hf 16 28 _ (by kernel_rfl) rfl) (by omega);rcases HFG.out with⟨rfl,_,_,rfl⟩|⟨rfl,_,_,rfl⟩|⟨rfl,_,_,rfl⟩
   all_goals
    refine wpOpIn_step rfl fun K hK=>?_
    go_simp;refine(by first|exact zAb _ _ _|exact zzb _ _ _|exact zyb _ _ _:CallsIn Fc 0 Tryz.prog _ _ _ (fun e w'=>_∧_)).mono ?_;rintro e w' ⟨rfl,rfl⟩;exact hK _ _ ⟨_,_,rfl,rfl,rfl,HI.out,Below.refl _ _⟩
  ·have f29:=zc hz (hf 17 29 _ (by kernel_rfl) rfl) (by omega);refine wpOpIn_step rfl fun K hK=>?_
   go_simp;exact hK _ _ ⟨_,_,rfl,rfl,rfl,HI.out,Below.refl _ _⟩
  ·have f30:=zc hz (hf 18 30 _ (by kernel_rfl) rfl) (by omega);refine wpOpIn_step rfl fun K hK=>?_
   go_simp;exact hK _ _ ⟨_,_,rfl,rfl,rfl,HI.out,Below.refl _ _⟩
 ·intro a w hd hz;refine wpOpIn_step rfl fun K hK=>?_
  go_simp;exact hK _ _ ⟨rfl,rfl,rfl⟩
 ·intro a w hd hz;refine wpOpIn_step rfl fun K hK=>?_
  go_simp;exact hK _ _ ⟨rfl,rfl,rfl⟩
 ·intro a w p u v hd hz hp hs hf;have f9:=zc hz hp (by omega);have f21:=zc hz (hf 9 21 _ (by kernel_rfl) rfl) (by omega);have z0:=hs.frozen 0;have z1:=hs.frozen 1;obtain⟨y0,y1⟩:=hs.cell;refine wpOpIn_step rfl fun K hK=>?_
  go_simp;exact hK _ _ ⟨hd,rfl,rfl⟩
 ·intro a w p u v hd hz hp hs hf;have f10:=zc hz hp (by omega);have f31:=zc hz (hf 19 31 _ (by kernel_rfl) rfl) (by omega);have z0:=hs.frozen 0;have z1:=hs.frozen 1;obtain⟨y0,y1⟩:=hs.cell;refine wpOpIn_step rfl fun K hK=>?_
  go_simp;exact hK _ _ ⟨hd,rfl,rfl⟩
 ·intro w p q hb hpq hp1 hq1 hp2 hq2;simp only[List.filterMap_cons,List.filterMap_nil,List.foldl_cons,List.foldl_nil,List.setIfInBounds_toArray,List.set_cons_succ,List.set_cons_zero];obtain⟨cf,cg,c0,c1,c2,c3,cs,ls⟩:=HC.out;have cg:=Below.old hb cg;have c0:=Below.old hb c0;have c1:=Below.old hb c1;have c2:=Below.old hb c2;have c3:=Below.old hb c3;obtain⟨p0,p1⟩:=hp2.cell;obtain⟨q0,q1⟩:=hq2.cell;have lp:=hp2.lt;have lq:=hq2.lt;have lw:W.heap.size+1<w.heap.size:=Nat.lt_of_lt_of_le ls hb.size;have lw0:W.heap.size<w.heap.size:=by omega
  have HP:=Lib.hid hp2;have HQ:=Lib.hid hq2;clear cf cs hp2 hq2 ls;have HB:=Lib.hid hb;clear hb HC HX;rcases HFG.out with⟨rfl,rfl,rfl,rfl⟩|⟨rfl,rfl,rfl,rfl⟩|⟨rfl,rfl,rfl,rfl⟩
  all_goals
   clear HFG;gi_wp2
   all_goals
    go_ret;refine⟨?_,?_⟩
    ·congr 2
     simp only[nearZ,allowOf,Int.max_def] at *
     repeat' split
     all_goals first|rfl|omega
    ·exact(HB1.out.trans (HB.out.mono HB1.out.size)).alloc (Nat.le_trans HB1.out.size HB.out.size) _
theorem near_any0(rs rl rw many:Int)(b o n c i1 i2:Nat)(sh:Nat→Shaft)(W:World)(h1:i1<n)(h2:i2<n)(hn:n≤9)(hst:Hid (zxa rs rl rw many n sh))(hsh:Hid (zA W (some ⟨b,o,none⟩) n sh)) :
  CallsIn Fc 0 Tryz.prog 66 #[zga rs rl rw many (some ⟨b,o,none⟩) n c,.int .i64 i1,.int .i64 i2,.agg #[.func (.func 105) #[] #[],.func (.func 106) #[] #[]]] W
   (zvb (nearZ (allowOf rs rl rw 0) (spanA (sh i1) 0) (spanB (sh i1) 0) (spanA (sh i2) 0) (spanB (sh i2) 0)) W):=
 yxb rs rl rw many b o n c i1 i2 sh W h1 h2 hn hst hsh 105 106 0 1 (.inl ⟨rfl,rfl,rfl,rfl⟩)
theorem near_any1(rs rl rw many:Int)(b o n c i1 i2:Nat)(sh:Nat→Shaft)(W:World)(h1:i1<n)(h2:i2<n)(hn:n≤9)(hst:Hid (zxa rs rl rw many n sh))(hsh:Hid (zA W (some ⟨b,o,none⟩) n sh)) :
  CallsIn Fc 0 Tryz.prog 66 #[zga rs rl rw many (some ⟨b,o,none⟩) n c,.int .i64 i1,.int .i64 i2,.agg #[.func (.func 107) #[] #[],.func (.func 108) #[] #[]]] W
   (zvb (nearZ (allowOf rs rl rw 1) (spanA (sh i1) 1) (spanB (sh i1) 1) (spanA (sh i2) 1) (spanB (sh i2) 1)) W):=
 yxb rs rl rw many b o n c i1 i2 sh W h1 h2 hn hst hsh 107 108 1 3 (.inr (.inl ⟨rfl,rfl,rfl,rfl⟩))
theorem near_any2(rs rl rw many:Int)(b o n c i1 i2:Nat)(sh:Nat→Shaft)(W:World)(h1:i1<n)(h2:i2<n)(hn:n≤9)(hst:Hid (zxa rs rl rw many n sh))(hsh:Hid (zA W (some ⟨b,o,none⟩) n sh)) :
  CallsIn Fc 0 Tryz.prog 66 #[zga rs rl rw many (some ⟨b,o,none⟩) n c,.int .i64 i1,.int .i64 i2,.agg #[.func (.func 109) #[] #[],.func (.func 110) #[] #[]]] W
   (zvb (nearZ (allowOf rs rl rw 2) (spanA (sh i1) 2) (spanB (sh i1) 2) (spanA (sh i2) 2) (spanB (sh i2) 2)) W):=
 yxb rs rl rw many b o n c i1 i2 sh W h1 h2 hn hst hsh 109 110 2 5 (.inr (.inr ⟨rfl,rfl,rfl,rfl⟩))
end
section
open Go.RowKit
def nearOf(rs rl rw:Int)(x y:Shaft)(m:Nat):Int:=nearZ (allowOf rs rl rw m) (spanA x m) (spanB x m) (spanA y m) (spanB y m)
def upTo(rs rl rw:Int)(x y:Shaft):Nat→Int
 |0=>1
 |m+1=>bothZ (upTo rs rl rw x y m) (nearOf rs rl rw x y m)
def pairZ(rs rl rw:Int)(x y:Shaft):Int:=upTo rs rl rw x y 3
theorem matchTwo_any(rs rl rw many:Int)(b o n c i1 i2:Nat)(sh:Nat→Shaft)(W:World)(h1:i1<n)(h2:i2<n)(hn:n≤9)(hst:Hid (zxa rs rl rw many n sh))(hsh:Hid (zA W (some ⟨b,o,none⟩) n sh)) :
  CallsIn Fc 0 Tryz.prog 101 #[zga rs rl rw many (some ⟨b,o,none⟩) n c,.int .i64 i1,.int .i64 i2] W (zvb (pairZ rs rl rw (sh i1) (sh i2)) W):=by
 gi_enter Tryz.func101,Tryz.ntmps101
 gi_wp2_with (gi_at_call 65;refine(yE _).mono ?_;rintro e w' ⟨rfl,rfl⟩)
 gi_loopw [7,12] (fun sv i wr=>∃ k:Nat,k≤3∧i=.int .i64 k∧sv=.int .i64 (upTo rs rl rw (sh i1) (sh i2) k) ∧
   Below (W.heap.size+2) ((W.alloc (.cells #[.int .i64 rs,.int .i64 rl,.int .i64 rw,.int .i64 many,.slice (some ⟨b,o,none⟩) n c] 99)).alloc (.cells measuresV 119)) wr) (fun _ i _=>3-(intOf i).toNat)
 case atStart=>exact⟨0,by omega,rfl,rfl,Below.refl _ _⟩
 case round=>
  obtain⟨k,hk,rfl,rfl,hb⟩:=hrel;have c0:wr.cell? ⟨W.heap.size,0,none⟩=some (.int .i64 rs):=by rw[hb.cell (by simp)];go_simp
  have c1:wr.cell? ⟨W.heap.size,1,none⟩=some (.int .i64 rl):=by rw[hb.cell (by simp)];go_simp
  have c2:wr.cell? ⟨W.heap.size,2,none⟩=some (.int .i64 rw):=by rw[hb.cell (by simp)];go_simp
  have c3:wr.cell? ⟨W.heap.size,3,none⟩=some (.int .i64 many):=by rw[hb.cell (by simp)];go_simp
  have c4:wr.cell? ⟨W.heap.size,4,none⟩=some (.slice (some ⟨b,o,none⟩) n c):=by rw[hb.cell (by simp)];go_simp
  have m0:wr.cell? ⟨W.heap.size+1,0,none⟩=some (.func (.func 105) #[] #[]):=by rw[hb.cell (by simp)];simp[measuresV]
  have m1:wr.cell? ⟨W.heap.size+1,1,none⟩=some (.func (.func 106) #[] #[]):=by rw[hb.cell (by simp)];simp[measuresV]
  have m2:wr.cell? ⟨W.heap.size+1,2,none⟩=some (.func (.func 107) #[] #[]):=by rw[hb.cell (by simp)];simp[measuresV]
  have m3:wr.cell? ⟨W.heap.size+1,3,none⟩=some (.func (.func 108) #[] #[]):=by rw[hb.cell (by simp)];simp[measuresV]
  have m4:wr.cell? ⟨W.heap.size+1,4,none⟩=some (.func (.func 109) #[] #[]):=by rw[hb.cell (by simp)];simp[measuresV]
  have m5:wr.cell? ⟨W.heap.size+1,5,none⟩=some (.func (.func 110) #[] #[]):=by rw[hb.cell (by simp)];simp[measuresV]
  have hz1:W.heap.size+1<wr.heap.size:=by have:=hb.size;simp at this;omega
  have hz0:W.heap.size<wr.heap.size:=by omega
  have hBW:Below W.heap.size W wr:=(((Below.refl W.heap.size W).alloc (Nat.le_refl _) _).alloc (by simp) _).trans (hb.mono (by omega));have HS:=Lib.hid (hsh.out.below hBW);have HB:=Lib.hid hb;have HBW:=Lib.hid hBW;clear hb hBW;by_cases hlt:k<3
  ·have h3:k=0∨k=1∨k=2:=by omega
   rcases h3 with rfl|rfl|rfl
   ·gi_wp2_with (first
     |(gi_at_call 66;refine(near_any0 rs rl rw many b o n c i1 i2 sh _ h1 h2 hn hst (Lib.hid (HS.out.below ((Below.refl _ _).alloc (Nat.le_refl _) _)))).mono ?_;rintro e w2 ⟨rfl,hb2⟩)
     |(gi_at_call 102;refine(yIa _ _ _).mono ?_;rintro e w' ⟨rfl,rfl⟩))
    have hs2:=hb2.size;simp at hs2;go_roundw
    case rel=>exact⟨0+1,by omega,by first|rfl|go_num,rfl,(HB.out.alloc (by omega) _).trans (hb2.mono (by simp;omega))⟩
    case measure=>simp[intOf]
   ·gi_wp2_with (first
     |(gi_at_call 66;refine(near_any1 rs rl rw many b o n c i1 i2 sh _ h1 h2 hn hst (Lib.hid (HS.out.below ((Below.refl _ _).alloc (Nat.le_refl _) _)))).mono ?_;rintro e w2 ⟨rfl,hb2⟩)
     |(gi_at_call 102;refine(yIa _ _ _).mono ?_;rintro e w' ⟨rfl,rfl⟩))
    have hs2:=hb2.size;simp at hs2;go_roundw
    case rel=>exact⟨1+1,by omega,by first|rfl|go_num,rfl,(HB.out.alloc (by omega) _).trans (hb2.mono (by simp;omega))⟩
    case measure=>simp[intOf]
   ·gi_wp2_with (first
     |(gi_at_call 66;refine(near_any2 rs rl rw many b o n c i1 i2 sh _ h1 h2 hn hst (Lib.hid (HS.out.below ((Below.refl _ _).alloc (Nat.le_refl _) _)))).mono ?_;rintro e w2 ⟨rfl,hb2⟩)
     |(gi_at_call 102;refine(yIa _ _ _).mono ?_;rintro e w' ⟨rfl,rfl⟩))
    have hs2:=hb2.size;simp at hs2;go_roundw
    case rel=>exact⟨2+1,by omega,by first|rfl|go_num,rfl,(HB.out.alloc (by omega) _).trans (hb2.mono (by simp;omega))⟩
    case measure=>simp[intOf]
  ·obtain rfl:k=3:=by omega
   gi_wp2;go_ret;exact⟨rfl,HBW.out⟩
end
section
open Go.RowKit
def ckAt(rs rl rw many:Int)(A:Option Addr)(n c:Nat)(P:Nat→Int):Nat→Value
 |0=>.int .i64 rs
 |1=>.int .i64 rl
 |2=>.int .i64 rw
 |3=>.int .i64 many
 |4=>.slice A n c
 |i+5=>.int .i64 (P i)
def ckCells(rs rl rw many:Int)(A:Option Addr)(n c:Nat)(P:Nat→Int):Array Value:=Array.ofFn (n:=86) fun i=>ckAt rs rl rw many A n c P i.val
theorem zero106(w:World):(Instr.alloc 106 true (.tuple #[])).run Tryz.prog w=.ok (.pointer (some ⟨w.heap.size,0,none⟩)) (w.alloc (.cells Tryz.zeroCells106 106)):=by kernel_rfl
theorem i106:(Tryz.prog.info? 106).map (·.size)=some 86:=by kernel_rfl
theorem zc106:Tryz.zeroCells106.size=86:=by kernel_rfl
theorem ck_size(rs rl rw many:Int)(A:Option Addr)(n c:Nat)(P:Nat→Int):(ckCells rs rl rw many A n c P).size=86:=by simp[ckCells]
theorem yxc{rs rl rw many:Int}{A:Option Addr}{n c:Nat}{P:Nat→Int}{i:Nat}(h:i<86):(ckCells rs rl rw many A n c P)[i]? = some (ckAt rs rl rw many A n c P i):=by simp[ckCells,h]
theorem ck_one(rs rl rw many:Int)(A:Option Addr)(n c:Nat)(P:Nat→Int)(i:Nat):(ckAt rs rl rw many A n c P i).oneCell'=true:=by unfold ckAt;split<;>rfl
theorem ck_set{rs rl rw many:Int}{A:Option Addr}{n c:Nat}{P:Nat→Int}{i:Nat}(x:Int):(ckCells rs rl rw many A n c P).setIfInBounds (5+i) (.int .i64 x)=ckCells rs rl rw many A n c (fun j=>if j=i then x else P j):=by
 apply Array.ext_getElem?;intro j;rw[Array.getElem?_setIfInBounds,ck_size];rcases Nat.lt_or_ge j 86 with hj|hj
 ·rw[yxc hj,yxc hj];by_cases e:5+i=j
  ·subst e;rw[if_pos rfl,if_pos hj];rw[Nat.add_comm];show _=some (ckAt rs rl rw many A n c _ (i+5));simp only[ckAt,if_true]
  ·rw[if_neg e]
   match j,e with
   |0,_=>rfl
   |1,_=>rfl
   |2,_=>rfl
   |3,_=>rfl
   |4,_=>rfl
   |j+5,e=>simp only[ckAt];rw[if_neg (by omega)]
 ·rw[Array.getElem?_eq_none (by rw[ck_size];exact hj),Array.getElem?_eq_none (by rw[ck_size];exact hj)];by_cases e:5+i=j
  ·rw[if_pos e,if_neg (by omega)]
  ·rw[if_neg e]
section
variable {ops:Array Oper}{rest:List Oper}{o:Oper}{a:Act}{w:World}{Q:Exit→Act→World→Prop}
theorem yya{v:Value}{w':World}(hg:o.guard=none)(hc:∀ c,o.op≠.call c)(hd:∀ c,o.op≠.defer c)(hr:(execOp a.eval o).run Tryz.prog w=.ok (.value v) w')(h:wpListIn Fc 0 Tryz.prog ops Q rest (a.put o.dst v) w'):wpListIn Fc 0 Tryz.prog ops Q (o::rest) a w:=by
 refine wpListIn_plain hg fun K hK=>?_
 unfold Oper.wpIn;refine⟨?_,?_⟩
 ·intro f hf;unfold Oper.about at hf;split at hf
  ·next c hc'=>exact absurd hc' (hc c)
  ·cases hf
 ·rw[Oper.semAt_plain Fc _ _ hd,hr];exact hK _ _ h
theorem wpListIn_skip{w':World}(hg:o.guard=none)(hc:∀ c,o.op≠.call c)(hd:∀ c,o.op≠.defer c)(hr:(execOp a.eval o).run Tryz.prog w=.ok .skip w')(h:wpListIn Fc 0 Tryz.prog ops Q rest (a.put o.dst undef) w'):wpListIn Fc 0 Tryz.prog ops Q (o::rest) a w:=by
 refine wpListIn_plain hg fun K hK=>?_
 unfold Oper.wpIn;refine⟨?_,?_⟩
 ·intro f hf;unfold Oper.about at hf;split at hf
  ·next c hc'=>exact absurd hc' (hc c)
  ·cases hf
 ·rw[Oper.semAt_plain Fc _ _ hd,hr];exact hK _ _ h
theorem wpListIn_alloc106(hg:o.guard=none)(hop:o.op=.alloc 106)(h:wpListIn Fc 0 Tryz.prog ops Q rest (a.put o.dst (.pointer (some ⟨w.heap.size,0,none⟩))) (w.alloc (.cells Tryz.zeroCells106 106))):wpListIn Fc 0 Tryz.prog ops Q (o::rest) a w:=by refine yya hg (by rw[hop];intro c e;cases e) (by rw[hop];intro c e;cases e) ?_ h;unfold execOp;rw[hop];show(do pure (.value (←Instr.alloc 106 true (.tuple #[]))):Sem Next).run Tryz.prog w=_;rw[Sem.run_bind,zero106];rfl
theorem yu(hg:o.guard=none)(p x:Operand)(hop:o.op=.store 106 p x)(g:Nat)(cells old:Array Value)(hp:a.eval p=.pointer (some ⟨g,0,none⟩))(hx:a.eval x=.agg cells)(hb:w.heap[g]? = some (.cells old 106 (0,0)))(ho:old.size=86)(hs:cells.size=86)(h1:cells.all (·.oneCell')=true)
  (h:∀ w',w.grownBy w' (some g)→w'.heap[g]? = some (.cells cells 106 (0,0))→wpListIn Fc 0 Tryz.prog ops Q rest (a.put o.dst undef) w'):wpListIn Fc 0 Tryz.prog ops Q (o::rest) a w:=by
 have hgr:w.grownBy (w.setRow g cells) (some g):=by refine⟨rfl,rfl,rfl,by simp[World.setRow],fun k hk hne=>?_⟩;simp only[World.setRow,Array.getElem?_modify];rw[if_neg (fun e=>hne (by rw[e]))]
 have hbl:=setRow_heap w g old cells 106 (0,0) hb;have hrun:(storeVar 106 ⟨g,0,none⟩ (.agg cells)).run Tryz.prog w=.ok () (w.setRow g cells):=run_storeVar_row w g 106 106 old cells hb (by rw[i106,hs]) (by rw[ho,hs]) h1;generalize w.setRow g cells=w1 at *;have h2:=h w1 hgr hbl;refine wpListIn_skip (w':=w1) hg (by rw[hop];intro c e;cases e) (by rw[hop];intro c e;cases e) ?_ h2
 ·unfold execOp;rw[hop];show(do Instr.storeAt 106 (a.eval p) (a.eval x);pure .skip:Sem Next).run Tryz.prog w=_;have e:(Instr.storeAt 106 (a.eval p) (a.eval x)).run Tryz.prog w=.ok () w1:=by rw[hp,hx];exact hrun
  rw[Sem.run_bind,e];rfl
theorem u106:(match Tryz.prog.underlying 106 with|some (.struct _)=>true|_=>false)=true:=by kernel_rfl
theorem yac(w:World)(g:Nat)(cs:Array Value)(hb:w.heap[g]? = some (.cells cs 106 (0,0)))(hs:cs.size=86):(loadVar 106 ⟨g,0,none⟩).run Tryz.prog w=.ok (.agg cs) w:=by
 have h:=u106;split at h
 ·next fs hu=>exact run_loadVar_row w g 106 106 cs (0,0) (.struct fs) hb hu rfl (by rw[i106,hs])
 ·cases h
theorem wpListIn_load106(hg:o.guard=none)(p:Operand)(hop:o.op=.load 106 p)(g:Nat)(cells:Array Value)(hp:a.eval p=.pointer (some ⟨g,0,none⟩))(hb:w.heap[g]? = some (.cells cells 106 (0,0)))(hs:cells.size=86)
  (h:wpListIn Fc 0 Tryz.prog ops Q rest (a.put o.dst (.agg cells)) w):wpListIn Fc 0 Tryz.prog ops Q (o::rest) a w:=by
 refine yya hg (by rw[hop];intro c e;cases e) (by rw[hop];intro c e;cases e) ?_ h;unfold execOp;rw[hop];show(do pure (.value (←Instr.loadAt 106 (a.eval p))):Sem Next).run Tryz.prog w=_;have e:(Instr.loadAt 106 (a.eval p)).run Tryz.prog w=.ok (.agg cells) w:=by rw[hp];exact yac w g cells hb hs
 rw[Sem.run_bind,e];rfl
end
end
section
open Go.RowKit
def CkInv(W:World)(rs rl rw many:Int)(A:Option Addr)(n c:Nat)(sh:Nat→Shaft)(kt ko:Nat)(wr:World):Prop:=
 Below W.heap.size W wr∧wr.heap[W.heap.size+1]? = some (.cells Tryz.zeroCells106 106 (0,0)) ∧
 ∃ P:Nat→Int,wr.heap[W.heap.size+2]? = some (.cells (ckCells rs rl rw many A n c P) 106 (0,0))∧∀ two one,one<two→(two<kt∨(two=kt∧one<ko))→P (one*9+two)=pairZ rs rl rw (sh one) (sh two)
theorem zVa{w:World}{g:Nat}{rs rl rw many:Int}{A:Option Addr}{n c:Nat}{P:Nat→Int}(h:w.heap[g]? = some (.cells (ckCells rs rl rw many A n c P) 106 (0,0))){i:Nat}(hi:i<86):w.cell? ⟨g,i,none⟩=some (ckAt rs rl rw many A n c P i):=by simp only[World.cell?,h,Option.isSome_none,Bool.false_eq_true,if_false];exact yxc hi
theorem zset(rs rl rw many:Int)(A:Option Addr)(n c:Nat):(((((Tryz.zeroCells106.setIfInBounds 0 (.int .i64 rs)).setIfInBounds 1 (.int .i64 rl)).setIfInBounds 2 (.int .i64 rw)).setIfInBounds 3 (.int .i64 many)).setIfInBounds 4 (.slice A n c))=ckCells rs rl rw many A n c fun _=>0:=by kernel_rfl
theorem yWc(rs rl rw many:Int)(A:Option Addr)(n c:Nat)(P:Nat→Int):(ckCells rs rl rw many A n c P).all (·.oneCell')=true:=by rw[Array.all_eq_true];intro i h;rw[ck_size] at h;have h1:=yxc (rs:=rs) (rl:=rl) (rw:=rw) (many:=many) (A:=A) (n:=n) (c:=c) (P:=P) h;rw[Array.getElem?_eq_getElem (by rw[ck_size];exact h)] at h1;rw[Option.some.inj h1];exact ck_one _ _ _ _ _ _ _ _ _
theorem ck_frozen{w:World}{g:Nat}{cs:Array Value}(h:w.heap[g]? = some (.cells cs 106 (0,0)))(i:Nat):w.frozen? ⟨g,i,none⟩=false:=by simp[World.frozen?,h]
theorem ck_ready{w w':World}{g:Nat}{rs rl rw many:Int}{A:Option Addr}{n c:Nat}{P:Nat→Int}(h:w.heap[g]? = some (.cells (ckCells rs rl rw many A n c P) 106 (0,0)))(hb:Below w.heap.size w w'){i:Nat}(hi:5+i<86) :
  w'.cell? ⟨g,5+i,none⟩=some (.int .i64 (P i))∧w'.frozen? ⟨g,5+i,none⟩=false∧w'.heap[g]? = some (.cells (ckCells rs rl rw many A n c P) 106 (0,0)):=by
 have hl:g<w.heap.size:=(Array.getElem?_eq_some_iff.1 h).1;have h':w'.heap[g]? = some (.cells (ckCells rs rl rw many A n c P) 106 (0,0)):=by rw[hb.block g hl];exact h
 refine⟨?_,ck_frozen h' _,h'⟩;rw[zVa h' hi,Nat.add_comm 5 i];rfl
theorem CkInv.step{W wr w5:World}{rs rl rw many:Int}{A:Option Addr}{n c:Nat}{sh:Nat→Shaft}{k j:Nat}(hI:CkInv W rs rl rw many A n c sh k j wr)(hb:Below wr.drew.heap.size wr.drew w5)(hj:j<k)(hk:k<9) :
  CkInv W rs rl rw many A n c sh k (j+1) (w5.setCell ⟨W.heap.size+1+1,5+j*9+k,none⟩ (.int .i64 (pairZ rs rl rw (sh j) (sh k)))):=by
 obtain⟨hB,h1,P,h2,h3⟩:=hI;have hl1:W.heap.size+1<wr.heap.size:=(Array.getElem?_eq_some_iff.1 h1).1;have hl2:W.heap.size+2<wr.heap.size:=(Array.getElem?_eq_some_iff.1 h2).1;have h5:w5.heap[W.heap.size+2]? = some (.cells (ckCells rs rl rw many A n c P) 106 (0,0)):=by rw[hb.block _ hl2];exact h2
 have h4:w5.heap[W.heap.size+1]? = some (.cells Tryz.zeroCells106 106 (0,0)):=by rw[hb.block _ hl1];exact h1
 refine⟨(hB.drew.trans (hb.mono hB.size)).setCell (by show W.heap.size≤W.heap.size+1+1;omega) _,?_,fun i=>if i=j*9+k then pairZ rs rl rw (sh j) (sh k) else P i,?_,?_⟩
 ·rw[Below.heap_setCell _ _ _ _ (by show W.heap.size+1≠W.heap.size+1+1;omega)];exact h4
 ·simp only[World.setCell,Array.getElem?_modify];rw[if_pos trivial,h5];simp only[Option.map_some,Option.isSome_none,Bool.false_eq_true,if_false];rw[Nat.add_assoc,ck_set]
 ·intro two one h6 h7;show(if one*9+two=j*9+k then pairZ rs rl rw (sh j) (sh k) else P (one*9+two))=_;by_cases e:one*9+two=j*9+k
  ·rw[if_pos e];have e1:one=j:=by omega
   have e2:two=k:=by omega
   rw[e1,e2]
  ·rw[if_neg e];refine h3 two one h6 ?_;rcases h7 with h7|⟨h7,h8⟩
   ·exact .inl h7
   ·refine .inr ⟨h7,?_⟩;rcases Nat.lt_succ_iff_lt_or_eq.1 h8 with h9|h9
    ·exact h9
    ·subst h9;subst h7;exact absurd rfl e
theorem results_ck{fn:Func}{tmps:Array Value}{w:World}{g:Nat}{cs:Array Value}(h:fn.results=#[.cell 2 106])(ht:tmps.getD 2 undef=.pointer (some ⟨g,0,none⟩))(hb:w.heap[g]? = some (.cells cs 106 (0,0)))(hs:cs.size=86) :
  (results fn tmps).run Tryz.prog w=.ok (.agg cs) w:=by
 have e:=yac w g cs hb hs;have ht':tmps[2]?.getD undef=.pointer (some ⟨g,0,none⟩):=by rw[←ht,Array.getD_eq_getD_getElem?]
 unfold results;rw[h];simp[ht',asAddr,e]
def HandsChecked(W:World)(rs rl rw many:Int)(A:Option Addr)(n c:Nat)(sh:Nat→Shaft)(e:Ending)(w':World):Prop:=
 ∃ P:Nat→Int,e=.returned (.agg (ckCells rs rl rw many A n c P))∧(∀ two one,one<two→two<n→P (one*9+two)=pairZ rs rl rw (sh one) (sh two))∧Below W.heap.size W w'
theorem yS(rs rl rw many:Int)(A:Option Addr)(n c:Nat)(sh:Nat→Shaft)(W:World)(hst:Hid (zxa rs rl rw many n sh))(hsh:Hid (zA W A n sh)) :
  CallsIn Fc 0 Tryz.prog 58 #[zga rs rl rw many A n c] W (HandsChecked W rs rl rw many A n c sh):=by
 have hn:=hst.out.count;have hsz:∀ a b:Obj,((W.alloc a).alloc b).heap.size=W.heap.size+1+1:=fun a b=>by simp
 have HSZ:=Lib.hid hsz;clear hsz;gi_enter Tryz.func58,Tryz.ntmps58
 gi_wp2_with (first
  |(refine wpListIn_alloc106 rfl rfl ?_)
  |(refine yu rfl _ _ rfl _ _ Tryz.zeroCells106 rfl rfl (zhb (by simp)) zc106 (by rw[zset];exact ck_size _ _ _ _ _ _ _ _) (by rw[zset];exact yWc _ _ _ _ _ _ _ _) ?_;intro w4 hg4 hb4;rw[zset,HSZ.out] at hb4;rw[HSZ.out] at hg4;have c4:w4.cell? ⟨W.heap.size+1+1,4,none⟩=some (.slice A n c):=zVa hb4 (by decide);have HB4:=Lib.hid hb4;have HG4:=Lib.hid hg4;clear hb4 hg4))
 have hinv:CkInv W rs rl rw many A n c sh 0 0 w4:=by refine⟨((((Below.refl W.heap.size W).alloc (Nat.le_refl _) _).alloc (by simp) _).alloc (by simp;omega) _).grown HG4.out (by simp;omega) (fun k e=>by cases e;omega),?_,fun _=>0,HB4.out,fun two one h1 h2=>by omega⟩;rw[HG4.out.block (W.heap.size+1) (by simp) (by simp)];exact zsb (zhb (by simp))
 have HI0:=Lib.hid hinv;clear hinv c4
 gi_loopw [13] (fun i wr=>∃ k:Nat,k≤n∧i=.int .i64 k∧CkInv W rs rl rw many A n c sh k 0 wr) (fun i _=>n-(intOf i).toNat)
 case atStart=>exact⟨0,by omega,rfl,HI0.out⟩
 case round=>
  obtain⟨k,hk,rfl,hinv⟩:=hrel;have HI:=Lib.hid hinv;clear hinv;by_cases hlt:k<n
  ·obtain⟨b,o,rfl,_⟩:=hsh.out k hlt;gi_wp2
   gi_loopw [17] (fun i wi=>∃ j:Nat,j≤k∧i=.int .i64 j∧CkInv W rs rl rw many (some ⟨b,o,none⟩) n c sh k j wi) (fun i _=>k-(intOf i).toNat)
   case atStart=>exact⟨0,by omega,rfl,HI.out⟩
   case round=>
    obtain⟨j,hj,rfl,hinv⟩:=hrel;by_cases hlj:j<k
    ·have HINV:=Lib.hid hinv;obtain⟨hB,h1,P,h2,h3⟩:=hinv;have d0:wr.cell? ⟨W.heap.size+1+1,0,none⟩=some (.int .i64 rs):=zVa h2 (by decide);have d1:wr.cell? ⟨W.heap.size+1+1,1,none⟩=some (.int .i64 rl):=zVa h2 (by decide);have d2:wr.cell? ⟨W.heap.size+1+1,2,none⟩=some (.int .i64 rw):=zVa h2 (by decide);have d3:wr.cell? ⟨W.heap.size+1+1,3,none⟩=some (.int .i64 many):=zVa h2 (by decide);have d4:wr.cell? ⟨W.heap.size+1+1,4,none⟩=some (.slice (some ⟨b,o,none⟩) n c):=zVa h2 (by decide);have HB:=Lib.hid hB;have H1:=Lib.hid h1;have H2:=Lib.hid h2;have H3:=Lib.hid h3;clear hB h1 h2 h3;gi_wp2
     gi_region_with (gi_at_call 101;refine(matchTwo_any rs rl rw many b o n c j k sh _ (by omega) (by omega) (by omega) hst (Lib.hid (hsh.out.below HB.out.drew))).mono ?_;rintro e w5 ⟨rfl,hb5⟩;obtain⟨f5,g5,h5⟩:=ck_ready (w:=wr.drew) H2.out hb5 (i:=j*9+k) (by omega);rw[←Nat.add_assoc] at f5 g5;have H5:=Lib.hid h5;have B5:=Lib.hid hb5;clear h5 hb5)
     all_goals
      gi_wp2;go_roundw
      case rel=>exact⟨j+1,by omega,by go_num,HINV.out.step B5.out hlj (by omega)⟩
      case measure=>simp[intOf];omega
    ·obtain rfl:j=k:=by omega
     have HJ:=Lib.hid hinv;clear hinv;gi_wp2;go_roundw
     case rel=>obtain⟨hB,h1,P,h2,h3⟩:=HJ.out;exact⟨j+1,by omega,by go_num,hB,h1,P,h2,fun two one h4 h5=>h3 two one h4 (by omega)⟩
     case measure=>simp[intOf];omega
  ·obtain⟨hB,h1,P,h2,h3⟩:=HI.out
   gi_wp2_with (first
    |(refine wpListIn_load106 rfl _ rfl _ _ rfl h2 (ck_size _ _ _ _ _ _ _ _) ?_)
    |(refine yu rfl _ _ rfl _ _ Tryz.zeroCells106 rfl rfl h1 zc106 (ck_size _ _ _ _ _ _ _ _) (yWc _ _ _ _ _ _ _ _) ?_;intro w6 hg6 hb6))
   refine bodyPost_ret (v:=.agg (ckCells rs rl rw many A n c P)) (results_ck rfl rfl hb6 (ck_size _ _ _ _ _ _ _ _)) rfl ?_;obtain rfl:k=n:=by omega
   exact⟨P,rfl,fun two one h4 h5=>h3 two one h4 (.inl h5),hB.grown hg6 hB.size (fun j e=>by cases e;omega)⟩
end
section
open Go.RowKit
def rowZ(T:Nat→Nat→Int)(l:Nat→Nat)(i:Nat):Nat→Int→Int
 |0,s=>s
 |j+1,s=>bothZ (rowZ T l i j s) (T (l j) (l i))
def listZ(T:Nat→Nat→Int)(l:Nat→Nat):Nat→Int
 |0=>1
 |i+1=>rowZ T l i i (listZ T l i)
theorem match_any(rs rl rw many:Int)(A:Option Addr)(n c:Nat)(P:Nat→Int)(LA:Option Addr)(m lc:Nat)(l:Nat→Nat)(W:World)(hm:m≤9)(hmc:m≤lc)(hl:Hid (∀ k,k<m→l k<9))(hi:Hid (zca W LA m fun k=>(l k:Int))) :
  CallsIn Fc 0 Tryz.prog 59 #[.agg (ckCells rs rl rw many A n c P),.slice LA m lc] W (zvb (listZ (fun one two=>P (one*9+two)) l m) W):=by
 gi_enter Tryz.func59,Tryz.ntmps59;gi_wp2
 gi_loopw [5,12] (fun sv i wr=>∃ k:Nat,k≤m∧i=.int .i64 k∧sv=.int .i64 (listZ (fun one two=>P (one*9+two)) l k)∧wr=W.alloc (.cells (ckCells rs rl rw many A n c P) 106)) (fun _ i _=>m-(intOf i).toNat)
 case atStart=>exact⟨0,by omega,rfl,rfl,rfl⟩
 case round=>
  obtain⟨k,hk,rfl,rfl,rfl⟩:=hrel;by_cases hlt:k<m
  ·obtain⟨b,o,rfl,hc⟩:=hi.out k hlt;have hlb:b<W.heap.size:=World.block_lt_of_cell? W _ hc;have HC:=Lib.hid hc;have hkc:k≤lc:=by omega
   have hlk:=hl.out k hlt;gi_wp2
   gi_loopw [5,21] (fun sv i wi=>∃ j:Nat,j≤k∧i=.int .i64 j∧sv=.int .i64 (rowZ (fun one two=>P (one*9+two)) l k j (listZ (fun one two=>P (one*9+two)) l k))∧wi=W.alloc (.cells (ckCells rs rl rw many A n c P) 106)) (fun _ i _=>k-(intOf i).toNat)
   case atStart=>exact⟨0,by omega,rfl,rfl,rfl⟩
   case round=>
    obtain⟨j,hj,rfl,rfl,rfl⟩:=hrel;by_cases hlj:j<k
    ·obtain⟨b',o',e,hcj⟩:=hi.out j (by omega);cases e;have hlj':=hl.out j (by omega);have hg:(W.alloc (.cells (ckCells rs rl rw many A n c P) 106)).cell? ⟨W.heap.size,5+l j*9+l k,none⟩=some (.int .i64 (P (l j*9+l k))):=by rw[Nat.add_assoc,zVa (zNb _ _) (by omega),Nat.add_comm 5];rfl
     gi_wp2_with (gi_at_call 102;refine(yIa _ _ _).mono ?_;rintro e w' ⟨rfl,rfl⟩)
     go_roundw
     case rel=>exact⟨j+1,by omega,by go_num,rfl,trivial⟩
     case measure=>simp[intOf];omega
    ·obtain rfl:j=k:=by omega
     gi_wp2;go_roundw
     case rel=>exact⟨j+1,by omega,by go_num,rfl,trivial⟩
     case measure=>simp[intOf];omega
  ·gi_wp2;go_ret;obtain rfl:k=m:=by omega
   exact⟨rfl,(Below.refl _ _).alloc (Nat.le_refl _) _⟩
end
section
open Go.RowKit
def zoc(rs rl rw:Int)(sh:Nat→Shaft)(l:Nat→Nat)(m:Nat):Int:=listZ (fun one two=>pairZ rs rl rw (sh one) (sh two)) l m
theorem yfb{T U:Nat→Nat→Int}{l:Nat→Nat}{i:Nat}:∀(j:Nat) (s:Int),(∀ k,k<j→T (l k) (l i)=U (l k) (l i))→rowZ T l i j s=rowZ U l i j s
 |0,s,_=>rfl
 |j+1,s,h=>by simp only[rowZ];rw[yfb j s (fun k hk=>h k (by omega)),h j (by omega)]
theorem yUa{T U:Nat→Nat→Int}{l:Nat→Nat}:∀(m:Nat),(∀ j i,j<i→i<m→T (l j) (l i)=U (l j) (l i))→listZ T l m=listZ U l m
 |0,_=>rfl
 |m+1,h=>by simp only[listZ];rw[yUa m (fun j i h1 h2=>h j i h1 (by omega)),yfb m _ (fun k hk=>h k m hk (by omega))]
end
section
open Go.RowKit
def SaysGreat(n:Nat)(sh:Nat→Shaft)(W:World)(e:Ending)(w':World):Prop:=∃ b:Bool,e=.returned (.bool b)∧(b=false→n≤20∧∀ k,k<n→(sh k).name.size≤100)∧Below W.heap.size W w'
theorem Great_any(rs rl rw many:Int)(A:Option Addr)(n c:Nat)(sh:Nat→Shaft)(W:World)(hc:n≤c)(hsh:Hid (zA W A n sh)) :
  CallsIn Fc 0 Tryz.prog 13 #[zga rs rl rw many A n c] W (SaysGreat n sh W):=by
 gi_enter Tryz.func13,Tryz.ntmps13;by_cases hn:(n:Int)>20
 ·gi_wp2;go_ret;exact⟨true,rfl,fun h=>by simp at h,(Below.refl _ _).alloc (Nat.le_refl _) _⟩
 ·have hn':n≤20:=by omega
  gi_wp2
  gi_loopw [3] (fun i wr=>∃ k:Nat,k≤n∧i=.int .i64 k∧(∀ j,j<k→(sh j).name.size≤100)∧wr=W.alloc (.cells #[.int .i64 rs,.int .i64 rl,.int .i64 rw,.int .i64 many,.slice A n c] 26)) (fun i _=>n-(intOf i).toNat)
  case atStart=>exact⟨0,by omega,rfl,fun j h=>by omega,rfl⟩
  case round=>
   obtain⟨k,hk,rfl,hall,rfl⟩:=hrel;have HA:=Lib.hid hall;clear hall;by_cases hlt:k<n
   ·obtain⟨b,o,rfl,hx⟩:=hsh.out k hlt;have h0:=hx.h0;have hlb:b<W.heap.size:=World.block_lt_of_cell? W _ h0;by_cases hnm:((sh k).name.size:Int)>100
    ·gi_wp2;go_ret;exact⟨true,rfl,fun h=>by simp at h,(Below.refl _ _).alloc (Nat.le_refl _) _⟩
    ·gi_wp2;go_roundw
     case rel=>exact⟨k+1,by omega,by go_num,fun j hj=>by
      rcases Nat.lt_succ_iff_lt_or_eq.1 hj with hj|rfl
      ·exact HA.out j hj
      ·omega,trivial⟩
     case measure=>simp[intOf];omega
   ·gi_wp2;go_ret;exact⟨false,rfl,fun _=>⟨hn',fun j hj=>HA.out j (by omega)⟩,(Below.refl _ _).alloc (Nat.le_refl _) _⟩
end
section
open Go.RowKit
theorem i3:(Tryz.prog.info? 3).map (fun i=>(i.zero,i.size,i.bytes))=some (some (.int .i64 0),1,8):=by kernel_rfl
abbrev intV(k:Nat):Value:=.int .i64 (k:Int)
theorem ints_own{w:World}{base:Nat}{sl:Value}{xs:List Nat}(h:w.ownsRow base 3 1 sl xs.length (xs.map intV)):∃ LA lc,sl=.slice LA xs.length lc∧xs.length≤lc∧zca w LA xs.length (fun k=>((xs.getD k 0:Nat):Int)):=by
 rcases h.2 with⟨rfl,h0⟩|⟨g,cap,cur,rfl,_,hg,hcap,_⟩
 ·rw[h0];exact⟨none,0,rfl,Nat.le_refl _,fun k hk=>by omega⟩
 ·refine⟨_,_,rfl,hcap,fun k hk=>⟨g,0,rfl,?_⟩⟩;rw[Nat.zero_add,h.cellAt k (by omega),List.getElem?_map,List.getElem?_eq_getElem hk];simp[List.getD_eq_getElem?_getD,List.getElem?_eq_getElem hk]
end
section
open Go.RowKit
theorem wrap_small(k:Nat)(h:k≤100):IntKind.wrap .i64 ((k:Int)+1)=(k:Int)+1:=by simp[IntKind.wrap,IntKind.signed,IntKind.bits];omega
theorem wpIn_cutR{F:Fence}{n:Nat}{P:Program}{c:Code}{Q:Exit→Act→World→Prop}{M:Act→World→Prop}{a:Act}{w:World}(h1:c.wpIn F n P (fun e a w=>match e with|.normal=>M a w|_=>False) a w)(h2:∀ a' w',M a' w'→Q .normal a' w'):c.wpIn F n P Q a w:=by
 intro b k cs hro hb hr;obtain⟨e,a',w',hp,harr⟩:=h1 b k cs hro hb hr;cases e with
 |normal=>exact⟨.normal,a',w',h2 _ _ hp,harr⟩
 |_=>exact hp.elim
structure Ap where
 one:Nat
 two:Nat
 what:Nat
 sure:Int
def apV(x:Ap):List Value:=[.int .i64 x.one,.int .i64 x.two,.int .i64 x.what,.int .i64 x.sure]
def apVs(l:List Ap):List Value:=l.flatMap apV
section
variable (rs rl rw:Int)(sh:Nat→Shaft)(l:Nat→Nat)
def apCell(i k:Nat):Nat→List Ap
 |0=>[]
 |w+1=>apCell i k w++(if nearOf rs rl rw (sh (l i)) (sh (l k)) w=1 then[] else[⟨l i,l k,w,nearOf rs rl rw (sh (l i)) (sh (l k)) w⟩])
def apRow(i:Nat):Nat→List Ap
 |0=>[]
 |t+1=>apRow i t++apCell rs rl rw sh l i (i+1+t) 3
def apAll(m:Nat):Nat→List Ap
 |0=>[]
 |i+1=>apAll m i++apRow rs rl rw sh l i (m-(i+1))
end
theorem ap_snoc(L M:List Ap)(x:Ap):apVs (L++(M++[x]))=apVs (L++M)++apV x:=by simp[apVs]
theorem ap_snoc_len(L M:List Ap)(x:Ap):(L++(M++[x])).length=(L++M).length+1:=by simp;omega
theorem yw(w:World)(cs:List Value)(e:TypeId):∀(j:Nat) (u:Value),cs[j]? = some u→(w.alloc (.cells cs.toArray e)).cell? (Addr.add ⟨w.heap.size,0,none⟩ j)=some u:=by
 intro j u h;have e1:Addr.add ⟨w.heap.size,0,none⟩ j=⟨w.heap.size,j,none⟩:=by unfold Addr.add;split<;>simp_all
 rw[e1];simp[h]
section
variable (rs rl rw:Int)(sh:Nat→Shaft)(l:Nat→Nat)
theorem yta(i k:Nat):∀ x,(apCell rs rl rw sh l i k x).length≤x
 |0=>by simp[apCell]
 |x+1=>by have:=yta i k x;simp only[apCell,List.length_append];split<;>simp<;>omega
theorem ybb(i:Nat):∀ t,(apRow rs rl rw sh l i t).length≤3*t
 |0=>by simp[apRow]
 |t+1=>by have h1:=ybb i t;have h2:=yta rs rl rw sh l i (i+1+t) 3;simp only[apRow,List.length_append];omega
theorem ycb{m:Nat}(hm:m≤9):∀ i,(apAll rs rl rw sh l m i).length≤27*i
 |0=>by simp[apAll]
 |i+1=>by have h1:=ycb hm i;have h2:=ybb rs rl rw sh l i (m-(i+1));simp only[apAll,List.length_append];omega
theorem yRc{m i t x:Nat}(hm:m≤9)(hi:i≤m)(ht:t≤9)(hx:x≤3):(apAll rs rl rw sh l m i++apRow rs rl rw sh l i t++apCell rs rl rw sh l i (i+1+t) x).length≤300:=by have h1:=ycb rs rl rw sh l hm i;have h2:=ybb rs rl rw sh l i t;have h3:=yta rs rl rw sh l i (i+1+t) x;simp only[List.length_append];omega
theorem ap_len{m i t x:Nat}(hm:m≤9)(hi:i≤m)(ht:t≤9)(hx:x≤3):(apAll rs rl rw sh l m i++apRow rs rl rw sh l i t++apCell rs rl rw sh l i (i+1+t) x).length+1≤maxLen:=by have:=yRc rs rl rw sh l hm hi ht hx;simp only[maxLen];omega
end
theorem ut35:Tryz.prog.underlying 35=some (.slice 62):=by kernel_rfl
theorem it62:(Tryz.prog.info? 62).map (fun i=>(i.zero,i.size,i.bytes))=some (some (.agg #[.int .i64 0,.int .i64 0,.int .i64 0,.int .i64 0]),4,32):=by kernel_rfl
end
section
open Go.RowKit
def loopE(n m:Nat):Nat→List Nat→List (List Nat)
 |0,_=>[]
 |d+1,x=>(if x.length+1=m then[x++[n-(d+1)]] else loopE n m d (x++[n-(d+1)]))++loopE n m d x
def extE(n m d:Nat)(x:List Nat):List (List Nat):=if x.length=m then[x] else loopE n m d x
theorem loopE_next(n m d:Nat)(x:List Nat):loopE n m (d+1) x=extE n m d (x++[n-(d+1)])++loopE n m d x:=by simp[loopE,extE]
def ListAt(w:World)(base:Nat)(v:Value)(x:List Nat):Prop:=w.ownsRow base 3 1 v x.length (x.map intV)
theorem ListAt.nil(w:World)(base:Nat):ListAt w base (.slice none 0 0) []:=World.ownsRow_nil _ _ _ _
theorem ListAt.below{w w':World}{base:Nat}{v:Value}{x:List Nat}(h:ListAt w base v x)(hb:Below w.heap.size w w'):ListAt w' base v x:=zu h hb
theorem ListAt.kept{w w':World}{base:Nat}{v:Value}{x:List Nat}(h:ListAt w base v x)(hb:∀ g,v.ownBlock=some g→w'.heap[g]? = w.heap[g]?):ListAt w' base v x:=zja h hb
theorem ListAt.shape{w:World}{base:Nat}{v:Value}{x:List Nat}(h:ListAt w base v x):∃ LA lc,v=.slice LA x.length lc∧x.length≤lc∧zca w LA x.length (fun k=>((x.getD k 0:Nat):Int)):=ints_own h
theorem ListAt.lt{w:World}{base:Nat}{v:Value}{x:List Nat}(h:ListAt w base v x){g:Nat}(hg:v.ownBlock=some g):g<w.heap.size:=by
 obtain⟨_,⟨rfl,_⟩|⟨g',cap,cur,rfl,_,h1,_⟩⟩:=h
 ·cases hg
 ·cases hg;exact(Array.getElem?_eq_some_iff.1 h1).1
theorem ListAt.mono{w:World}{base base':Nat}{v:Value}{x:List Nat}(h:ListAt w base v x)(hb:base'≤base):ListAt w base' v x:=by
 obtain⟨h1,h2|⟨g,cap,cur,rfl,q1,q2⟩⟩:=h
 ·exact⟨h1,.inl h2⟩
 ·exact⟨h1,.inr ⟨g,cap,cur,rfl,Nat.le_trans hb q1,q2⟩⟩
theorem ListAt.head{w:World}{base:Nat}{g n cap:Nat}{x y:List Nat}(hn:n=x.length)(h:ListAt w base (.slice (some ⟨g,0,none⟩) (n+y.length) cap) (x++y)):ListAt w base (.slice (some ⟨g,0,none⟩) n cap) x:=by subst hn;unfold ListAt at h ⊢;rw[List.map_append,List.length_append] at h;exact yka (by simp) (by omega) h
theorem addr_add(b o j:Nat):Addr.add ⟨b,o,none⟩ j=⟨b,o+j,none⟩:=by unfold Addr.add;by_cases h:j=0<;>simp[h]
section
variable {F:Fence}{nF:Nat}{P:Program}{ops:Array Oper}{Q:Exit→Act→World→Prop}
theorem yl{j:Nat}{o:Oper}{K:Act→World→Prop}{a:Act}{w:World}(ho:ops[j]? = some o)(hg:o.guard=none)(s x:Operand)(t:TypeId)(hop:o.op=Op.call {callee:=Callee.builtin Builtin.append,args:=#[s,x],argTypes:=#[t,t]})
  (base:Nat) (e:TypeId) (i:TypeInfo) (z:Value) (size bytes:Nat) (h1:P.underlying t=some (.slice e)) (h2:P.info? e=some i) (h3:i.zero=some z) (h4:i.size=size) (h5:i.bytes=bytes) (h6:z.cells.size=size) (h7:0<size)
  (v:Value) (k:Nat) (xs:List Value) (hs:a.eval s=v) (hown:w.ownsRow base e size v k xs) (u:Value) (base2 m:Nat) (news:List Value) (hx:a.eval x=u) (hm:0<m) (hrow:w.ownsRow base2 e size u m news)
  (h1c:∀ u∈news,u.oneCell'=true) (b1:k+m≤maxLen) (b2:(k+m)*bytes≤140737488355328) (b3:base≤w.heap.size)
  (hK:∀ v' w',w'.ownsRow base e size v' (k+m) (xs++news)→w'.ownsRow base e size v k xs→w.grownBy w' v.ownBlock→Lies w w' k m v v'→K (a.put o.dst v') w'):wpOpIn F nF P ops Q j K a w:=by
 refine wpOpIn_step ho fun K' hK'=>?_
 rw[if_pos (by simp[Region.wanted,hg])];obtain⟨v',w',hrun,r1,r2,r3,r4⟩:∃ v' w',(Builtin.append_ #[t,t] o.type #[v,u]).run P w=.ok v' w'∧w'.ownsRow base e size v' (k+m) (xs++news)∧w'.ownsRow base e size v k xs∧w.grownBy w' v.ownBlock∧Lies w w' k m v v':=by
  rcases hrow.2 with⟨rfl,rfl⟩|⟨g,cap,cur,rfl,_,_,_⟩
  ·omega
  ·exact run_append_split (P:=P) w base t o.type e i z size bytes h1 h2 h3 h4 h5 h6 h7 v k xs hown ⟨g,0,none⟩ m cap news hrow.1 hm (fun j u hj=>by have hlt:j<news.length:=(List.getElem?_eq_some_iff.1 hj).1;rw[addr_add,Nat.zero_add,hrow.cellAt j (by rw[←hrow.1];exact hlt),hj]) h1c b1 b2 b3
 unfold Oper.wpIn;refine⟨?_,?_⟩
 ·simp[Oper.about,hop,resolve,Target.leads,Sem.run_pure]
 ·rw[Oper.semAt_plain F _ _ (by rw[hop];intro c hc';cases hc')];simp[execOp,hop,resolve,invoke,builtin,hs,hx,hrun,Result.andThen];exact hK' _ _ (hK v' w' r1 r2 r3 r4)
end
theorem it3:(Tryz.prog.info? 3).map (fun i=>(i.zero,i.size,i.bytes))=some (some (.int .i64 0),1,8):=by kernel_rfl
theorem ut27:Tryz.prog.underlying 27=some (.slice 3):=by kernel_rfl
def SaysCopy(x:List Nat)(W:World)(e:Ending)(w':World):Prop:=∃ u,e=.returned u∧ListAt w' W.heap.size u x∧Below W.heap.size W w'
theorem CloneI_any(v:Value)(base:Nat)(x:List Nat)(W:World)(hx:x.length≤9)(hl:Hid (ListAt W base v x)) :
    CallsIn Fc 0 Tryz.prog 141 #[v] W (SaysCopy x W):=by
  obtain⟨i0,hi0,hz0,hz1,hz2⟩:=info_parts it3;have HI0:=Lib.hid hi0;have HZ0:=Lib.hid hz0;have HZ1:=Lib.hid hz1;have HZ2:=Lib.hid hz2;clear hi0 hz0 hz1 hz2;obtain⟨hlen,⟨rfl,hx0⟩|⟨g,cap,cur,rfl,hbg,hg,hc,hm,hs,ht⟩⟩:=hl.out
  · have hxn:x=[]:=List.eq_nil_of_length_eq_zero hx0;subst hxn;have hnil:∀ w:World,(binOp .eql 27 (.slice none 0 0) (.slice none 0 0)).run Tryz.prog w=.ok (.bool true) w:=fun w=>by
      first|exact Lib.run_eql_nil_slice w 27 3 ut27|(simp[binOp,run_underlying ut27,Sem.run_bind];rfl)
    gi_enter Tryz.func141,Tryz.ntmps141;gi_wp2;go_ret;exact⟨_,rfl,ListAt.nil _ _,Below.refl _ _⟩
  · have hnil:∀ w:World,(binOp .eql 27 (.slice (some ⟨g,0,none⟩) x.length cap) (.slice none 0 0)).run Tryz.prog w=.ok (.bool false) w:=fun w=>Lib.run_eql_slice_nil w 27 3 _ x.length cap 0 0 ut27
    have HCE:=hl.out.cells (g:=g) rfl;have hcell:∀ j u,(x.map intV)[j]? = some u→(W.alloc (.cells #[] 3)).cell? ((⟨g,0,none⟩:Addr).add j)=some u:=fun j u hj=>Below.old ((Below.refl _ _).alloc (Nat.le_refl _) _) (HCE j u hj)
    have HC:=Lib.hid hcell;clear HCE hcell hg hs ht;gi_enter Tryz.func141,Tryz.ntmps141
    gi_wp2_with
      (gi_at_builtin
       refine wpListIn_append_own _ rfl _ _ 27 rfl W.heap.size 3 i0 (.int .i64 0) 1 8 ut27 HI0.out HZ0.out HZ1.out HZ2.out rfl (by decide) (.slice (some ⟨W.heap.size,0,none⟩) 0 0) 0 [] rfl ⟨rfl,.inr ⟨W.heap.size,0,#[],rfl,by omega,heap_alloc_new _ _,by omega,by simp[maxLen],by simp,by simp⟩⟩ ⟨g,0,none⟩ x.length cap (x.map intV) rfl (by simp) HC.out (by intro u hu;obtain⟨n,_,rfl⟩:=List.mem_map.1 hu;rfl) (by simp[maxLen];omega) (by omega) (by simp) ?_;intro v' w4 hown4 hg4 hnil4;have HO:=Lib.hid hown4;have HG:=Lib.hid hg4;clear hg4 hnil4 hown4)
    go_ret;refine⟨_,rfl,?_,?_⟩
    · have:=HO.out;simpa[ListAt] using this
    · exact((Below.refl _ _).alloc (Nat.le_refl _) _).grown HG.out (by simp) (fun k e=>by cases e;exact Nat.le_refl _)
end
section
section
variable {F:Fence}{P:Program}{ops:Array Oper}{Q:Exit→Act→World→Prop}
theorem wpOpIn_yield{j:Nat}{o:Oper}{K:Act→World→Prop}{a:Act}{w:World}(ho:ops[j]? = some o)(hg:o.guard=none)(t x:Operand)(ats:Array TypeId)(hop:o.op=Op.call {callee:=.value t,args:=#[x],argTypes:=ats})
  (hF:F.depth=none) (L:Nat) (ht:a.eval t=.func (.yield L) #[] #[]) (u:Value) (hx:a.eval x=u) {R:Ending→World→Prop} (hy:YieldAt F 0 P L #[u] w R)
  (hK:∀ e w',R e w'→∃ v',e=.returned v'∧K (a.put o.dst v') w'):wpOpIn F 0 P ops Q j K a w:=by
 obtain⟨fn,tmps,assign,body,hrun,hrd⟩:=hy;refine wpOpIn_step ho fun K' hK'=>?_
 rw[if_pos (by simp[Region.wanted,hg])];unfold Oper.wpIn;refine⟨?_,?_⟩
 ·simp[Oper.about,hop,resolve,Deferred.ofValue,ht,Target.leads,Sem.run_pure]
 ·rw[Oper.semAt_plain F _ _ (by rw[hop];intro c hc';cases hc')];simp only[execOp,hop,resolve,Deferred.ofValue,ht,invoke,hx,List.map_toArray,List.map_cons,List.map_nil,pure_bind,Sem.run_bind,Sem.run_pure,Result.andThen,List.append_toArray,List.nil_append,hrun,Oper.uponIn_round];refine⟨fun h=>(by rw[hF] at h;cases h),hrd.1,fun c cs hr=>?_⟩;obtain⟨e,w',hR,hs⟩:=hrd.2 c cs hr;obtain⟨v',rfl,hk⟩:=hK e w' hR;exact⟨.returned v',w',hK' _ _ hk,hs⟩
end
end
section
open Go.RowKit
inductive RoleG where
 |val (d:Nat) (v:Value)
 |any (d:Nat)
 |st
def RoleG.slot:RoleG→Option Nat
 |.val d _=>some d
 |.any d=>some d
 |.st=>none
def nvG(R:List RoleG)(i:Nat):Bool:=match R[i]? with
 |some (.any _)=>true
 |some .st=>true
 |_=>false
def outsG(V:Nat→Value):List RoleG→Nat→List (Nat×Value)
 | [],_=>[]
 |.val d v::R,i=>(d,v)::outsG V R (i+1)
 |.any d::R,i=>(d,V i)::outsG V R (i+1)
 |.st::R,i=>outsG V R (i+1)
def updB(L:Nat→Bool)(j:Nat):Nat→Bool:=fun i=>if i=j then true else L i
def updV(V:Nat→Value)(j:Nat)(v:Value):Nat→Value:=fun i=>if i=j then v else V i
section
variable {F:Fence}{n:Nat}{P:Program}{ops:Array Oper}{Q:Exit→Act→World→Prop}
def slotV(R:List RoleG)(a:Act)(i:Nat):Value:=match R[i]? with
 |some (.any d)=>a.eval (.tmp d)
 |_=>undef
theorem yU{V:Nat→Value}{x:Nat×Value}:∀{R:List RoleG} {i:Nat},x∈outsG V R i→∃ k,R[k]? = some (.val x.1 x.2)∨(R[k]? = some (.any x.1)∧x.2=V (i+k))
 | [],i,h=>by cases h
 |.val d v::R,i,h=>by
  rcases List.mem_cons.1 h with rfl|h
  ·exact⟨0,.inl rfl⟩
  ·obtain⟨k,h⟩:=yU h;exact⟨k+1,by simpa[Nat.add_assoc,Nat.add_comm 1] using h⟩
 |.any d::R,i,h=>by
  rcases List.mem_cons.1 h with rfl|h
  ·exact⟨0,.inr ⟨rfl,rfl⟩⟩
  ·obtain⟨k,h⟩:=yU h;exact⟨k+1,by simpa[Nat.add_assoc,Nat.add_comm 1] using h⟩
 |.st::R,i,h=>by obtain⟨k,h⟩:=yU (R:=R) (i:=i+1) h;exact⟨k+1,by simpa[Nat.add_assoc,Nat.add_comm 1] using h⟩
theorem yV{V:Nat→Value}:∀{R:List RoleG} {i k d:Nat},(R[k]?.bind RoleG.slot)=some d→∃ v,(d,v)∈outsG V R i
 | [],i,k,d,h=>by simp at h
 |.val e v::R,i,0,d,h=>by simp[RoleG.slot] at h;exact⟨v,by subst h;exact List.mem_cons_self ..⟩
 |.any e::R,i,0,d,h=>by simp[RoleG.slot] at h;exact⟨V i,by subst h;exact List.mem_cons_self ..⟩
 |.st::R,i,0,d,h=>by simp[RoleG.slot] at h
 |.val e v::R,i,k+1,d,h=>by obtain⟨u,hu⟩:=yV (R:=R) (i:=i+1) (k:=k) (d:=d) (by simpa using h);exact⟨u,List.mem_cons_of_mem _ hu⟩
 |.any e::R,i,k+1,d,h=>by obtain⟨u,hu⟩:=yV (R:=R) (i:=i+1) (k:=k) (d:=d) (by simpa using h);exact⟨u,List.mem_cons_of_mem _ hu⟩
 |.st::R,i,k+1,d,h=>by obtain⟨u,hu⟩:=yV (R:=R) (i:=i+1) (k:=k) (d:=d) (by simpa using h);exact⟨u,hu⟩
end
end
end Go.Proofs.YtpdmgecbapmgdaaGreat
