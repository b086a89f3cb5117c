/- A part of the proof that ArrowSets returns true for every input: no further condition. -/
import Derived.Test.YtpdmgecbapmgdaaGreatGp2
import Derived.RangeFuncRecord
import Derived.RangeFuncCalls
set_option linter.unusedSimpArgs false
set_option linter.unusedVariables false
set_option maxHeartbeats 4000000
set_option maxRecDepth 100000
namespace Go.Proofs.YtpdmgecbapmgdaaGreat
section
open Go.RowKit
section
variable {F:Fence}{n:Nat}{P:Program}{ops:Array Oper}{Q:Exit→Act→World→Prop}
structure RH(ops:Array Oper)(R:List RoleG)(I:(Nat→Bool)→(Nat→Value)→World→Prop)(z:Nat)(a0:Act)(listed:Array Bool)(a:Act)(w:World):Prop where
 defers:a.defers=[]
 size:a.tmps.size=z
 old:∀ s,(∀ ρ∈R,ρ.slot≠some s)→a.eval (.tmp s)=a0.eval (.tmp s)
 val:∀(j d:Nat) (v:Value),R[j]? = some (.val d v)→listed.getD j false=true→a.eval (.tmp d)=v
 inv:I (fun i=>listed.getD i false&&nvG R i) (slotV R a) w
 closed:∀ i,listed.getD i false=true→∀ j,depB ops i j=true→listed.getD j false=true
def ySc(ops:Array Oper)(j e:Nat):Bool:=decide (e≠j)&&(clos ops (e+1) [e]).contains j
theorem ahead_not{listed:Array Bool}{R:List RoleG}{j e:Nat}(hc:∀ i,listed.getD i false=true→∀ j,depB ops i j=true→listed.getD j false=true)(hd:∀ k,depB ops j k=true→listed.getD k false=true)(hj:listed.getD j false=false)(he:ySc ops j e=true):(listed.getD e false&&nvG R e)=false:=by
 unfold ySc at he;simp only[Bool.and_eq_true,decide_eq_true_eq,List.contains_iff_mem] at he;cases h:listed.getD e false with
 |false=>rfl
 |true=>
  exfalso;have:=yR (k:=e) hc (hc e h) (e+1) [e] (fun x hx=>by rcases List.mem_singleton.1 hx with rfl;exact .inl rfl) j he.2;rcases this with h2|h2
  ·exact he.1 h2.symm
  ·rw[hj] at h2;cases h2
abbrev StepH(F:Fence)(n:Nat)(P:Program)(ops:Array Oper)(Q:Exit→Act→World→Prop)(R:List RoleG)(I:(Nat→Bool)→(Nat→Value)→World→Prop)(z:Nat)(a0:Act)(T:Nat):Prop:=
 ∀ j L V a w,j<T→(nvG R j=true→L j=false)→(∀ k,depB ops j k=true→nvG R k=true→L k=true)→(∀ e,ySc ops j e=true→nvG R e=true→L e=false)→a.defers=[]→a.tmps.size=z→(∀ s,R.all (fun ρ=>ρ.slot != some s)=true→a.eval (.tmp s)=a0.eval (.tmp s)) →
   (∀ k d v,depB ops j k=true→R[k]? = some (.val d v)→a.eval (.tmp d)=v)→(∀ k d,R[k]? = some (.any d)→a.eval (.tmp d)=V k)→I L V w →
   wpOpIn F n P ops Q j (fun a' w'=>a'.defers=[]∧match R[j]? with
    |some (.val d v)=>a'.tmps=a.tmps.setIfInBounds d v∧I L V w'
    |some (.any d)=>∃ v,a'.tmps=a.tmps.setIfInBounds d v∧I (updB L j) (updV V j v) w'
    |_=>a'.tmps=a.tmps∧I (updB L j) V w') a w
theorem RH.start{R:List RoleG}{I:(Nat→Bool)→(Nat→Value)→World→Prop}{z:Nat}{a0:Act}{w:World}(hd:a0.defers=[])(hz:a0.tmps.size=z)(h0:I (fun _=>false) (slotV R a0) w):RH ops R I z a0 (Array.replicate ops.size false) a0 w:=by
 have hno:∀ i,(Array.replicate ops.size false).getD i false=false:=fun i=>by rw[Array.getD_eq_getD_getElem?];rcases Nat.lt_or_ge i ops.size with h|h<;>simp[h]
 refine⟨hd,hz,fun _ _=>rfl,fun j d v _ hl=>(by rw[hno j] at hl;cases hl),?_,fun i hl=>(by rw[hno i] at hl;cases hl)⟩;have e:(fun i=>(Array.replicate ops.size false).getD i false&&nvG R i)=fun _=>false:=by funext i;rw[hno i];rfl
 rw[e];exact h0
theorem RH.step{R:List RoleG}{I:(Nat→Bool)→(Nat→Value)→World→Prop}{z T:Nat}{a0 a:Act}{w:World}{listed:Array Bool}{i:Nat}(hlen:R.length=ops.size)(hnd:ylc (R.map RoleG.slot) z z z=true)(hJ:StepH F n P ops Q R I z a0 T)
  (hj:RH ops R I z a0 listed a w) (hi:i∈Region.ready .any ops listed) (hT:i<T):wpOpIn F n P ops Q i (RH ops R I z a0 (listed.setIfInBounds i true)) a w:=by
 have hK:∀{j:Nat} {ρ:RoleG},R[j]? = some ρ→(R.map RoleG.slot)[j]? = some ρ.slot:=fun h=>by rw[List.getElem?_map,h];rfl
 have hkey:∀{j d:Nat} {ρ:RoleG},R[j]? = some ρ→ρ.slot=some d→d<z∧∀ i ρ',i≠j→R[i]? = some ρ'→ρ'.slot≠some d:=fun{j d ρ} h e=>by have h':=hK h;rw[e] at h';obtain⟨_,_,q3,q4⟩:=ygb hnd h';exact⟨q3,fun i ρ' hi h' e=>q4 i hi (by rw[hK h',e])⟩
 have evs:∀(a a':Act) (d:Nat) (v:Value),a'.tmps=a.tmps.setIfInBounds d v→(∀ s,s≠d→a'.eval (.tmp s)=a.eval (.tmp s))∧(d<a.tmps.size→a'.eval (.tmp d)=v):=fun a a' d v h=>by
  constructor
  ·intro s hs;simp only[Act.eval,h];simp[Ne.symm hs]
  ·intro hd;simp only[Act.eval,h];simp[hd]
 have same:∀(a a':Act),a'.tmps=a.tmps→∀ s,a'.eval (.tmp s)=a.eval (.tmp s):=fun a a' h s=>by simp only[Act.eval,h]
 have hlist:∀{listed:Array Bool} {i:Nat},i∈Region.ready .any ops listed→i<ops.size:=fun hi=>by obtain⟨_,o,h3,_⟩:=mem_ready.1 hi;exact(Array.getElem?_eq_some_iff.1 h3).1
 have his:=hlist hi;have hnot:=yla hi;refine wpOpIn_mono (fun a' w' h=>?_) (hJ i (fun i=>listed.getD i false&&nvG R i) (slotV R a) a w hT (fun _=>by simp[hnot]) (fun k hk hnv=>by simp[dep hi hk,hnv]) (fun e he hnv=>ahead_not hj.closed (fun k hk=>dep hi hk) hnot he) hj.defers hj.size (fun s hs=>hj.old s fun ρ hρ=>by simpa using List.all_eq_true.1 hs ρ hρ) (fun k d v hk e=>hj.val k d v e (dep hi hk)) (fun k d e=>by simp[slotV,e]) hj.inv);obtain⟨h1,h2⟩:=h;obtain⟨ρ,hρ⟩:∃ ρ,R[i]? = some ρ:=⟨R[i],by simp[hlen,his]⟩;have hgd:∀ k,(listed.setIfInBounds i true).getD k false=if k=i then true else listed.getD k false:=fun k=>by
  by_cases e:k=i
  ·subst e;rw[yo hi];simp
  ·rw[gset (fun e'=>e e'.symm)];simp[e]
 have hclosed:∀ k,(listed.setIfInBounds i true).getD k false=true→∀ j,depB ops k j=true→(listed.setIfInBounds i true).getD j false=true:=fun k hk j hkj=>by
  rw[hgd j];by_cases e:j=i
  ·simp[e]
  ·rw[if_neg e];rw[hgd k] at hk;by_cases e2:k=i
   ·subst e2;exact dep hi hkj
   ·rw[if_neg e2] at hk;exact hj.closed k hk j hkj
 rw[hρ] at h2;cases ρ with
 |val d v=>
  obtain⟨h2,h3⟩:=h2;obtain⟨q1,q2⟩:=hkey hρ rfl;obtain⟨e1,e2⟩:=evs a a' d v h2;have e2:=e2 (by rw[hj.size];exact q1);refine⟨h1,by rw[h2];simpa using hj.size,fun s hs=>?_,fun k e u hk hl=>?_,?_,hclosed⟩
  ·rw[e1 s fun e=>hs _ (List.mem_iff_getElem?.2 ⟨i,hρ⟩) (by rw[e];rfl)];exact hj.old s hs
  ·by_cases ek:k=i
   ·subst ek;rw[hρ] at hk;cases hk;exact e2
   ·rw[hgd k,if_neg ek] at hl;have hne:=q2 k _ ek hk;rw[e1 e fun e'=>hne (by rw[e'];rfl)];exact hj.val k e u hk hl
  ·have eL:(fun k=>(listed.setIfInBounds i true).getD k false&&nvG R k)=fun k=>listed.getD k false&&nvG R k:=by
    funext k;rw[hgd k];by_cases ek:k=i
    ·subst ek;simp[nvG,hρ]
    ·simp[ek]
   have eV:slotV R a'=slotV R a:=by
    funext k;unfold slotV;split
    ·next d' hk=>have hne:=q2 k _ (fun e=>by subst e;rw[hρ] at hk;cases hk) hk;exact e1 d' fun e'=>hne (by rw[e'];rfl)
    ·rfl
   rw[eL,eV];exact h3
 |any d=>
  obtain⟨v,h2,h3⟩:=h2;obtain⟨q1,q2⟩:=hkey hρ rfl;obtain⟨e1,e2⟩:=evs a a' d v h2;have e2:=e2 (by rw[hj.size];exact q1);refine⟨h1,by rw[h2];simpa using hj.size,fun s hs=>?_,fun k e u hk hl=>?_,?_,hclosed⟩
  ·rw[e1 s fun e=>hs _ (List.mem_iff_getElem?.2 ⟨i,hρ⟩) (by rw[e];rfl)];exact hj.old s hs
  ·have ek:k≠i:=fun ek=>by subst ek;rw[hρ] at hk;cases hk
   rw[hgd k,if_neg ek] at hl;have hne:=q2 k _ ek hk;rw[e1 e fun e'=>hne (by rw[e'];rfl)];exact hj.val k e u hk hl
  ·have eL:(fun k=>(listed.setIfInBounds i true).getD k false&&nvG R k)=updB (fun k=>listed.getD k false&&nvG R k) i:=by
    funext k;rw[hgd k];unfold updB;by_cases ek:k=i
    ·subst ek;simp[nvG,hρ]
    ·simp[ek]
   have eV:slotV R a'=updV (slotV R a) i v:=by
    funext k;unfold updV;by_cases ek:k=i
    ·subst ek;simp only[if_true];unfold slotV;rw[hρ];exact e2
    ·rw[if_neg ek];unfold slotV;split
     ·next d' hk=>have hne:=q2 k _ ek hk;exact e1 d' fun e'=>hne (by rw[e'];rfl)
     ·rfl
   rw[eL,eV];exact h3
 |st=>
  obtain⟨h2,h3⟩:=h2;have e1:=same a a' h2;refine⟨h1,by rw[h2];exact hj.size,fun s hs=>by rw[e1];exact hj.old s hs,fun k e u hk hl=>?_,?_,hclosed⟩
  ·have ek:k≠i:=fun ek=>by subst ek;rw[hρ] at hk;cases hk
   rw[hgd k,if_neg ek] at hl;rw[e1];exact hj.val k e u hk hl
  ·have eL:(fun k=>(listed.setIfInBounds i true).getD k false&&nvG R k)=updB (fun k=>listed.getD k false&&nvG R k) i:=by
    funext k;rw[hgd k];unfold updB;by_cases ek:k=i
    ·subst ek;simp[nvG,hρ]
    ·simp[ek]
   have eV:slotV R a'=slotV R a:=by
    funext k;unfold slotV;split
    ·exact e1 _
    ·rfl
   rw[eL,eV];exact h3
theorem RH.done{R:List RoleG}{I:(Nat→Bool)→(Nat→Value)→World→Prop}{z T:Nat}{a0 a:Act}{w:World}{listed:Array Bool}(hz:a0.tmps.size=z)(hst:∀ k ρ,R[k]? = some ρ→T≤k→ρ.slot=none)
  (hj:RH ops R I z a0 listed a w) (hall:∀ i,i<T→listed.getD i false=true):∃ L V,(∀ i,i<T→nvG R i=true→L i=true)∧I L V w∧a={tmps:=(outsG V R 0).foldl (fun t x=>t.setIfInBounds x.1 x.2) a0.tmps,defers:=[]}:=by
 refine⟨_,_,fun i hi hn=>?_,hj.inv,?_⟩
 ·simp[hall i hi,hn]
 ·have e0:(outsG (slotV R a) R 0).foldl (fun(t:Array Value) (x:Nat×Value)=>t.setIfInBounds x.1 x.2) a0.tmps=a.tmps:=by
   refine yZ a _ a0.tmps (by rw[hz,hj.size]) (fun x hx=>?_) fun s hs=>(hj.old s fun ρ hρ e=>?_).symm
   ·obtain⟨k,h|⟨h,h2⟩⟩:=yU hx
    ·have hk:k<T:=by
      rcases Nat.lt_or_ge k T with h'|h'
      ·exact h'
      ·have:=hst k _ h h';cases this
     exact hj.val k _ _ h (hall k hk)
    ·rw[h2,Nat.zero_add];simp[slotV,h]
   ·obtain⟨k,hk⟩:=List.mem_iff_getElem?.1 hρ;obtain⟨v,hv⟩:=yV (V:=slotV R a) (i:=0) (k:=k) (d:=s) (by rw[hk];exact e);exact hs _ hv rfl
  rw[e0];obtain⟨t,d⟩:=a;have:=hj.defers;simp only at this;subst this;rfl
theorem zsa(R:List RoleG){I:(Nat→Bool)→(Nat→Value)→World→Prop}{z:Nat}{a0:Act}{id:Nat}{w:World}(hm:P.follows .mixedOrders=true)(hb:backB .any ops=true)(hlen:R.length=ops.size)(hnd:ylc (R.map RoleG.slot) z z z=true)(hd:a0.defers=[])(hz:a0.tmps.size=z)
  (h0:I (fun _=>false) (slotV R a0) {w with drawn:=w.drawn+1})
  (hJ:StepH F n P ops Q R I z a0 ops.size)
  (hE:∀ L V w,(∀ i,nvG R i=true→L i=true)→I L V w→Q .normal {tmps:=(outsG V R 0).foldl (fun t x=>t.setIfInBounds x.1 x.2) a0.tmps,defers:=[]} w):(Code.region id ops true).wpIn F n P Q a0 w:=by
 refine yh (J:=RH ops R I z a0) hm hb (RH.start hd hz h0) (fun listed a w i hj hi=>hj.step hlen hnd hJ hi ?_) fun listed a w hj hall=>?_
 ·obtain⟨_,o,h3,_⟩:=mem_ready.1 hi;exact(Array.getElem?_eq_some_iff.1 h3).1
 ·obtain⟨L,V,h1,h2,rfl⟩:=hj.done (T:=ops.size) hz (fun k ρ h hk=>by rw[List.getElem?_eq_none (by omega)] at h;cases h) hall;refine hE L V w (fun i hi=>h1 i ?_ hi) h2;rcases Nat.lt_or_ge i R.length with h'|h'
  ·omega
  ·unfold nvG at hi;rw[List.getElem?_eq_none h'] at hi;cases hi
end
end
section
open Go.RowKit
structure Kept(S:List Nat)(q:Option Nat)(w w':World):Prop where
 os:w'.os=w.os
 tape:w'.tape=w.tape
 output:w'.output=w.output
 size:w.heap.size≤w'.heap.size
 block:∀ k,k<w.heap.size→k∉S→q≠some k→w'.heap[k]? = w.heap[k]?
theorem Kept.refl(S:List Nat)(q:Option Nat)(w:World):Kept S q w w:=⟨rfl,rfl,rfl,Nat.le_refl _,fun _ _ _ _=>rfl⟩
theorem Kept.trans{S S':List Nat}{q q':Option Nat}{a b c:World}(h:Kept S q a b)(k:Kept S' q' b c)(hS:∀ x,x∈S'→x<a.heap.size→x∈S∨q=some x)(hq:∀ x,q'=some x→x<a.heap.size→x∈S∨q=some x):Kept S q a c:=
 ⟨k.os.trans h.os,k.tape.trans h.tape,k.output.trans h.output,Nat.le_trans h.size k.size,fun i hi h1 h2=>by
  refine(k.block i (Nat.lt_of_lt_of_le hi h.size) (fun h3=>?_) fun h3=>?_).trans (h.block i hi h1 h2)
  ·rcases hS i h3 hi with h|h
   ·exact h1 h
   ·exact h2 h
  ·rcases hq i h3 hi with h|h
   ·exact h1 h
   ·exact h2 h⟩
theorem Kept.of_below{w w':World}(S:List Nat)(q:Option Nat)(h:Below w.heap.size w w'):Kept S q w w':=⟨h.os,h.tape,h.output,h.size,fun k hk _ _=>h.block k hk⟩
theorem Kept.of_grown{w w':World}{q:Option Nat}(S:List Nat)(h:w.grownBy w' q):Kept S q w w':=⟨h.os,h.tape,h.output,h.size,fun k hk _ hq=>h.block k hk fun e=>hq e.symm⟩
theorem Kept.wideS{S:List Nat}{q:Option Nat}{w w':World}(h:Kept [] q w w'):Kept S q w w':=⟨h.os,h.tape,h.output,h.size,fun k hk _ hq=>h.block k hk (by simp) hq⟩
structure Iter(I:List Nat→List (List Nat)→World→Prop)(bm yb bc be L m n c:Nat)(A:Option Addr):Prop where
 env:∀{S D w},I S D w→w.cell? ⟨bm,0,none⟩=some (.int .i64 m)∧w.cell? ⟨yb,0,none⟩=some (.func (.yield L) #[] #[])∧w.cell? ⟨bc,4,none⟩=some (.slice A n c)∧w.cell? ⟨be,0,none⟩=some (.func (.func 140) #[] #[ptr bm,ptr yb,ptr bc,ptr be])
 lt:∀{S D w},I S D w→∀ k,k∈S→k<w.heap.size
 keep:∀{S D w w'},I S D w→w'.os=w.os→w'.tape=w.tape→w'.output=w.output→w.heap.size≤w'.heap.size→(∀ k,k∈S→w'.heap[k]? = w.heap[k]?)→I S D w'
 yield:∀{S D w u x S0 D0 w0},D.length<512→I S0 D0 w0→I S D w→ListAt w w0.heap.size u x→(∀ g,u.ownBlock=some g→g∉S)→x.length=m→x.length≤n→(∀ k,k<x.length→x.getD k 0<n)→YieldAt Fc 0 Tryz.prog L #[u] w fun e w'=>e=.returned (.bool true)∧(∃ S',I S' (D++[x]) w'∧∀ k,k∈S'→k∈S∨w.heap.size≤k∨u.ownBlock=some k)∧Kept S none w w'
structure Went(I:List Nat→List (List Nat)→World→Prop)(base:Nat)(S:List Nat)(v:Value)(x:List Nat)(D:List (List Nat))(w w':World):Prop where
 list:ListAt w' base v x
 its:∃ S',I S' D w'∧∀ k,k∈S'→k∈S∨w.heap.size≤k
 kept:Kept S v.ownBlock w w'
def yEb(I:List Nat→List (List Nat)→World→Prop)(base:Nat)(S:List Nat)(v:Value)(x:List Nat)(D:List (List Nat))(w:World)(e:Ending)(w':World):Prop:=e=.returned (.bool true)∧Went I base S v x D w w'
structure After(base:Nat)(v u:Value)(x:List Nat)(s:Nat)(w w':World):Prop where
 new:ListAt w' base u (x++[s])
 old:ListAt w' base v x
 kept:Kept [] v.ownBlock w w'
 lies:(∃ g cap,v=.slice (some ⟨g,0,none⟩) x.length cap∧u=.slice (some ⟨g,0,none⟩) (x.length+1) cap)∨∃ g,w.heap.size≤g∧u.ownBlock=some g
theorem After.went{I:List Nat→List (List Nat)→World→Prop}{bm yb bc be L m n c:Nat}{A:Option Addr}(hI:Iter I bm yb bc be L m n c A){base:Nat}{S:List Nat}{v u:Value}{x:List Nat}{s:Nat}{D':List (List Nat)}{w w1 w2:World}
  (hS:∀ k,k∈S→k<w.heap.size) (hv:∀ g,v.ownBlock=some g→g∉S) (h0:ListAt w base v x) (h:After base v u x s w w1) (h2:Went I base S u (x++[s]) D' w1 w2):Went I base S v x D' w w2:=by
 have hsz:=h.kept.size;refine⟨?_,?_,?_⟩
 ·rcases h.lies with⟨g,cap,rfl,rfl⟩|⟨g,hg,hu⟩
  ·exact ListAt.head (y:=[s]) rfl h2.list
  ·refine h.old.kept fun k hk=>h2.kept.block k (h.old.lt hk) (hv k hk) fun e=>?_
   rw[hu] at e;cases e;have:=h0.lt hk;omega
 ·obtain⟨S',q1,q2⟩:=h2.its;exact⟨S',q1,fun k hk=>(q2 k hk).imp id fun h=>by omega⟩
 ·refine h.kept.wideS.trans h2.kept (fun k hk _=>.inl hk) fun k hk hlt=>.inr ?_
  rcases h.lies with⟨g,cap,rfl,rfl⟩|⟨g,hg,hu⟩
  ·exact hk
  ·rw[hu] at hk;cases hk;omega
theorem After.asks{I:List Nat→List (List Nat)→World→Prop}{bm yb bc be L m n c:Nat}{A:Option Addr}(hI:Iter I bm yb bc be L m n c A){base:Nat}{S:List Nat}{v u:Value}{x:List Nat}{s:Nat}{D:List (List Nat)}{w w1:World}
  (hi:I S D w) (hv:∀ g,v.ownBlock=some g→g∉S) (h:After base v u x s w w1):I S D w1∧∀ g,u.ownBlock=some g→g∉S:=by
 refine⟨hI.keep hi h.kept.os h.kept.tape h.kept.output h.kept.size fun k hk=>h.kept.block k (hI.lt hi k hk) (by simp) fun e=>hv k e hk,fun g hg=>?_⟩;rcases h.lies with⟨g',cap,rfl,rfl⟩|⟨g',hg',hu⟩
 ·exact hv g hg
 ·rw[hu] at hg;cases hg;intro hm;have:=hI.lt hi _ hm;omega
theorem copy_went{I:List Nat→List (List Nat)→World→Prop}{bm yb bc be L m n c:Nat}{A:Option Addr}(hI:Iter I bm yb bc be L m n c A){base:Nat}{S:List Nat}{v u:Value}{x:List Nat}{D:List (List Nat)}{w w1 w2:World}
  (hS:∀ k,k∈S→k<w.heap.size) (hv:∀ g,v.ownBlock=some g→g∉S) (h0:ListAt w base v x) (hb:Below w.heap.size w w1) (hu:ListAt w1 w.heap.size u x) (h2:(∃ S',I S' (D++[x]) w2∧∀ k,k∈S'→k∈S∨w1.heap.size≤k∨u.ownBlock=some k)∧Kept S none w1 w2):Went I base S v x (D++[x]) w w2:=by
 have hsz:=hb.size;obtain⟨⟨S',q1,q2⟩,q3⟩:=h2;refine⟨(h0.below hb).kept fun k hk=>q3.block k ((h0.below hb).lt hk) (hv k hk) (by simp),⟨S',q1,fun k hk=>?_⟩,?_⟩
 ·rcases q2 k hk with h|h|h
  ·exact .inl h
  ·exact .inr (by omega)
  ·refine .inr ?_;obtain⟨_,⟨rfl,_⟩|⟨g,cap,cur,rfl,hg,_⟩⟩:=hu
   ·cases h
   ·cases h;exact hg
 ·exact(Kept.of_below S _ hb).trans q3 (fun k hk _=>.inl hk) fun k hk=>by cases hk
theorem yqc{n m i:Nat}{x:List Nat}(h:i<n):loopE n m (n-i) x=extE n m (n-(i+1)) (x++[i])++loopE n m (n-(i+1)) x:=by
 have e:n-i=(n-(i+1))+1:=by omega
 have e2:n-(n-(i+1)+1)=i:=by omega
 rw[e,loopE_next,e2]
theorem Went.trans{I:List Nat→List (List Nat)→World→Prop}{base:Nat}{S S1:List Nat}{v:Value}{x:List Nat}{D2:List (List Nat)}{w w1 w2:World}(hk:Kept S v.ownBlock w w1)(hS:∀ k,k∈S1→k∈S∨w.heap.size≤k)(h2:Went I base S1 v x D2 w1 w2):Went I base S v x D2 w w2:=by
 have hsz:=hk.size;obtain⟨S2,q1,q2⟩:=h2.its;refine⟨h2.list,⟨S2,q1,fun k hk'=>?_⟩,hk.trans h2.kept (fun k hk' hlt=>?_) fun k hk' _=>.inr hk'⟩
 ·rcases q2 k hk' with h|h
  ·exact hS k h
  ·exact .inr (by omega)
 ·rcases hS k hk' with h|h
  ·exact .inl h
  ·omega
theorem copy_apart{w:World}{z:Nat}{u:Value}{x S:List Nat}(hu:ListAt w z u x)(hS:∀ k,k∈S→k<z):∀ g,u.ownBlock=some g→g∉S:=fun g hg hm=>by
 obtain⟨_,⟨e,_⟩|⟨g',cap,cur,e,hge,_⟩⟩:=hu
 ·rw[e] at hg;cases hg
 ·rw[e] at hg;cases hg;exact absurd (hS _ hm) (by show¬ g'<z;omega)
theorem its_at{I:List Nat→List (List Nat)→World→Prop}{bm yb bc be L m n c:Nat}{A:Option Addr}(hI:Iter I bm yb bc be L m n c A){base:Nat}{S:List Nat}{v u:Value}{x:List Nat}{s:Nat}{D:List (List Nat)}{w w1:World}{L4 L7:Bool}{Z:Prop}
  (hi:I S D w) (hv:∀ g,v.ownBlock=some g→g∉S) (h1:L4=false→Below w.heap.size w w1∧Z) (h2:L4=true→L7=false→After base v u x s w w1) (h7:L7=false):I S D w1:=by
 cases L4 with
 |false=>have hb:=(h1 rfl).1;exact hI.keep hi hb.os hb.tape hb.output hb.size fun k hk=>hb.block k (hI.lt hi k hk)
 |true=>exact((h2 rfl h7).asks hI hi hv).1
theorem after_of{base:Nat}{v u:Value}{x:List Nat}{s:Nat}{w0 w w':World}(hb:Below w0.heap.size w0 w)(hg:∀ g,v.ownBlock=some g→g<w0.heap.size)(r1:w'.ownsRow base 3 1 u (x.length+1) (x.map intV++[.int .i64 (s:Int)]))(r2:w'.ownsRow base 3 1 v x.length (x.map intV))(r3:w.grownBy w' v.ownBlock)(r4:Lies w w' x.length 1 v u):After base v u x s w0 w':=by
 have hsz:=hb.size;refine⟨?_,r2,(Kept.of_below [] _ hb).trans (Kept.of_grown [] r3) (fun k hk=>by cases hk) fun k hk _=>.inr hk,?_⟩
 ·have h:(x++[s]).map intV=x.map intV++[.int .i64 (s:Int)]:=by simp[intV]
  unfold ListAt;rw[h,List.length_append];exact r1
 ·rcases r4 with⟨g,cap,h1,h2⟩|⟨h1,_⟩
  ·exact .inl ⟨g,cap,h1,h2⟩
  ·exact .inr ⟨_,hsz,h1⟩
theorem ext_lt{x:List Nat}{i n:Nat}(hx:∀ k,k<x.length→x.getD k 0<n)(hi:i<n):∀ k,k<(x++[i]).length→(x++[i]).getD k 0<n:=fun k hk=>by
 rw[List.length_append,List.length_singleton] at hk;by_cases h:k<x.length
 ·have:=hx k h;simpa[List.getD_eq_getElem?_getD,List.getElem?_append_left h] using this
 ·obtain rfl:k=x.length:=by omega
  simpa[List.getD_eq_getElem?_getD] using hi
theorem wrapS(k:Nat)(h:k≤100):IntKind.wrap .i64 ((k:Int)+1)=(k:Int)+1:=by simp[IntKind.wrap,IntKind.signed,IntKind.bits];omega
theorem yX(n m:Nat):∀(d:Nat) (x:List Nat),(loopE n m d x).length+1≤2 ^ d
 |0,_=>by simp[loopE]
 |d+1,x=>by
  have h1:=yX n m d x;have h2:=yX n m d (x++[n-(d+1)]);rw[loopE,List.length_append,Nat.pow_succ];split
  ·simp only[List.length_singleton];omega
  ·omega
theorem one_row{w:World}{z s:Nat}(hz:z≤w.heap.size):(w.alloc (.cells #[.int .i64 (s:Int)] 3)).ownsRow z 3 1 (.slice (some ⟨w.heap.size,0,none⟩) 1 1) 1 [.int .i64 (s:Int)]:=
 ⟨rfl,.inr ⟨w.heap.size,1,_,rfl,hz,heap_alloc_new _ _,by omega,by simp[maxLen],by simp,by simp⟩⟩
section
variable {I:List Nat→List (List Nat)→World→Prop}{bm yb bc be L m n c:Nat}{A:Option Addr}
theorem extend_step(hI:Hid (Iter I bm yb bc be L m n c A))(hn:n≤9)(next:Nat)(nx:Int)(hnx:nx=(next:Int))(hd:next≤n)(x:List Nat)(hxm:x.length≤m)(hxn:x.length≤next)(hx:Hid (∀ k,k<x.length→x.getD k 0<n))(base:Nat)(v:Value)(S:List Nat)(D:List (List Nat))(W:World)
  (hv:Hid (∀ g,v.ownBlock=some g→g∉S)) (hi:Hid (I S D W)) (hl:Hid (ListAt W base v x)) (hbase:base≤W.heap.size) (hmany:D.length+(extE n m (n-next) x).length≤512)
  (hIH:Hid (∀(next':Nat) (nx':Int) (x':List Nat) (v':Value) (S':List Nat) (D':List (List Nat)) (w:World),next<next'→nx'=(next':Int)→next'≤n→x'.length≤m→x'.length≤next'→(∀ k,k<x'.length→x'.getD k 0<n)→(∀ g,v'.ownBlock=some g→g∉S')→I S' D' w→ListAt w base v' x'→base≤w.heap.size→D'.length+(extE n m (n-next') x').length≤512 →
   CallsIn Fc 0 Tryz.prog 140 #[v',.int .i64 nx',ptr bm,ptr yb,ptr bc,ptr be] w (yEb I base S' v' x' (D'++extE n m (n-next') x') w))) :
  CallsIn Fc 0 Tryz.prog 140 #[v,.int .i64 nx,ptr bm,ptr yb,ptr bc,ptr be] W (yEb I base S v x (D++extE n m (n-next) x) W):=by
 obtain⟨i0,hi0,hz0,hz1,hz2⟩:=info_parts it3;have HI0:=Lib.hid hi0;have HZ0:=Lib.hid hz0;have HZ1:=Lib.hid hz1;have HZ2:=Lib.hid hz2;clear hi0 hz0 hz1 hz2;subst hnx;obtain⟨LA,lc,rfl,hlc,-⟩:=hl.out.shape;obtain⟨e0,e1,e2,e3⟩:=hI.out.env hi.out;have hS:=Lib.hid (hI.out.lt hi.out);have hI0:=hI;have hv0:=hv;gi_enter Tryz.func140,Tryz.ntmps140;by_cases hlen:x.length=m
 ·have hexp:extE n m (n-next) x=[x]:=by simp[extE,hlen]
  rw[hexp] at hmany ⊢;rw[List.length_singleton] at hmany;have hlI:(x.length:Int)=(m:Int):=by omega
  have HLEN:=Lib.hid hlen;clear hexp hlen;gi_wp2;refine zsa (R:=[.val 14 (.func (.yield L) #[] #[]),.val 15 (.slice LA x.length lc),.any 16,.any 17,.val 8 (.bool true)])
   (I:=fun Lb V w=>(Lb 3=false→Below W.heap.size W w∧(Lb 2=true→ListAt w W.heap.size (V 2) x))∧(Lb 3=true→V 3=.bool true∧Went I base S (.slice LA x.length lc) x (D++[x]) W w)) (z:=37) (by kernel_rfl) (by kernel_rfl) rfl (by kernel_rfl) rfl rfl ⟨fun _=>⟨(Below.refl _ _).drew,fun h=>by cases h⟩,fun h=>by cases h⟩ ?_ ?_
  ·intro j Lb V a w hj hno hdep hah hd0 hz hold hv hV hI;have HI:=Lib.hid hI;have s0:=zc hz (hold 0 (by kernel_rfl)) (by omega);have s3:=zc hz (hold 3 (by kernel_rfl)) (by omega);clear hold;have hjs:j=0∨j=1∨j=2∨j=3∨j=4:=by have:j<5:=hj;omega
   rcases hjs with rfl|rfl|rfl|rfl|rfl
   ·have h3:=hah 3 (by kernel_rfl) rfl;obtain⟨hbw,_⟩:=HI.out.1 h3;have q1:=Below.old hbw e1;clear hdep hah hv hV hno hI;refine wpOpIn_step rfl fun K hK=>?_
    go_simp;exact hK _ _ ⟨rfl,rfl,HI.out⟩
   ·clear hdep hah hv hV hno hI;refine wpOpIn_step rfl fun K hK=>?_
    go_simp;exact hK _ _ ⟨rfl,rfl,HI.out⟩
   ·have f15:=zc hz (hv 1 15 _ (by kernel_rfl) rfl) (by omega);have h3:=hah 3 (by kernel_rfl) rfl;obtain⟨hbw,_⟩:=HI.out.1 h3;clear hdep hah hv hV hno hI;refine wpOpIn_step rfl fun K hK=>?_
    go_simp;refine(CloneI_any (.slice LA x.length lc) base x w (by omega) (Lib.hid (hl.out.below hbw))).mono ?_;rintro e w1 ⟨u,rfl,hu,hb'⟩;exact hK _ _ ⟨rfl,_,rfl,fun h=>⟨hbw.trans (hb'.mono hbw.size),fun _=>hu.mono hbw.size⟩,fun h=>by rw[show updB Lb 2 3=Lb 3 from rfl,h3] at h;cases h⟩
   ·have f14:=zc hz (hv 0 14 _ (by kernel_rfl) rfl) (by omega);have k2:=hdep 2 (by kernel_rfl) rfl;have f16:=zc hz (hV 2 16 rfl) (by omega);have h3:=hno rfl;obtain⟨hbw,hu⟩:=HI.out.1 h3;have hu:=hu k2;have hcop:=copy_apart hu hS.out;refine wpOpIn_yield rfl rfl _ _ _ rfl rfl L (hv 0 14 _ (by kernel_rfl) rfl) (V 2) (hV 2 16 rfl) (hI0.out.yield (by omega) hi.out (hI0.out.keep hi.out hbw.os hbw.tape hbw.output hbw.size fun k hk=>hbw.block k (hS.out k hk)) hu hcop HLEN.out (by omega) hx.out) ?_;rintro e w1 ⟨rfl,hq⟩;exact⟨_,rfl,hd0,_,rfl,(fun h=>by cases h),fun _=>⟨rfl,copy_went hI0.out hS.out hv0.out hl.out hbw hu hq⟩⟩
   ·have k3:=hdep 3 (by kernel_rfl) rfl;have f17:=zc hz (hV 3 17 rfl) (by omega);obtain⟨e17,_⟩:=HI.out.2 k3;rw[e17] at f17;clear hdep hah hv hV hno hI;refine wpOpIn_step rfl fun K hK=>?_
    go_simp;exact hK _ _ ⟨rfl,rfl,HI.out⟩
  intro Lb V w5 hL hI;have hW:=(hI.2 (hL 3 rfl)).2;have HW:=Lib.hid hW;clear hI hL hW;simp only[outsG,List.foldl_cons,List.foldl_nil,List.setIfInBounds_toArray,List.set_cons_succ,List.set_cons_zero];gi_wp2;go_ret;exact⟨rfl,HW.out⟩
 ·have hexp:extE n m (n-next) x=loopE n m (n-next) x:=by simp[extE,hlen]
  rw[hexp] at hmany ⊢;have hlI:¬((x.length:Int)=(m:Int)):=by omega
  have hlm:x.length<m:=by omega
  clear hexp hlen;gi_wp2
  gi_loopw [8,9] (fun r8 r9 wr=>∃(i:Nat) (D1:List (List Nat)),r8=.bool false∧r9=.int .i64 i∧next≤i∧i≤n∧D1++loopE n m (n-i) x=D++loopE n m (n-next) x∧Went I base S (.slice LA x.length lc) x D1 W wr) (fun _ r9 _=>n-(intOf r9).toNat)
  case atStart=>exact⟨next,D,rfl,rfl,by omega,hd,rfl,hl.out,⟨S,hi.out,fun k hk=>.inl hk⟩,Kept.refl _ _ _⟩
  case round=>
   obtain⟨i,D1,rfl,rfl,hni,hin,hDD,hw1⟩:=hrel;obtain⟨S1,hi1,hS1⟩:=hw1.its;have HW1:=Lib.hid hw1;have HDD:=Lib.hid hDD;have HI1:=Lib.hid hi1;have HS1:=Lib.hid hS1;clear hw1 hDD hi1 hS1;obtain⟨q0,q1,q2,q3⟩:=hI.out.env HI1.out;have hlt1:=Lib.hid (hI.out.lt HI1.out);have hv1:Hid (∀ g,(Value.slice LA x.length lc).ownBlock=some g→g∉S1):=Lib.hid fun g hg hm=>by
    rcases HS1.out g hm with h|h
    ·exact hv.out g hg h
    ·have:=hl.out.lt hg;omega
   by_cases hlt:i<n
   ·have hltI:(i:Int)<(n:Int):=by omega
    have h9:i<9:=by omega
    have hiI:(0:Int)≤(i:Int):=by omega
    clear q0 q1 q3;gi_wp2;have hmy:D1.length+(extE n m (n-(i+1)) (x++[i])).length≤512:=by have h:=congrArg List.length HDD.out;rw[yqc hlt] at h;simp only[List.length_append] at h;omega
    have hbr:base≤wr.heap.size:=Nat.le_trans hbase HW1.out.kept.size;refine zsa (R:=[.val 28 (.func (.func 140) #[] #[ptr bm,ptr yb,ptr bc,ptr be]),.val 29 (.slice LA x.length lc),.val 30 (.int .i64 i),.any 31,.any 32,.val 33 (.int .i64 i),.val 34 (.int .i64 (i+1)),.any 35,.val 36 (.bool false)])
     (I:=fun Lb V w=>(Lb 4=false→Below wr.heap.size wr w∧(Lb 3=true→w.ownsRow wr.heap.size 3 1 (V 3) 1 [.int .i64 (i:Int)]))∧(Lb 4=true→Lb 7=false→After base (.slice LA x.length lc) (V 4) x i wr w)∧(Lb 7=true→V 7=.bool true∧Went I base S1 (.slice LA x.length lc) x (D1++extE n m (n-(i+1)) (x++[i])) wr w)) (z:=37) (by kernel_rfl) (by kernel_rfl) rfl (by kernel_rfl) rfl rfl ⟨fun _=>⟨(Below.refl _ _).drew,fun h=>by cases h⟩,(fun h=>by cases h),(fun h=>by cases h)⟩ ?_ ?_
    ·intro j Lb V a w hj hno hdep hah hd0 hz hold hv hV hI;have HI:=Lib.hid hI;have s0:=zc hz (hold 0 (by kernel_rfl)) (by omega);have s5:=zc hz (hold 5 (by kernel_rfl)) (by omega);have s9:=zc hz (hold 9 (by kernel_rfl)) (by omega);clear hold;have hjs:j=0∨j=1∨j=2∨j=3∨j=4∨j=5∨j=6∨j=7∨j=8:=by have:j<9:=hj;omega
     rcases hjs with rfl|rfl|rfl|rfl|rfl|rfl|rfl|rfl|rfl
     ·have hiw:=its_at hI0.out HI1.out hv1.out HI.out.1 HI.out.2.1 (hah 7 (by kernel_rfl) rfl);obtain⟨q0,q1,q2,q3⟩:=hI0.out.env hiw;clear hdep hah hv hV hno hI;refine wpOpIn_step rfl fun K hK=>?_
      go_simp;exact hK _ _ ⟨rfl,rfl,HI.out⟩
     ·clear hdep hah hv hV hno hI;refine wpOpIn_step rfl fun K hK=>?_
      go_simp;exact hK _ _ ⟨rfl,rfl,HI.out⟩
     ·clear hdep hah hv hV hno hI;refine wpOpIn_step rfl fun K hK=>?_
      go_simp;exact hK _ _ ⟨rfl,rfl,HI.out⟩
     ·have f30:=zc hz (hv 2 30 _ (by kernel_rfl) rfl) (by omega);have h7:=hah 7 (by kernel_rfl) rfl;have h4:=hah 4 (by kernel_rfl) rfl;obtain⟨hbw,_⟩:=HI.out.1 h4;clear hdep hah hv hV hno hI;refine wpOpIn_step rfl fun K hK=>?_
      go_simp;exact hK _ _ ⟨rfl,_,rfl,⟨(fun h=>⟨hbw.alloc hbw.size _,fun _=>one_row hbw.size⟩),(fun h=>by rw[show updB Lb 3 4=Lb 4 from rfl,h4] at h;cases h),(fun h=>by rw[show updB Lb 3 7=Lb 7 from rfl,h7] at h;cases h)⟩⟩
     ·have f29:=zc hz (hv 1 29 _ (by kernel_rfl) rfl) (by omega);have k3:=hdep 3 (by kernel_rfl) rfl;have f31:=zc hz (hV 3 31 rfl) (by omega);have h7:=hah 7 (by kernel_rfl) rfl;have h4:=hno rfl;obtain⟨hbw,ho⟩:=HI.out.1 h4;have ho:=ho k3;refine yl rfl rfl _ _ 27 rfl base 3 i0 (.int .i64 0) 1 8 ut27 HI0.out HZ0.out HZ1.out HZ2.out rfl (by decide) (.slice LA x.length lc) x.length (x.map intV) (hv 1 29 _ (by kernel_rfl) rfl) (HW1.out.list.below hbw) (V 3) wr.heap.size 1 [.int .i64 (i:Int)] (hV 3 31 rfl) (by omega) ho (by intro u hu;rcases List.mem_singleton.1 hu with rfl;rfl) (by simp[maxLen];omega) (by omega) (Nat.le_trans hbr hbw.size) ?_;intro v' w' r1 r2 r3 r4
      exact⟨hd0,_,rfl,⟨(fun h=>by cases h),(fun _ _=>after_of hbw (fun g hg=>HW1.out.list.lt hg) r1 r2 r3 r4),(fun h=>by rw[show updB Lb 4 7=Lb 7 from rfl,h7] at h;cases h)⟩⟩
     ·clear hdep hah hv hV hno hI;refine wpOpIn_step rfl fun K hK=>?_
      go_simp;exact hK _ _ ⟨rfl,rfl,HI.out⟩
     ·have f33:=zc hz (hv 5 33 _ (by kernel_rfl) rfl) (by omega);have hwr:=wrapS i (by omega);clear hdep hah hv hV hno hI;refine wpOpIn_step rfl fun K hK=>?_
      go_simp;exact hK _ _ ⟨rfl,rfl,HI.out⟩
     ·have f28:=zc hz (hv 0 28 _ (by kernel_rfl) rfl) (by omega);have k4:=hdep 4 (by kernel_rfl) rfl;have f32:=zc hz (hV 4 32 rfl) (by omega);have f34:=zc hz (hv 6 34 _ (by kernel_rfl) rfl) (by omega);have h7:=hno rfl;have haf:=HI.out.2.1 k4 h7;obtain⟨hiw,huw⟩:=haf.asks hI0.out HI1.out hv1.out;clear hdep hah hv hV hno hI;refine wpOpIn_step rfl fun K hK=>?_
      go_simp;refine(hIH.out (i+1) _ (x++[i]) (V 4) S1 D1 w (by omega) (by omega) (by omega) (by simp;omega) (by simp;omega) (ext_lt hx.out hlt) huw hiw haf.new (Nat.le_trans hbr haf.kept.size) hmy).mono ?_;rintro e w1 ⟨rfl,hw⟩;exact hK _ _ ⟨rfl,_,rfl,⟨(fun h=>by rw[show updB Lb 7 4=Lb 4 from rfl,k4] at h;cases h),(fun _ h=>by cases h),fun _=>⟨rfl,haf.went hI0.out hlt1.out hv1.out HW1.out.list hw⟩⟩⟩
     ·have k7:=hdep 7 (by kernel_rfl) rfl;have f35:=zc hz (hV 7 35 rfl) (by omega);obtain⟨e35,_⟩:=HI.out.2.2 k7;rw[e35] at f35;clear hdep hah hv hV hno hI;refine wpOpIn_step rfl fun K hK=>?_
      go_simp;exact hK _ _ ⟨rfl,rfl,HI.out⟩
    intro Lb V w5 hL hI;have HW:=Lib.hid (hI.2.2 (hL 7 rfl)).2;clear hI hL;simp only[outsG,List.foldl_cons,List.foldl_nil,List.setIfInBounds_toArray,List.set_cons_succ,List.set_cons_zero];gi_wp2;refine⟨⟨i+1,D1++extE n m (n-(i+1)) (x++[i]),rfl,rfl,by omega,by omega,?_,Went.trans HW1.out.kept HS1.out HW.out⟩,by simp only[intOf];omega⟩;rw[List.append_assoc,←yqc hlt];exact HDD.out
   ·have hltI:¬(i:Int)<(n:Int):=by omega
    gi_wp2;go_ret;have hDD:=HDD.out;obtain rfl:i=n:=by omega
    rw[Nat.sub_self,loopE,List.append_nil] at hDD;subst hDD;exact⟨rfl,HW1.out⟩
theorem extend_any(hI:Hid (Iter I bm yb bc be L m n c A))(hn:n≤9):∀(d next:Nat) (nx:Int) (x:List Nat) (base:Nat) (v:Value) (S:List Nat) (D:List (List Nat)) (W:World),n-next=d→nx=(next:Int)→next≤n→x.length≤m→x.length≤next→(∀ k,k<x.length→x.getD k 0<n) →
  (∀ g,v.ownBlock=some g→g∉S)→I S D W→ListAt W base v x→base≤W.heap.size→D.length+(extE n m (n-next) x).length≤512 →
  CallsIn Fc 0 Tryz.prog 140 #[v,.int .i64 nx,ptr bm,ptr yb,ptr bc,ptr be] W (yEb I base S v x (D++extE n m (n-next) x) W):=by
 intro d
 induction d using Nat.strongRecOn with
 |ind d ih=>intro next nx x base v S D W hd hnx hle hxm hxn hx hv hi hl hb hmn;exact extend_step hI hn next nx hnx hle x hxm hxn (Lib.hid hx) base v S D W (Lib.hid hv) (Lib.hid hi) (Lib.hid hl) hb hmn (Lib.hid fun next' nx' x' v' S' D' w h1 h2 h3 h4 h5 h6 h7 h8 h9 h10 h11=>ih (n-next') (by omega) next' nx' x' base v' S' D' w rfl h2 h3 h4 h5 h6 h7 h8 h9 h10 h11)
end
end
section
open Go.RowKit
theorem lists_any(rs rl rw many:Int)(A:Option Addr)(n c:Nat)(P:Nat→Int)(m:Nat)(W:World) :
  CallsIn Fc 0 Tryz.prog 112 #[.agg (ckCells rs rl rw many A n c P),.int .i64 m] W fun e w'=>e=.returned (.func (.func 139) #[] #[ptr (W.heap.size+1),ptr W.heap.size])∧w'=(W.alloc (.cells (ckCells rs rl rw many A n c P) 106)).alloc (.cells #[.int .i64 m] 3):=by
 gi_enter Tryz.func112,Tryz.ntmps112;gi_wp2;go_ret;exact⟨by simp,rfl⟩
def startW(W:World)(L bm bc:Nat):World:=(W.alloc (.cells #[.func (.yield L) #[] #[]] 186)).alloc (.cells #[.func (.func 140) #[] #[ptr bm,ptr W.heap.size,ptr bc,ptr (W.heap.size+1)]] 71)
theorem lists1_any{I:List Nat→List (List Nat)→World→Prop}{bm bc L m n c:Nat}{A:Option Addr}(W:World)(hn:n≤9)(S:List Nat)(hI:Hid (Iter I bm W.heap.size bc (W.heap.size+1) L m n c A))(hi:Hid (I S [] (startW W L bm bc))) :
  CallsIn Fc 0 Tryz.prog 139 #[.func (.yield L) #[] #[],ptr bm,ptr bc] W fun e w'=>(∃ v,e=.returned v)∧(∃ S',I S' (extE n m n []) w'∧∀ k,k∈S'→k∈S∨W.heap.size+2≤k)∧Kept S none (startW W L bm bc) w':=by
 have hmn:([]:List (List Nat)).length+(extE n m (n-0) []).length≤512:=by
  have h:=yX n m n [];have h9:2 ^ n≤2 ^ 9:=Nat.pow_le_pow_right (by omega) hn;unfold extE;split
  ·simp
  ·simp only[Nat.sub_zero,List.length_nil];omega
 have hgo:=extend_any hI hn n 0 0 [] 0 (.slice none 0 0) S [] (startW W L bm bc) (by omega) rfl (by omega) (by simp) (by simp) (fun k hk=>by simp at hk) (fun g hg=>by cases hg) hi.out (ListAt.nil _ _) (by omega) hmn;generalize hR:yEb I 0 S (.slice none 0 0) [] ([]++extE n m (n-0) []) (startW W L bm bc)=R at hgo;simp only[startW,ptr] at hgo;have HGO:=Lib.hid hgo;clear hgo;have hsz:(startW W L bm bc).heap.size=W.heap.size+2:=by simp[startW]
 gi_enter Tryz.func139,Tryz.ntmps139
 gi_wp2_with (gi_at_call 140;refine HGO.out.mono ?_;subst hR;rintro e w1 ⟨rfl,hw⟩;have HW:=Lib.hid hw;clear hw)
 go_end0;obtain⟨S',q1,q2⟩:=HW.out.its;exact⟨⟨_,rfl⟩,⟨S',by simpa using q1,fun k hk=>by rw[←hsz];exact q2 k hk⟩,HW.out.kept⟩
end
section
open Go.RowKit
def yesZ(P:Nat→Int)(x:List Nat):Int:=listZ (fun one two=>P (one*9+two)) (fun k=>x.getD k 0) x.length
def filt(P:Nat→Int)(D:List (List Nat)):List (List Nat):=D.filter fun x=>yesZ P x==1
theorem filt_yes{P:Nat→Int}{D:List (List Nat)}{x:List Nat}(h:yesZ P x=1):filt P (D++[x])=filt P D++[x]:=by simp[filt,h]
theorem filt_no{P:Nat→Int}{D:List (List Nat)}{x:List Nat}(h:yesZ P x≠1):filt P (D++[x])=filt P D:=by simp[filt,h]
def zAa(S:List Nat)(w:World)(base:Nat)(v:Value)(M:List (List Nat)):Prop:=
 ∃ vs:List Value,w.ownsRow base 27 1 v M.length vs∧(∀ g,v.ownBlock=some g→g∈S)∧∀ k,k<M.length→ListAt w base (vs.getD k undef) (M.getD k [])∧∀ g,(vs.getD k undef).ownBlock=some g→g∈S
theorem zAa.keep{S:List Nat}{w w':World}{base:Nat}{v:Value}{M:List (List Nat)}(h:zAa S w base v M)(hk:∀ k,k∈S→w'.heap[k]? = w.heap[k]?):zAa S w' base v M:=by obtain⟨vs,h1,h2,h3⟩:=h;exact⟨vs,zja h1 fun g hg=>hk g (h2 g hg),h2,fun k hlt=>⟨(h3 k hlt).1.kept fun g hg=>hk g ((h3 k hlt).2 g hg),(h3 k hlt).2⟩⟩
theorem yKb{w:World}{base base':Nat}{v u:Value}{n:Nat}{vs:List Value}{x:List Nat}(h:w.ownsRow base 27 1 v n vs)(hu:ListAt w base' u x):∀ g,u.ownBlock=some g→v.ownBlock≠some g:=by
 intro g hg e;obtain⟨_,⟨rfl,_⟩|⟨g1,c1,r1,rfl,_,q1,_⟩⟩:=h
 ·cases e
 ·cases e;obtain⟨_,⟨rfl,_⟩|⟨g2,c2,r2,rfl,_,q2,_⟩⟩:=hu
  ·cases hg
  ·cases hg;rw[q1] at q2;cases q2
theorem zAa.more{S S':List Nat}{w w':World}{base:Nat}{v v' u:Value}{M:List (List Nat)}{x:List Nat}{vs:List Value}(h:w.ownsRow base 27 1 v M.length vs∧(∀ g,v.ownBlock=some g→g∈S)∧∀ k,k<M.length→ListAt w base (vs.getD k undef) (M.getD k [])∧∀ g,(vs.getD k undef).ownBlock=some g→g∈S)
  (hS:∀ k,k∈S→k∈S') (hv:∀ g,v'.ownBlock=some g→g∈S') (hu':∀ g,u.ownBlock=some g→g∈S') (h1:w'.ownsRow base 27 1 v' (M.length+1) (vs++[u])) (hu:ListAt w' base u x)
  (hk:∀ k,k∈S→v.ownBlock≠some k→(∃ k' cs fz,k'=k∧w.heap[k]? = some (.cells cs 3 fz))→w'.heap[k]? = w.heap[k]?):zAa S' w' base v' (M++[x]):=by
 obtain⟨q1,q2,q3⟩:=h;have hlen:vs.length=M.length:=by have:=q1.1;omega
 refine⟨vs++[u],by rw[List.length_append];exact h1,hv,fun k hk'=>?_⟩;rw[List.length_append,List.length_singleton] at hk';by_cases e:k=M.length
 ·subst e;have a1:(vs++[u]).getD M.length undef=u:=by rw[←hlen];simp[List.getD_eq_getElem?_getD]
  have a2:(M++[x]).getD M.length []=x:=by simp[List.getD_eq_getElem?_getD]
  rw[a1,a2];exact⟨hu,hu'⟩
 ·have hlt:k<M.length:=by omega
  have a1:(vs++[u]).getD k undef=vs.getD k undef:=by simp[List.getD_eq_getElem?_getD,List.getElem?_append_left,hlen,hlt]
  have a2:(M++[x]).getD k []=M.getD k []:=by simp[List.getD_eq_getElem?_getD,List.getElem?_append_left,hlt]
  rw[a1,a2];obtain⟨q4,q5⟩:=q3 k hlt;refine⟨q4.kept fun g hg=>hk g (q5 g hg) (yKb q1 q4 g hg) ?_,fun g hg=>hS g (q5 g hg)⟩;obtain⟨_,⟨e,_⟩|⟨g',c',r',e,_,q6,_⟩⟩:=q4
  ·rw[e] at hg;cases hg
  ·rw[e] at hg;cases hg;exact⟨_,_,_,rfl,q6⟩
end
section
open Go.RowKit
attribute [local go_sem] Oper.semAt_some
structure SetsI(ck:Array Value)(P:Nat→Int)(z m:Nat)(R0:Loop)(S:List Nat)(D:List (List Nat))(w:World):Prop where
 dom:∀ k,k∈S→z≤k∧k<w.heap.size
 all:∀ k,z≤k→k<z+8→k∈S
 b0:w.heap[z]? = some (.cells ck 106 (0,0))
 b2:w.heap[z+2]? = some (.cells ck 106 (0,0))
 b3:w.heap[z+3]? = some (.cells #[.int .i64 m] 3 (0,0))
 b4:w.heap[z+4]? = some (.deferred (some []))
 b5:w.heap[z+5]? = some (.loop R0)
 b6:w.heap[z+6]? = some (.cells #[.func (.yield (z+5)) #[] #[]] 186 (0,0))
 b7:w.heap[z+7]? = some (.cells #[.func (.func 140) #[] #[ptr (z+3),ptr (z+6),ptr (z+2),ptr (z+7)]] 71 (0,0))
 sets:∃ vv,w.heap[z+1]? = some (.cells #[vv] 40 (0,0))∧zAa S w z vv (filt P D)
theorem SetsI.keep{ck:Array Value}{P:Nat→Int}{z m:Nat}{R0:Loop}{S:List Nat}{D:List (List Nat)}{w w':World}(h:SetsI ck P z m R0 S D w)(hs:w.heap.size≤w'.heap.size)(hk:∀ k,k∈S→w'.heap[k]? = w.heap[k]?):SetsI ck P z m R0 S D w':=by
 have e:=fun j (hj:j<8)=>hk (z+j) (h.all (z+j) (by omega) (by omega))
 obtain⟨vv,q1,q2⟩:=h.sets;exact⟨fun k hk'=>⟨(h.dom k hk').1,Nat.lt_of_lt_of_le (h.dom k hk').2 hs⟩,h.all,(e 0 (by omega)).trans h.b0,(e 2 (by omega)).trans h.b2,(e 3 (by omega)).trans h.b3,(e 4 (by omega)).trans h.b4,(e 5 (by omega)).trans h.b5,(e 6 (by omega)).trans h.b6,(e 7 (by omega)).trans h.b7,vv,(e 1 (by omega)).trans q1,q2.keep hk⟩
theorem zOb{w:World}{b:Nat}{v:Value}{t:TypeId}(h:w.heap[b]? = some (.cells #[v] t (0,0))):w.cell? ⟨b,0,none⟩=some v:=by simp[World.cell?,h]
theorem SetsI.env{rs rl rw many:Int}{A:Option Addr}{n c:Nat}{P:Nat→Int}{z m:Nat}{R0:Loop}{S:List Nat}{D:List (List Nat)}{w:World}(h:SetsI (ckCells rs rl rw many A n c P) P z m R0 S D w) :
  w.cell? ⟨z+3,0,none⟩=some (.int .i64 m)∧w.cell? ⟨z+6,0,none⟩=some (.func (.yield (z+5)) #[] #[])∧w.cell? ⟨z+2,4,none⟩=some (.slice A n c)∧w.cell? ⟨z+7,0,none⟩=some (.func (.func 140) #[] #[ptr (z+3),ptr (z+6),ptr (z+2),ptr (z+7)]):=
 ⟨zOb h.b3,zOb h.b6,zVa h.b2 (i:=4) (by decide),zOb h.b7⟩
theorem SetsI.next{ck:Array Value}{P:Nat→Int}{z m:Nat}{R0:Loop}{S S':List Nat}{D D':List (List Nat)}{w w':World}{vv vv':Value}(h:SetsI ck P z m R0 S D w)(hs:w.heap.size≤w'.heap.size)(hSS:∀ k,k∈S→k∈S')(hdom:∀ k,k∈S'→z≤k∧k<w'.heap.size)
  (hv:vv.ownBlock≠some z∧vv.ownBlock≠some (z+2)∧vv.ownBlock≠some (z+3)∧vv.ownBlock≠some (z+4)∧vv.ownBlock≠some (z+6)∧vv.ownBlock≠some (z+7))
  (hk:∀ k,k∈S→k≠z+1→k≠z+5→vv.ownBlock≠some k→w'.heap[k]? = w.heap[k]?) (h1:w'.heap[z+1]? = some (.cells #[vv'] 40 (0,0))) (h5:w'.heap[z+5]? = some (.loop R0)) (hl:zAa S' w' z vv' (filt P D')):SetsI ck P z m R0 S' D' w':=by
 obtain⟨v0,v2,v3,v4,v6,v7⟩:=hv;have e:=fun j (hj:j<8)=>hk (z+j) (h.all (z+j) (by omega) (by omega))
 exact⟨hdom,fun k a b=>hSS k (h.all k a b),(e 0 (by omega) (by omega) (by omega) v0).trans h.b0,(e 2 (by omega) (by omega) (by omega) v2).trans h.b2,(e 3 (by omega) (by omega) (by omega) v3).trans h.b3,(e 4 (by omega) (by omega) (by omega) v4).trans h.b4,h5,(e 6 (by omega) (by omega) (by omega) v6).trans h.b6,(e 7 (by omega) (by omega) (by omega) v7).trans h.b7,vv',h1,hl⟩
theorem SetsI.apart{ck:Array Value}{P:Nat→Int}{z m:Nat}{R0:Loop}{S:List Nat}{D:List (List Nat)}{w:World}{vv:Value}{k:Nat}{vs:List Value}(h:SetsI ck P z m R0 S D w)(ho:w.ownsRow z 27 1 vv k vs) :
  vv.ownBlock≠some z∧vv.ownBlock≠some (z+1)∧vv.ownBlock≠some (z+2)∧vv.ownBlock≠some (z+3)∧vv.ownBlock≠some (z+4)∧vv.ownBlock≠some (z+5)∧vv.ownBlock≠some (z+6)∧vv.ownBlock≠some (z+7):=by
 obtain⟨_,⟨rfl,_⟩|⟨g,cap,cur,rfl,_,hg,_⟩⟩:=ho
 ·exact⟨by simp[Value.ownBlock],by simp[Value.ownBlock],by simp[Value.ownBlock],by simp[Value.ownBlock],by simp[Value.ownBlock],by simp[Value.ownBlock],by simp[Value.ownBlock],by simp[Value.ownBlock]⟩
 ·obtain⟨v1,q1,_⟩:=h.sets;have key:∀ j o,w.heap[j]? = some o→(∀ cs fz,o≠.cells cs 27 fz)→(Value.slice (some ⟨g,0,none⟩) k cap).ownBlock≠some j:=fun j o hj hno e=>by cases e;rw[hg] at hj;cases hj;exact hno _ _ rfl
  exact⟨key _ _ h.b0 (fun cs fz e=>by cases e),key _ _ q1 (fun cs fz e=>by cases e),key _ _ h.b2 (fun cs fz e=>by cases e),key _ _ h.b3 (fun cs fz e=>by cases e),key _ _ h.b4 (fun cs fz e=>by cases e),key _ _ h.b5 (fun cs fz e=>by cases e),key _ _ h.b6 (fun cs fz e=>by cases e),key _ _ h.b7 (fun cs fz e=>by cases e)⟩
noncomputable def loopOf:Code→Option (Code×Code)
 |.seq a b=>match loopOf a with
  |some x=>some x
  |none=>loopOf b
 |.block _ c=>loopOf c
 |.rangeFunc _ _ a b=>some (a,b)
 |_=>none
noncomputable def A68:Code:=(((Tryz.f68.body).bind loopOf).map Prod.fst).getD .skip
noncomputable def B68:Code:=(((Tryz.f68.body).bind loopOf).map Prod.snd).getD .skip
def tmps68(rs rl rw many:Int)(A:Option Addr)(n c:Nat)(P:Nat→Int)(z m:Nat):Array Value:=
 #[.agg (ckCells rs rl rw many A n c P),ptr z,.slice none 0 0,ptr (z+1),undef,.agg (ckCells rs rl rw many A n c P),ptr z,ptr z,ptr z,.pointer (some ⟨z,3,none⟩),.int .i64 m,.func (.func 139) #[] #[ptr (z+3),ptr (z+2)],undef,undef,undef,undef,undef,undef,undef,undef,undef,undef]
noncomputable def rec68(fn:FuncId)(rs rl rw many:Int)(A:Option Addr)(n c:Nat)(P:Nat→Int)(z m:Nat):Loop:={state:=.ready,pending:=none,fn,tmps:=tmps68 rs rl rw many A n c P z m,params:=#[12],assign:=A68,body:=B68,defers:=z+4}
end
section
open Go.RowKit
theorem zfb{w:World}{base:Nat}{e:TypeId}{size n:Nat}{v:Value}{xs:List Value}(h:w.ownsRow base e size v n xs){g:Nat}(hg:v.ownBlock=some g):base≤g∧g<w.heap.size:=by
 obtain⟨_,⟨rfl,_⟩|⟨g',cap,cur,rfl,hb,h1,_⟩⟩:=h
 ·cases hg
 ·cases hg;exact⟨hb,(Array.getElem?_eq_some_iff.1 h1).1⟩
theorem zeb{w:World}{base:Nat}{e:TypeId}{size n:Nat}{v:Value}{xs:List Value}(h:w.ownsRow base e size v n xs):∃ LV kc,v=.slice LV n kc:=by
 obtain⟨_,⟨rfl,rfl⟩|⟨g',cap,cur,rfl,hb,h1,_⟩⟩:=h
 ·exact⟨none,0,rfl⟩
 ·exact⟨_,cap,rfl⟩
theorem yYb{w:World}{base:Nat}{v:Value}{n:Nat}{vs:List Value}(h:w.ownsRow base 27 1 v n vs){k:Nat}{o:Obj}(ho:w.heap[k]? = some o)(hno:∀ cs fz,o≠.cells cs 27 fz):v.ownBlock≠some k:=fun e=>by
 obtain⟨_,⟨rfl,_⟩|⟨g',cap,cur,rfl,hb,h1,_⟩⟩:=h
 ·cases e
 ·cases e;rw[h1] at ho;cases ho;exact hno _ _ rfl
section
variable {ck:Array Value}{P:Nat→Int}{z m:Nat}{R0 R1:Loop}{S:List Nat}{D:List (List Nat)}{w w1 w2 w4:World}{u:Value}{x:List Nat}{vv vv':Value}{vs:List Value}{X:Obj}
theorem sets_no(h:SetsI ck P z m R0 S D w)(hb1:∀ k,k≠z+5→w1.heap[k]? = w.heap[k]?)(hl1:w1.heap[z+5]? = some (.loop R1))(hs1:w1.heap.size=w.heap.size)(ho1:w1.os=w.os∧w1.tape=w.tape∧w1.output=w.output)(hb2:Below w1.heap.size w1 w2)(hno:yesZ P x≠1) :
  w2.heap[z+5]? = some (.loop R1)∧(∃ S',SetsI ck P z m R0 S' (D++[x]) (w2.putObj (z+5) (.loop R0))∧∀ k,k∈S'→k∈S∨w.heap.size≤k∨u.ownBlock=some k)∧Kept S none w (w2.putObj (z+5) (.loop R0)):=by
 have hlt5:z+5<w1.heap.size:=(Array.getElem?_eq_some_iff.1 hl1).1;have hl2:w2.heap[z+5]? = some (.loop R1):=(hb2.block _ hlt5).trans hl1;have hsz:=hb2.size;have hch:∀ k,k<w.heap.size→k≠z+5→(w2.putObj (z+5) (.loop R0)).heap[k]? = w.heap[k]?:=fun k hk hk5=>(World.putObj_heap_other hk5).trans ((hb2.block k (by omega)).trans (hb1 k hk5))
 have h55:(w2.putObj (z+5) (.loop R0)).heap[z+5]? = some (.loop R0):=World.putObj_heap_same (by omega);refine⟨hl2,⟨S,?_,fun k hk=>.inl hk⟩,⟨hb2.os.trans ho1.1,hb2.tape.trans ho1.2.1,hb2.output.trans ho1.2.2,by simp;omega,fun k hk hkS _=>hch k hk fun e=>hkS (by rw[e];exact h.all _ (by omega) (by omega))⟩⟩;have hk:SetsI ck P z m R0 S D (w2.putObj (z+5) (.loop R0)):=h.keep (by simp;omega) fun k hk=>by
  by_cases e:k=z+5
  ·subst e;rw[h55,h.b5]
  ·exact hch k (h.dom k hk).2 e
 exact⟨hk.dom,hk.all,hk.b0,hk.b2,hk.b3,hk.b4,hk.b5,hk.b6,hk.b7,by rw[filt_no hno];exact hk.sets⟩
theorem sets_yes(h:SetsI ck P z m R0 S D w)(hb1:∀ k,k≠z+5→w1.heap[k]? = w.heap[k]?)(hl1:w1.heap[z+5]? = some (.loop R1))(hs1:w1.heap.size=w.heap.size)(ho1:w1.os=w.os∧w1.tape=w.tape∧w1.output=w.output)(hb2:Below w1.heap.size w1 w2)
  (hg4:(w2.alloc X).grownBy w4 vv.ownBlock) (hown4:w4.ownsRow z 27 1 vv' ((filt P D).length+1) (vs++[u])) (hat4:vv'.ownBlock=vv.ownBlock∨vv'.ownBlock=some (w2.alloc X).heap.size) (hv1:w.heap[z+1]? = some (.cells #[vv] 40 (0,0)))
  (hls:w.ownsRow z 27 1 vv (filt P D).length vs∧(∀ g,vv.ownBlock=some g→g∈S)∧∀ k,k<(filt P D).length→ListAt w z (vs.getD k undef) ((filt P D).getD k [])∧∀ g,(vs.getD k undef).ownBlock=some g→g∈S) (hu:ListAt w z u x) (hap:∀ g,u.ownBlock=some g→g∉S) (hyes:yesZ P x=1) :
  (w4.setCell ⟨z+1,0,none⟩ vv').heap[z+5]? = some (.loop R1)∧(∃ S',SetsI ck P z m R0 S' (D++[x]) ((w4.setCell ⟨z+1,0,none⟩ vv').putObj (z+5) (.loop R0))∧∀ k,k∈S'→k∈S∨w.heap.size≤k∨u.ownBlock=some k)∧Kept S none w ((w4.setCell ⟨z+1,0,none⟩ vv').putObj (z+5) (.loop R0)):=by
 obtain⟨q1,q2,q3⟩:=hls;obtain⟨p0,p1,p2,p3,p4,p5,p6,p7⟩:=h.apart q1;have hlt5:z+5<w1.heap.size:=(Array.getElem?_eq_some_iff.1 hl1).1;have hsz:=hb2.size;have hsz4:=hg4.size;have hsa:(w2.alloc X).heap.size=w2.heap.size+1:=by simp
 have h4:∀ k,k<w1.heap.size→vv.ownBlock≠some k→w4.heap[k]? = w1.heap[k]?:=fun k hk hne=>(hg4.block k (by omega) (fun e=>hne e.symm)).trans ((Below.heap_alloc _ _ _ (by omega)).trans (hb2.block k hk))
 have e41:w4.heap[z+1]? = some (.cells #[vv] 40 (0,0)):=(h4 _ (by omega) p1).trans ((hb1 _ (by omega)).trans hv1);have e45:w4.heap[z+5]? = some (.loop R1):=(h4 _ hlt5 p5).trans hl1;have hS5:(w4.setCell ⟨z+1,0,none⟩ vv').heap.size=w4.heap.size:=by simp[World.setCell]
 have e55:(w4.setCell ⟨z+1,0,none⟩ vv').heap[z+5]? = some (.loop R1):=(Below.heap_setCell _ _ _ _ (by show z+5≠z+1;omega)).trans e45;have e51:(w4.setCell ⟨z+1,0,none⟩ vv').heap[z+1]? = some (.cells #[vv'] 40 (0,0)):=by simp only[World.setCell,Array.getElem?_modify];rw[if_pos trivial,e41];rfl
 have hfs:((w4.setCell ⟨z+1,0,none⟩ vv').putObj (z+5) (.loop R0)).heap.size=w4.heap.size:=by rw[World.putObj_size,hS5]
 have f5:((w4.setCell ⟨z+1,0,none⟩ vv').putObj (z+5) (.loop R0)).heap[z+5]? = some (.loop R0):=World.putObj_heap_same (by rw[hS5];omega);have f1:((w4.setCell ⟨z+1,0,none⟩ vv').putObj (z+5) (.loop R0)).heap[z+1]? = some (.cells #[vv'] 40 (0,0)):=(World.putObj_heap_other (by omega)).trans e51;have hfin:∀ k,k≠z+1→k≠z+5→((w4.setCell ⟨z+1,0,none⟩ vv').putObj (z+5) (.loop R0)).heap[k]? = w4.heap[k]?:=fun k h1 h5=>(World.putObj_heap_other h5).trans (Below.heap_setCell _ _ _ _ h1)
 have hch:∀ k,k<w.heap.size→k≠z+1→k≠z+5→vv.ownBlock≠some k→((w4.setCell ⟨z+1,0,none⟩ vv').putObj (z+5) (.loop R0)).heap[k]? = w.heap[k]?:=fun k hk h1 h5 hne=>(hfin k h1 h5).trans ((h4 k (by omega) hne).trans (hb1 k h5))
 generalize hW:(w4.setCell ⟨z+1,0,none⟩ vv').putObj (z+5) (.loop R0)=wf at *;have hos:wf.os=w.os∧wf.tape=w.tape∧wf.output=w.output:=by rw[←hW];exact⟨(hg4.os.trans hb2.os).trans ho1.1,(hg4.tape.trans hb2.tape).trans ho1.2.1,(hg4.output.trans hb2.output).trans ho1.2.2⟩
 have n1:=yYb hown4 e41 (fun cs fz e=>by cases e);have n5:=yYb hown4 e45 (fun cs fz e=>by cases e);have hownf:wf.ownsRow z 27 1 vv' ((filt P D).length+1) (vs++[u]):=zja hown4 fun g hg=>hfin g (fun e=>n1 (by rw[hg,e])) (fun e=>n5 (by rw[hg,e]))
 have huf:ListAt wf z u x:=hu.kept fun g hg=>hch g (hu.lt hg) (fun e=>hap g hg (by rw[e];exact h.all _ (by omega) (by omega))) (fun e=>hap g hg (by rw[e];exact h.all _ (by omega) (by omega))) fun e=>hap g hg (q2 g e)
 have hmem:∀ k,k∈(vv'.ownBlock.toList++(u.ownBlock.toList++S))↔vv'.ownBlock=some k∨u.ownBlock=some k∨k∈S:=fun k=>by simp[Option.mem_toList]
 refine⟨e55,⟨vv'.ownBlock.toList++(u.ownBlock.toList++S),?_,fun k hk=>?_⟩,⟨hos.1,hos.2.1,hos.2.2,by omega,fun k hk hkS _=>hch k hk (fun e=>hkS (by rw[e];exact h.all _ (by omega) (by omega))) (fun e=>hkS (by rw[e];exact h.all _ (by omega) (by omega))) fun e=>hkS (q2 k e)⟩⟩
 ·refine h.next (vv:=vv) (vv':=vv') (by omega) (fun k hk=>(hmem k).2 (.inr (.inr hk))) (fun k hk=>?_) ⟨p0,p2,p3,p4,p6,p7⟩ (fun k hk h1 h5 hne=>hch k (h.dom k hk).2 h1 h5 hne) f1 f5 ?_
  ·rcases(hmem k).1 hk with e|e|e
   ·have:=zfb hown4 e;omega
   ·have:=zfb hu e;omega
   ·have:=h.dom k e;omega
  ·rw[filt_yes hyes];refine zAa.more ⟨q1,q2,q3⟩ (fun k hk=>(hmem k).2 (.inr (.inr hk))) (fun g hg=>(hmem g).2 (.inl hg)) (fun g hg=>(hmem g).2 (.inr (.inl hg))) hownf huf fun k hk hne ⟨k',cs,fz,e,hc⟩=>?_
   subst e;refine hch k' (h.dom k' hk).2 (fun e=>?_) (fun e=>?_) hne
   ·rw[e,hv1] at hc;cases hc
   ·rw[e,h.b5] at hc;cases hc
 ·rcases(hmem k).1 hk with e|e|e
  ·rcases hat4 with h'|h'
   ·exact .inl (q2 k (by rw[←h'];exact e))
   ·rw[h'] at e;cases e;exact .inr (.inl (by omega))
  ·exact .inr (.inr e)
  ·exact .inl e
end
end
section
open Go.RowKit
attribute [local go_sem] Oper.semAt_some
theorem it27:(Tryz.prog.info? 27).map (fun i=>(i.zero,i.size,i.bytes))=some (some (.slice none 0 0),1,24):=by kernel_rfl
theorem ut40:Tryz.prog.underlying 40=some (.slice 27):=by kernel_rfl
theorem zW{F:Fence}{ops:Array Oper}{rest:List Oper}{o:Oper}{a:Act}{w:World}{Q:Exit→Act→World→Prop}(hg:o.guard=none)(p:Operand)(hop:o.op=.load 106 p)(g:Nat)(cells:Array Value)(hp:a.eval p=.pointer (some ⟨g,0,none⟩))(hb:w.heap[g]? = some (.cells cells 106 (0,0)))(hs:cells.size=86)
  (h:wpListIn F 0 Tryz.prog ops Q rest (a.put o.dst (.agg cells)) w):wpListIn F 0 Tryz.prog ops Q (o::rest) a w:=by
 refine wpListIn_plain hg fun K hK'=>?_
 have e:(Instr.loadAt 106 (a.eval p)).run Tryz.prog w=.ok (.agg cells) w:=by rw[hp];exact yac w g cells hb hs
 unfold Oper.wpIn;refine⟨?_,?_⟩
 ·simp[Oper.about,hop]
 ·rw[Oper.semAt_plain F _ _ (by rw[hop];intro c hc';cases hc')];simp only[execOp,hop];show o.uponIn F 0 Tryz.prog a K Q ((do pure (.value (←Instr.loadAt 106 (a.eval p))):Sem Next).run Tryz.prog w);rw[Sem.run_bind,e];exact hK' _ _ h
theorem sets_round(rs rl rw many:Int)(A:Option Addr)(n c:Nat)(P:Nat→Int)(z m:Nat)(fn:FuncId)(hfn:Fc.fn fn)(hn:n≤9){S S0:List Nat}{D D0:List (List Nat)}{w w0:World}{u:Value}{x:List Nat}(hD:D.length<512)
  (h0:SetsI (ckCells rs rl rw many A n c P) P z m (rec68 fn rs rl rw many A n c P z m) S0 D0 w0) (hI:SetsI (ckCells rs rl rw many A n c P) P z m (rec68 fn rs rl rw many A n c P z m) S D w) (hu:ListAt w w0.heap.size u x) (hap:∀ g,u.ownBlock=some g→g∉S) (hx9:x.length≤9) (hxn:∀ k,k<x.length→x.getD k 0<n) :
  YieldAt Fc 0 Tryz.prog (z+5) #[u] w fun e w'=>e=.returned (.bool true)∧(∃ S',SetsI (ckCells rs rl rw many A n c P) P z m (rec68 fn rs rl rw many A n c P z m) S' (D++[x]) w'∧∀ k,k∈S'→k∈S∨w.heap.size≤k∨u.ownBlock=some k)∧Kept S none w w':=by
 have hz0:z+8≤w0.heap.size:=by have:=(h0.dom (z+7) (h0.all _ (by omega) (by omega))).2;omega
 obtain⟨LA,lc,rfl,hlc,hints⟩:=hu.shape;refine⟨fn,_,A68,B68,run_yield (P:=Tryz.prog) (args:=#[.slice LA x.length lc]) hI.b5 rfl,roundIn_of_wpIn hfn ?_⟩;have ht:(((rec68 fn rs rl rw many A n c P z m).params.zip #[Value.slice LA x.length lc]).foldl (fun tmps (t,a)=>tmps.setIfInBounds t a) (rec68 fn rs rl rw many A n c P z m).tmps)=#[.agg (ckCells rs rl rw many A n c P),ptr z,.slice none 0 0,ptr (z+1),undef,.agg (ckCells rs rl rw many A n c P),ptr z,ptr z,ptr z,.pointer (some ⟨z,3,none⟩),.int .i64 m,.func (.func 139) #[] #[ptr (z+3),ptr (z+2)],.slice LA x.length lc,undef,undef,undef,undef,undef,undef,undef,undef,undef]:=by simp[rec68,tmps68]
 rw[ht];clear ht;refine wpIn_cutR (M:=fun a' w'=>a'={tmps:=#[.agg (ckCells rs rl rw many A n c P),ptr z,.slice none 0 0,ptr (z+1),.slice LA x.length lc,.agg (ckCells rs rl rw many A n c P),ptr z,ptr z,ptr z,.pointer (some ⟨z,3,none⟩),.int .i64 m,.func (.func 139) #[] #[ptr (z+3),ptr (z+2)],.slice LA x.length lc,undef,undef,undef,undef,undef,undef,undef,undef,undef],defers:=[]}∧w'=w) ?_ ?_
 ·simp only[A68,Tryz.f68,loopOf,Option.bind_some,Option.map_some,Option.getD_some];gi_wp2
 ·rintro a' w' ⟨rfl,rfl⟩;refine⟨_,run_beginRound hI.b5 rfl,?_⟩;obtain⟨i0,hi0,hz0',hz1,hz2⟩:=info_parts it27;have HI0:=Lib.hid hi0;have HZ0:=Lib.hid hz0';have HZ1:=Lib.hid hz1;have HZ2:=Lib.hid hz2;clear hi0 hz0' hz1 hz2;obtain⟨vv,hs1,hls⟩:=hI.sets;have hls0:=hls;obtain⟨vs,hown,hvS,hel⟩:=hls;have hfl:(filt P D).length<512:=Nat.lt_of_le_of_lt (List.length_filter_le _ _) hD;obtain⟨p0,p1,p2,p3,p4,p5,p6,p7⟩:=hI.apart hown;obtain⟨R1,hR1⟩:∃ R1:Loop,{rec68 fn rs rl rw many A n c P z m with state:=.busy}=R1:=⟨_,rfl⟩;rw[hR1];have hlt5:z+5<w'.heap.size:=(Array.getElem?_eq_some_iff.1 hI.b5).1;obtain⟨w1,hw1⟩:∃ w1,w1=w'.putObj (z+5) (.loop R1):=⟨_,rfl⟩;have hb1:∀ k,k≠z+5→w1.heap[k]? = w'.heap[k]?:=fun k hk=>by rw[hw1];exact World.putObj_heap_other hk
  have hl1:w1.heap[z+5]? = some (.loop R1):=by rw[hw1];exact World.putObj_heap_same hlt5
  have hs1':w1.heap.size=w'.heap.size:=by rw[hw1];simp
  have ho1:w1.os=w'.os∧w1.tape=w'.tape∧w1.output=w'.output:=by rw[hw1];exact⟨rfl,rfl,rfl⟩
  rw[←hw1];clear hw1;have k0:w1.heap[z]? = some (.cells (ckCells rs rl rw many A n c P) 106 (0,0)):=(hb1 z (by omega)).trans hI.b0;have k1:w1.heap[z+1]? = some (.cells #[vv] 40 (0,0)):=(hb1 (z+1) (by omega)).trans hs1;have hints1:zca w1 LA x.length fun k=>((x.getD k 0:Nat):Int):=by
   have h:=hu.kept (w':=w1) fun g hg=>hb1 g fun e=>hap g hg (by rw[e];exact hI.all _ (by omega) (by omega))
   obtain⟨LA',lc',e,_,q⟩:=h.shape;cases e;exact q
  have hma:=match_any rs rl rw many A n c P LA x.length lc (fun k=>x.getD k 0) w1 hx9 hlc (Lib.hid fun k hk=>by have:=hxn k hk;omega) (Lib.hid hints1);obtain⟨Y,hY⟩:∃ Y,yesZ P x=Y:=⟨_,rfl⟩;change CallsIn Fc 0 Tryz.prog 59 _ w1 (zvb (yesZ P x) w1) at hma;rw[hY] at hma;have HMA:=Lib.hid hma;clear hma hints1 hints;have HY:=Lib.hid hY;clear hY;simp only[B68,Tryz.f68,loopOf,Option.bind_some,Option.map_some,Option.getD_some];have hown1:w1.ownsRow z 27 1 vv (filt P D).length vs:=zja hown fun g hg=>hb1 g fun e=>p5 (by rw[hg,e])
  have HOWN:Hid (∀(w2:World) (X:Obj),Below w1.heap.size w1 w2→(w2.alloc X).ownsRow z 27 1 vv (filt P D).length vs):=Lib.hid fun w2 X hb=>zu hown1 (hb.alloc hb.size X)
  have HK1:Hid (∀(w2:World) (X:Obj),Below w1.heap.size w1 w2→z+1<(w2.alloc X).heap.size∧(w2.alloc X).heap[z+1]? = some (.cells #[vv] 40 (0,0))):=Lib.hid fun w2 X hb=>by have e:=((hb.alloc hb.size X).block (z+1) (Array.getElem?_eq_some_iff.1 k1).1).trans k1;exact⟨(Array.getElem?_eq_some_iff.1 e).1,e⟩
  have HZZ:Hid (∀(w2:World) (X:Obj),Below w1.heap.size w1 w2→z≤(w2.alloc X).heap.size):=Lib.hid fun w2 X hb=>by have h1:=hb.size;have h2:=hlt5;simp;omega
  by_cases hy:Y=1
  ·subst hy
   gi_wp2_with (first
    |(refine zW rfl _ rfl _ _ rfl k0 (ck_size _ _ _ _ _ _ _ _) ?_)
    |(gi_at_call 59;refine(CallsIn.inRound (z+5) HMA.out).mono ?_;rintro e w2 ⟨rfl,hb2⟩;have c1:=Below.old hb2 (zOb k1);have HB2:=Lib.hid hb2;clear hb2)
    |(gi_at_builtin;refine wpListIn_append_own_at _ rfl _ _ 40 rfl z 27 i0 (.slice none 0 0) 1 24 ut40 HI0.out HZ0.out HZ1.out HZ2.out rfl (by decide) vv (filt P D).length vs rfl (HOWN.out _ _ HB2.out) ⟨w2.heap.size,0,none⟩ 1 1 [.slice LA x.length lc] rfl rfl (cell_one_new _ _ _) (by intro u hu;rcases List.mem_singleton.1 hu with rfl;rfl) (by simp[maxLen];omega) (by omega) (HZZ.out _ _ HB2.out) ?_;intro vv' w4 hown4 hg4 hnil4 hat4;obtain⟨LV,kc,rfl⟩:=zeb hown4;have hk4:=(hg4.block (z+1) (HK1.out _ _ HB2.out).1 (fun e=>p1 e.symm)).trans (HK1.out _ _ HB2.out).2;have c4:=zOb hk4;have f4:w4.frozen? ⟨z+1,0,none⟩=false:=(by simp[World.frozen?,hk4]);have HO4:=Lib.hid hown4;have HG4:=Lib.hid hg4;have HA4:=Lib.hid hat4;clear hown4 hg4 hnil4 hat4 hk4))
   obtain⟨r1,r2,r3⟩:=sets_yes (x:=x) hI hb1 hl1 hs1' ho1 HB2.out HG4.out HO4.out HA4.out hs1 ⟨hown,hvS,hel⟩ (hu.mono (by omega)) hap HY.out;refine⟨_,_,run_endRound none r1,?_⟩;have hR0:{R1 with state:=if(none:Option Code).isNone then .ready else .done,pending:=none}=rec68 fn rs rl rw many A n c P z m:=by rw[←hR1];rfl
   rw[hR0];exact⟨rfl,r2,r3⟩
  ·have hy':¬ Y=1:=hy
   gi_wp2_with (first
    |(refine zW rfl _ rfl _ _ rfl k0 (ck_size _ _ _ _ _ _ _ _) ?_)
    |(gi_at_call 59;refine(CallsIn.inRound (z+5) HMA.out).mono ?_;rintro e w2 ⟨rfl,hb2⟩;have HB2:=Lib.hid hb2;clear hb2))
   obtain⟨r1,r2,r3⟩:=sets_no (x:=x) (u:=.slice LA x.length lc) hI hb1 hl1 hs1' ho1 HB2.out (by rw[HY.out];exact hy');refine⟨_,_,run_endRound none r1,?_⟩;have hR0:{R1 with state:=if(none:Option Code).isNone then .ready else .done,pending:=none}=rec68 fn rs rl rw many A n c P z m:=by rw[←hR1];rfl
   rw[hR0];exact⟨rfl,r2,r3⟩
end
section
open Go.RowKit
theorem sets_iter(rs rl rw many:Int)(A:Option Addr)(n c:Nat)(P:Nat→Int)(z m:Nat)(fn:FuncId)(hfn:Fc.fn fn)(hn:n≤9):Iter (SetsI (ckCells rs rl rw many A n c P) P z m (rec68 fn rs rl rw many A n c P z m)) (z+3) (z+6) (z+2) (z+7) (z+5) m n c A where
 env:=fun h=>h.env
 lt:=fun h k hk=>(h.dom k hk).2
 keep:=fun h _ _ _ hs hk=>h.keep hs hk
 yield:=fun hD h0 hI hu hap hm hxn hx=>sets_round rs rl rw many A n c P z m fn hfn hn hD h0 hI hu hap (by omega) hx
noncomputable def loopW(ck:Array Value)(m:Nat)(R0:Loop)(W:World):World:=
 (((((W.alloc (.cells ck 106)).alloc (.cells #[.slice none 0 0] 40)).alloc (.cells ck 106)).alloc (.cells #[.int .i64 m] 3)).alloc (.deferred (some []))).alloc (.loop R0)
theorem zp{w:World}{o:Obj}{k:Nat}{x:Obj}(h:w.heap[k]? = some x):(w.alloc o).heap[k]? = some x:=(Below.heap_alloc _ _ _ (Array.getElem?_eq_some_iff.1 h).1).trans h
theorem zG{w:World}{o:Obj}{k:Nat}(h:k=w.heap.size):(w.alloc o).heap[k]? = some o:=by subst h;exact heap_alloc_new _ _
theorem sets_start(ck:Array Value)(P:Nat→Int)(m:Nat)(R0:Loop)(W:World):SetsI ck P W.heap.size m R0 [W.heap.size,W.heap.size+1,W.heap.size+2,W.heap.size+3,W.heap.size+4,W.heap.size+5,W.heap.size+6,W.heap.size+7] [] (startW (loopW ck m R0 W) (W.heap.size+5) (W.heap.size+3) (W.heap.size+2)):=by
 have hs:(loopW ck m R0 W).heap.size=W.heap.size+6:=by simp[loopW]
 have hs2:(startW (loopW ck m R0 W) (W.heap.size+5) (W.heap.size+3) (W.heap.size+2)).heap.size=W.heap.size+8:=by simp[startW,hs]
 have l0:(loopW ck m R0 W).heap[W.heap.size]? = some (.cells ck 106 (0,0)):=zp (zp (zp (zp (zp (zG rfl)))));have l1:(loopW ck m R0 W).heap[W.heap.size+1]? = some (.cells #[.slice none 0 0] 40 (0,0)):=zp (zp (zp (zp (zG (by simp)))));have l2:(loopW ck m R0 W).heap[W.heap.size+2]? = some (.cells ck 106 (0,0)):=zp (zp (zp (zG (by simp))));have l3:(loopW ck m R0 W).heap[W.heap.size+3]? = some (.cells #[.int .i64 m] 3 (0,0)):=zp (zp (zG (by simp)));have l4:(loopW ck m R0 W).heap[W.heap.size+4]? = some (.deferred (some [])):=zp (zG (by simp));have l5:(loopW ck m R0 W).heap[W.heap.size+5]? = some (.loop R0):=zG (by simp)
 have hst:startW (loopW ck m R0 W) (W.heap.size+5) (W.heap.size+3) (W.heap.size+2)=((loopW ck m R0 W).alloc (.cells #[.func (.yield (W.heap.size+5)) #[] #[]] 186)).alloc (.cells #[.func (.func 140) #[] #[ptr (W.heap.size+3),ptr (W.heap.size+6),ptr (W.heap.size+2),ptr (W.heap.size+7)]] 71):=by simp[startW,hs]
 refine⟨fun k hk=>?_,fun k h1 h2=>?_,?_,?_,?_,?_,?_,?_,?_,.slice none 0 0,?_,[],World.ownsRow_nil _ _ _ _,fun g hg=>(by cases hg),fun k hk=>(by simp[filt] at hk)⟩
 ·rw[hs2];simp only[List.mem_cons,List.not_mem_nil,or_false] at hk;omega
 ·simp only[List.mem_cons,List.not_mem_nil,or_false];omega
 all_goals rw[hst]
 ·exact zp (zp l0)
 ·exact zp (zp l2)
 ·exact zp (zp l3)
 ·exact zp (zp l4)
 ·exact zp (zp l5)
 ·exact zp (zG hs.symm)
 ·exact zG (by simp[hs])
 ·exact zp (zp l1)
def yCb(M:List (List Nat))(W:World)(e:Ending)(w':World):Prop:=∃ v S,e=.returned v∧zAa S w' W.heap.size v M∧Below W.heap.size W w'
end
section
open Go.RowKit
theorem call_enter{f:FuncId}{fn:Func}{c:Code}(hf:Tryz.prog.funcs[f]? = some fn)(hname:(fn.name == "runtime.NumGoroutine")=false)(hb:fn.body=some c)(args:Array Value)(w:World):(callFunc f args).run Tryz.prog w=.ok (.enter f args) w:=by
 have h1:fn.name≠ "runtime.NumGoroutine":=by simpa using hname
 simp[callFunc,hf,h1,hb]
theorem zAa.keepC{S:List Nat}{w w':World}{base:Nat}{v:Value}{M:List (List Nat)}(h:zAa S w base v M)(hk:∀ k:Nat,(∃(cs:Array Value) (t:TypeId) (fz:Nat×Nat),w.heap[k]? = some (Obj.cells cs t fz))→w'.heap[k]? = w.heap[k]?):zAa S w' base v M:=by
 obtain⟨vs,h1,h2,h3⟩:=h;refine⟨vs,zja h1 fun g hg=>hk g ?_,h2,fun k hlt=>⟨(h3 k hlt).1.kept fun g hg=>hk g ?_,(h3 k hlt).2⟩⟩
 ·obtain⟨_,⟨rfl,_⟩|⟨g',cap,cur,rfl,hb,q,_⟩⟩:=h1
  ·cases hg
  ·cases hg;exact⟨_,_,_,q⟩
 ·obtain⟨_,⟨e,_⟩|⟨g',cap,cur,e,hb,q,_⟩⟩:=(h3 k hlt).1
  ·rw[e] at hg;cases hg
  ·rw[e] at hg;cases hg;exact⟨_,_,_,q⟩
theorem start_below(ck:Array Value)(m:Nat)(R0:Loop)(W:World):Below W.heap.size W (startW (loopW ck m R0 W) (W.heap.size+5) (W.heap.size+3) (W.heap.size+2)):=by unfold startW loopW;have b1:=(Below.refl W.heap.size W).alloc (Nat.le_refl _) (.cells ck 106);have b2:=b1.alloc b1.size (.cells #[.slice none 0 0] 40);have b3:=b2.alloc b2.size (.cells ck 106);have b4:=b3.alloc b3.size (.cells #[.int .i64 m] 3);have b5:=b4.alloc b4.size (.deferred (some []));have b6:=b5.alloc b5.size (.loop R0);have b7:=b6.alloc b6.size (.cells #[.func (.yield (W.heap.size+5)) #[] #[]] 186);exact b7.alloc b7.size _
theorem yic(rs rl rw:Int)(A:Option Addr)(n c:Nat)(P:Nat→Int)(m:Nat)(W:World)(hn:n≤9) :
  CallsIn Fc 0 Tryz.prog 68 #[.agg (ckCells rs rl rw m A n c P)] W (yCb (filt P (extE n m n [])) W):=by
 have hc3:((W.alloc (.cells (ckCells rs rl rw m A n c P) 106)).alloc (.cells #[.slice none 0 0] 40)).cell? ⟨W.heap.size,3,none⟩=some (.int .i64 m):=zVa (zp (zG rfl)) (i:=3) (by decide);have hk0:((W.alloc (.cells (ckCells rs rl rw m A n c P) 106)).alloc (.cells #[.slice none 0 0] 40)).heap[W.heap.size]? = some (.cells (ckCells rs rl rw m A n c P) 106 (0,0)):=zp (zG rfl);have HC3:=Lib.hid hc3;have HK0:=Lib.hid hk0;clear hc3 hk0;refine callsIn_of_wp_marks Tryz.func68 rfl (by show(68:FuncId)∈_;simp) ?_;simp only[List.size_toArray,List.length_cons,List.length_nil,Nat.reduceAdd,Nat.reduceSub,Array.replicate_succ,Array.replicate_zero,List.push_toArray,List.append_toArray,List.nil_append,List.cons_append,Tryz.ntmps68];generalize hQ:bodyPostM Fc 0 Tryz.prog Tryz.f68 (yCb (filt P (extE n m n [])) W)=Q
 have HQ:=Lib.hid hQ;clear hQ
 gi_wp2_with (first
  |(have c3:=HC3.out;refine zW rfl _ rfl _ _ rfl HK0.out (ck_size _ _ _ _ _ _ _ _) ?_)
  |(gi_at_call 112;refine(lists_any rs rl rw m A n c P m _).mono ?_;rintro e w1 ⟨rfl,rfl⟩))
 have hs:∀ R0,(loopW (ckCells rs rl rw m A n c P) m R0 W).heap.size=W.heap.size+6:=fun R0=>by simp[loopW]
 rename_i K hK;refine wpIn_rangeFunc fun fn hfn=>?_
 obtain⟨R0,hR0⟩:∃ R0,R0=rec68 fn rs rl rw m A n c P W.heap.size m:=⟨_,rfl⟩;have hit:=sets_iter rs rl rw m A n c P W.heap.size m fn hfn hn;rw[←hR0] at hit;refine⟨W.heap.size+5,[{target:=.collected (W.heap.size+4),args:=#[]}],loopW (ckCells rs rl rw m A n c P) m R0 W,{target:=.fn (.func 139) #[ptr (W.heap.size+3),ptr (W.heap.size+2)],args:=#[.func (.yield (W.heap.size+5)) #[] #[]]},loopW (ckCells rs rl rw m A n c P) m R0 W,139,
  #[.func (.yield (W.heap.size+5)) #[] #[],ptr (W.heap.size+3),ptr (W.heap.size+2)],loopW (ckCells rs rl rw m A n c P) m R0 W,?_,?_,?_,?_,(fun h=>by cases h),?_⟩
 ·have e:=run_enterLoop_outer (P:=Tryz.prog) (w:=(((W.alloc (.cells (ckCells rs rl rw m A n c P) 106)).alloc (.cells #[.slice none 0 0] 40)).alloc (.cells (ckCells rs rl rw m A n c P) 106)).alloc (.cells #[.int .i64 m] 3)) fn (tmps68 rs rl rw m A n c P W.heap.size m) #[12] A68 B68;have e4:((((W.alloc (.cells (ckCells rs rl rw m A n c P) 106)).alloc (.cells #[.slice none 0 0] 40)).alloc (.cells (ckCells rs rl rw m A n c P) 106)).alloc (.cells #[.int .i64 m] 3)).heap.size=W.heap.size+4:=by simp
  rw[e4] at e;rw[hR0];exact e
 ·simp only[resolve];simp[go_sem]
 ·intro f' hf';simp[Target.leads] at hf';subst hf';show(139:FuncId)∈_;simp
 ·exact call_enter Tryz.func139 (by kernel_rfl) rfl _ _
 ·refine(lists1_any (bm:=W.heap.size+3) (bc:=W.heap.size+2) (L:=W.heap.size+5) (loopW (ckCells rs rl rw m A n c P) m R0 W) hn _ (Lib.hid (by rw[hs];exact hit)) (Lib.hid (sets_start (ckCells rs rl rw m A n c P) P m R0 W))).mono ?_;rintro e w3 ⟨⟨v,rfl⟩,⟨S',hi,hS'⟩,hk⟩;refine⟨none,w3.putObj (W.heap.size+5) (.loop {R0 with state:=.exhausted}),?_,?_⟩
  ·have e:=run_endLoop (P:=Tryz.prog) hi.b5 (by rw[hR0];simp[rec68]);have hp:R0.pending=none:=by rw[hR0];rfl
   rw[hp] at e;rw[hp];exact e
  ·obtain⟨vv,hv1,hl⟩:=hi.sets;have hl0:=hl;obtain⟨vs,hown,hvS,hel⟩:=hl;obtain⟨LV,kc,rfl⟩:=zeb hown;have hlt4:W.heap.size+4<w3.heap.size:=(Array.getElem?_eq_some_iff.1 hi.b4).1;obtain⟨X,hX⟩:∃ X,X=Obj.loop {R0 with state:=.exhausted}:=⟨_,rfl⟩;rw[←hX];have k1:(w3.putObj (W.heap.size+5) X).heap[W.heap.size+1]? = some (.cells #[.slice LV (filt P (extE n m n [])).length kc] 40 (0,0)):=(World.putObj_heap_other (by omega)).trans hv1;have k4:(w3.putObj (W.heap.size+5) X).heap[W.heap.size+4]? = some (.deferred (some [])):=(World.putObj_heap_other (by omega)).trans hi.b4;have c1:=zOb k1;have HL:=Lib.hid hl0;have HI:=Lib.hid hi;have HK:=Lib.hid hk;have H4:=Lib.hid k4;have HR:=Lib.hid hR0;have HX:=Lib.hid hX;obtain⟨w5,hw5⟩:∃ w5,w5=w3.putObj (W.heap.size+5) X:=⟨_,rfl⟩
   rw[←hw5] at c1 H4 ⊢;have HW5:=Lib.hid hw5;clear hown hvS hel hl0 hv1 k1 k4 hi hk hR0 hX hw5 hit hs;refine hK _ _ ?_;clear hK;gi_wp2;rw[←HQ.out];refine⟨by simp,.inl ⟨W.heap.size+4,_,rfl,run_takeDeferred H4.out,_,results_tmp rfl _ _ _,?_⟩⟩;have hw6:∀ k,k≠W.heap.size+4→k≠W.heap.size+5→(w5.putObj (W.heap.size+4) (.deferred none)).heap[k]? = w3.heap[k]?:=fun k h4 h5=>(World.putObj_heap_other h4).trans (by rw[HW5.out];exact World.putObj_heap_other h5)
   refine⟨_,S',rfl,HL.out.keepC fun k ⟨cs,t,fz,hc⟩=>hw6 k (fun e=>?_) (fun e=>?_),?_⟩
   ·rw[e,HI.out.b4] at hc;cases hc
   ·rw[e,HI.out.b5] at hc;cases hc
   ·have hb:=start_below (ckCells rs rl rw m A n c P) m R0 W;have hs3:(w5.putObj (W.heap.size+4) (.deferred none)).heap.size=w3.heap.size:=by rw[HW5.out];simp
    refine⟨?_,?_,?_,?_,fun k hk=>?_⟩
    ·rw[HW5.out];exact HK.out.os.trans hb.os
    ·rw[HW5.out];exact HK.out.tape.trans hb.tape
    ·rw[HW5.out];exact HK.out.output.trans hb.output
    ·rw[hs3];exact Nat.le_trans hb.size HK.out.size
    ·exact(hw6 k (by omega) (by omega)).trans ((HK.out.block k (Nat.lt_of_lt_of_le hk hb.size) (by simp only[List.mem_cons,List.not_mem_nil,or_false];omega) (by simp)).trans (hb.block k hk))
end
section
open Go.RowKit
abbrev Ents:=List (Nat×Value×Nat)
def entOf(p:Nat×Value×Nat):MapEntry:={key:=.int .i64 p.1,val:=p.2.1,born:=p.2.2}
def look:Ents→Nat→Nat→Option (Nat×Value)
 | [],_,_=>none
 |p::t,s,i=>if s=p.1 then some (i,p.2.1) else look t s (i+1)
theorem findNow_ent(s:Nat):∀(l:Ents) (i:Nat),Instr.findNow (.int .i64) (.int .i64 s) (l.map entOf) i=some (look l s i)
 | [],i=>rfl
 |p::t,i=>by
  rw[List.map_cons,look];unfold Instr.findNow;have e:Instr.sameNow (.int .i64) (.int .i64 s) (entOf p).key=some ((s:Int)==(p.1:Int)):=by simp[Instr.sameNow,entOf]
  rw[e];by_cases h:s=p.1
  ·subst h;simp[entOf]
  ·have h':((s:Int)==(p.1:Int))=false:=by rw[beq_eq_false_iff_ne];omega
   rw[h',if_neg h];exact findNow_ent s t (i+1)
def valAt(l:Ents)(s:Nat):Value:=match look l s 0 with
 |some p=>p.2
 |none=>.slice none 0 0
def updL:Ents→Nat→Value→Nat→Ents
 | [],s,v,c=>[(s,v,c)]
 |p::t,s,v,c=>if s=p.1 then(s,v,p.2.2)::t else p::updL t s v c
theorem look_shift(s:Nat):∀(l:Ents) (i:Nat),look l s (i+1)=(look l s i).map fun p=>(p.1+1,p.2)
 | [],_=>rfl
 |p::t,i=>by
  simp only[look];split
  ·rfl
  ·exact look_shift s t (i+1)
theorem valAt_cons(p:Nat×Value×Nat)(t:Ents)(s:Nat):valAt (p::t) s=if s=p.1 then p.2.1 else valAt t s:=by
 unfold valAt;rw[look];by_cases h:s=p.1
 ·rw[if_pos h,if_pos h]
 ·rw[if_neg h,if_neg h,look_shift];cases look t s 0<;>rfl
theorem valAt_upd(s:Nat)(v:Value)(c:Nat)(k:Nat):∀ l:Ents,valAt (updL l s v c) k=if k=s then v else valAt l k
 | []=>by rw[updL,valAt_cons]
 |p::t=>by
  rw[updL];by_cases h:s=p.1
  ·rw[if_pos h,valAt_cons,valAt_cons];by_cases hk:k=s
   ·rw[if_pos hk,if_pos hk]
   ·rw[if_neg hk,if_neg hk,if_neg (by omega)]
  ·rw[if_neg h,valAt_cons,valAt_cons,valAt_upd s v c k t];by_cases hk:k=p.1
   ·rw[if_pos hk,if_pos hk,if_neg (by omega)]
   ·rw[if_neg hk,if_neg hk]
theorem ygc(s:Nat)(v:Value)(c:Nat):∀(l:Ents) (i:Nat) (u:Value),look l s 0=some (i,u)→((l.map entOf).modify i fun e=>{e with key:=.int .i64 s,val:=v})=(updL l s v c).map entOf
 | [],i,u,h=>by cases h
 |p::t,i,u,h=>by
  rw[look] at h;rw[updL];by_cases hs:s=p.1
  ·rw[if_pos hs] at h ⊢;cases h;subst hs;rfl
  ·rw[if_neg hs] at h ⊢;rw[look_shift] at h;cases hl:look t s 0 with
   |none=>rw[hl] at h;cases h
   |some q=>
    rw[hl] at h;cases h;rw[List.map_cons,List.map_cons,List.modify_succ_cons]
    congr 1
    exact ygc s v c t q.1 q.2 hl
theorem yhc(s:Nat)(v:Value)(c:Nat):∀(l:Ents),look l s 0=none→l.map entOf++[{key:=.int .i64 s,val:=v,born:=c}]=(updL l s v c).map entOf
 | [],_=>rfl
 |p::t,h=>by
  rw[look] at h;rw[updL];by_cases hs:s=p.1
  ·rw[if_pos hs] at h;cases h
  ·rw[if_neg hs] at h ⊢;rw[look_shift] at h;have h':look t s 0=none:=by
    cases hl:look t s 0 with
    |none=>rfl
    |some q=>rw[hl] at h;cases h
   rw[List.map_cons,List.map_cons,List.cons_append,yhc s v c t h']
theorem yVc(s:Nat):∀(l:Ents) (i:Nat) (u:Value),look l s 0=some (i,u)→((l.map entOf)[i]?).map (·.key)=some (.int .i64 s)
 | [],i,u,h=>by cases h
 |p::t,i,u,h=>by
  rw[look] at h;by_cases hs:s=p.1
  ·rw[if_pos hs] at h;cases h;subst hs;rfl
  ·rw[if_neg hs,look_shift] at h;cases hl:look t s 0 with
   |none=>rw[hl] at h;cases h
   |some q=>rw[hl] at h;cases h;rw[List.map_cons,List.getElem?_cons_succ];exact yVc s t q.1 q.2 hl
theorem ut161:Tryz.prog.underlying 161=some (.map 3 40):=by kernel_rfl
theorem ut3:Tryz.prog.underlying 3=some (.int .i64):=by kernel_rfl
theorem zero40(w:World):(zeroValue 40).run Tryz.prog w=.ok (.slice none 0 0) w:=by kernel_rfl
def MapAt(w:World)(r:Nat)(l:Ents):Prop:=∃ clock,w.heap[r]? = some (.map (l.map entOf).toArray clock)
theorem run_check(b:Bool)(x:Value)(w:World):(Instr.checkKey b 10000 3 x).run Tryz.prog w=.ok () w:=by unfold Instr.checkKey;simp[Sem.run_bind,run_underlying ut3,Result.andThen]
theorem run_find(s:Nat)(l:Ents)(w:World):(Instr.findKey 3 (.int .i64 s) (l.map entOf)).run Tryz.prog w=.ok (look l s 0) w:=by unfold Instr.findKey;simp[Sem.run_bind,run_underlying ut3,Result.andThen,findNow_ent]
theorem run_look161{w:World}{r:Nat}{l:Ents}(h:MapAt w r l)(s:Nat):(Instr.lookup 161 (.map (some r)) (.int .i64 s) false).run Tryz.prog w=.ok (valAt l s) w:=by
 obtain⟨clock,h⟩:=h;unfold Instr.lookup;have hg:(getObj r).run Tryz.prog w=.ok (.map (l.map entOf).toArray clock) w:=by simp[getObj,Sem.run,h]
 simp only[Sem.run_bind,run_underlying ut161,Result.andThen,hg,Sem.run_pure,run_check,run_find,valAt];cases hl:look l s 0 with
 |none=>simp[Sem.run_bind,zero40,Result.andThen]
 |some p=>simp[Sem.run_bind,Result.andThen]
theorem run_upd161{w:World}{r:Nat}{l:Ents}(h:MapAt w r l)(s:Nat)(v:Value):∃ w' c,(Instr.mapUpdate 161 (.map (some r)) (.int .i64 s) v).run Tryz.prog w=.ok () w'∧MapAt w' r (updL l s v c)∧w'=w.putObj r (.map ((updL l s v c).map entOf).toArray (if(look l s 0).isSome then c else c+1)):=by
 obtain⟨clock,h⟩:=h;have hg:(getObj r).run Tryz.prog w=.ok (.map (l.map entOf).toArray clock) w:=by simp[getObj,Sem.run,h]
 have hs:∀ o,(setObj r o).run Tryz.prog w=.ok () (w.putObj r o):=fun o=>by simp[setObj,Sem.run,h,World.putObj]
 have hlt:r<w.heap.size:=(Array.getElem?_eq_some_iff.1 h).1;unfold Instr.mapUpdate;cases hl:look l s 0 with
 |none=>
  refine⟨_,clock,?_,⟨clock+1,?_⟩,rfl⟩
  ·simp only[Sem.run_bind,run_underlying ut161,Result.andThen,hg,Sem.run_pure,run_check,run_find,hl,hs];simp[←yhc s v clock l hl]
  ·simpa using World.putObj_heap_same hlt
 |some p=>
  obtain⟨i,u⟩:=p;have hk:(Instr.keyThatStays ((((l.map entOf).toArray)[i]?.map (·.key)).getD (.int .i64 s)) (.int .i64 s)).run Tryz.prog w=.ok (.int .i64 s) w:=by
   have e:=yVc s l i u hl;have e':(((l.map entOf).toArray)[i]?.map (·.key))=some (.int .i64 s):=by simpa using e
   rw[e'];simp[Instr.keyThatStays,Instr.sameBits]
  refine⟨_,clock,?_,⟨clock,?_⟩,rfl⟩
  ·simp only[Sem.run_bind,run_underlying ut161,Result.andThen,hg,Sem.run_pure,run_check,run_find,hl,hs,hk];simp[←ygc s v clock l i u hl]
  ·simpa using World.putObj_heap_same hlt
section
variable {F:Fence}{ops:Array Oper}{rest:List Oper}{o:Oper}{a:Act}{w:World}{Q:Exit→Act→World→Prop}
theorem yB(hg:o.guard=none)(m x:Operand)(hop:o.op=.lookup 161 m x false)(r s:Nat)(l:Ents)(hm:a.eval m=.map (some r))(hx:a.eval x=.int .i64 s)(h:MapAt w r l)
  (hK:wpListIn F 0 Tryz.prog ops Q rest (a.put o.dst (valAt l s)) w):wpListIn F 0 Tryz.prog ops Q (o::rest) a w:=by
 refine wpListIn_plain hg fun K hK'=>?_
 have e:(Instr.lookup 161 (a.eval m) (a.eval x) false).run Tryz.prog w=.ok (valAt l s) w:=by rw[hm,hx];exact run_look161 h s
 unfold Oper.wpIn;refine⟨?_,?_⟩
 ·simp[Oper.about,hop]
 ·rw[Oper.semAt_plain F _ _ (by rw[hop];intro c hc';cases hc')];simp only[execOp,hop];show o.uponIn F 0 Tryz.prog a K Q ((do pure (.value (←Instr.lookup 161 (a.eval m) (a.eval x) false)):Sem Next).run Tryz.prog w);rw[Sem.run_bind,e];exact hK' _ _ hK
theorem wpListIn_upd161(hg:o.guard=none)(m x v:Operand)(hop:o.op=.mapUpdate 161 m x v)(r s:Nat)(l:Ents)(u:Value)(hm:a.eval m=.map (some r))(hx:a.eval x=.int .i64 s)(hv:a.eval v=u)(h:MapAt w r l)
  (hK:∀ w' c,MapAt w' r (updL l s u c)→(∃ o',w'=w.putObj r o')→wpListIn F 0 Tryz.prog ops Q rest (a.put o.dst undef) w'):wpListIn F 0 Tryz.prog ops Q (o::rest) a w:=by
 refine wpListIn_plain hg fun K hK'=>?_
 obtain⟨w',c,hrun,h1,h2⟩:=run_upd161 h s u;have e:(Instr.mapUpdate 161 (a.eval m) (a.eval x) (a.eval v)).run Tryz.prog w=.ok () w':=by rw[hm,hx,hv];exact hrun
 unfold Oper.wpIn;refine⟨?_,?_⟩
 ·simp[Oper.about,hop]
 ·rw[Oper.semAt_plain F _ _ (by rw[hop];intro c hc';cases hc')];simp only[execOp,hop];show o.uponIn F 0 Tryz.prog a K Q ((do Instr.mapUpdate 161 (a.eval m) (a.eval x) (a.eval v);pure .skip:Sem Next).run Tryz.prog w);rw[Sem.run_bind,e];exact hK' _ _ (hK w' c h1 ⟨_,h2⟩)
end
end
end Go.Proofs.YtpdmgecbapmgdaaGreat
