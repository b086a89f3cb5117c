/- Ground of proofs about package arrow: it says nothing by itself, without a condition. -/
import Derived.Test.YtpdmgecbapmgdaaGreatCx7
import Derived.Laws.Sem
import GoSem.Dispatch
import Derived.Conc.Events
set_option linter.unusedSimpArgs false
set_option linter.unusedVariables false
set_option maxHeartbeats 1000000
namespace Go.Cx
section
def bad:Obj→Prop
 |.loop _|.pending _ _|.deferred (some (_::_))=>True
 |_=>False
def solid:Obj→Prop
 |.map _ _|.deferred none|.mapIter _ _ _ _=>True
 |_=>False
def zma:Halt→Prop
 |.panic _|.stuck _=>True
 |.unsupported u=>∀ g,u≠.initOrder g
 |_=>False
def dead{α:Type}:Sem α→Prop
 |.halt h=>zma h
 |_=>False
def calm(p:Program){α:Type}(Q:α→Prop):Sem α→Prop
 |.pure a=>Q a
 |.load _ _ k=>∀ v,calm p Q (k v)
 |.store _ _ _ k=>calm p Q k
 |.new o k=>¬ bad o∧o≠.coro none∧∀ r,calm p Q (k r)
 |.shape _ k=>∀ s,calm p Q (k s)
 |.freeze _ _ k=>calm p Q k
 |.frozen _ k=>∀ b,calm p Q (k b)
 |.getObj _ k=>(∀ o,¬ bad o→calm p Q (k o))∧((∀ l,dead (k (.loop l)))∧dead (k (.coro none))∨∀ o,bad o→k o=k (.coro none))
 |.setObj _ o k=>solid o∧calm p Q k
 |.choose _ k=>∀ n,calm p Q (k n)
 |.sys _ _=>False
 |.program k=>calm p Q (k p)
 |.mark m k=>okMark m∧calm p Q k
 |.halt h=>zma h
theorem dead_bind{α β:Type}(f:α→Sem β){s:Sem α}(hd:dead s):dead (s.bind f):=by
 unfold dead at hd;split at hd
 ·exact hd
 ·exact hd.elim
section
variable {p:Program}
theorem zP{α β:Type}{Q:α→Prop}{R:β→Prop}{f:α→Sem β}(hf:∀ a,Q a→calm p R (f a)):∀(s:Sem α),calm p Q s→calm p R (s.bind f)
 |.pure a,h=>hf a h
 |.load m a k,h=>fun v=>zP hf (k v) (h v)
 |.store m a v k,h=>zP hf k h
 |.new o k,h=>⟨h.1,h.2.1,fun r=>zP hf (k r) (h.2.2 r)⟩
 |.shape r k,h=>fun s=>zP hf (k s) (h s)
 |.freeze a n k,h=>zP hf k h
 |.frozen a k,h=>fun b=>zP hf (k b) (h b)
 |.getObj r k,h=>⟨fun o ho=>zP hf (k o) (h.1 o ho),h.2.imp (fun hd=>⟨fun l=>dead_bind f (hd.1 l),dead_bind f hd.2⟩) fun he o ho=>by show(k o).bind f=(k (.coro none)).bind f;rw[he o ho]⟩
 |.setObj r o k,h=>⟨h.1,zP hf k h.2⟩
 |.choose q k,h=>fun n=>zP hf (k n) (h n)
 |.sys c k,h=>h.elim
 |.program k,h=>zP hf (k p) h
 |.mark m k,h=>⟨h.1,zP hf k h.2⟩
 |.halt x,h=>h
theorem calm_bind{α β:Type}{Q:α→Prop}{R:β→Prop}{s:Sem α}{f:α→Sem β}(hs:calm p Q s)(hf:∀ a,Q a→calm p R (f a)):calm p R (s >>= f):=zP hf s hs
theorem zd{α β:Type}{R:β→Prop}{s:Sem α}{f:α→Sem β}(hs:calm p (fun _=>True) s)(hf:∀ a,calm p R (f a)):calm p R (s >>= f):=zP (fun a _=>hf a) s hs
theorem calm_map{α β:Type}{R:β→Prop}{s:Sem α}{f:α→β}(hs:calm p (fun a=>R (f a)) s):calm p R (Functor.map f s):=by rw[map_eq_pure_bind];exact calm_bind hs fun a h=>h
theorem zR{α:Type}{Q R:α→Prop}(h:∀ a,Q a→R a):∀(s:Sem α),calm p Q s→calm p R s
 |.pure a,hs=>h a hs
 |.load m a k,hs=>fun v=>zR h (k v) (hs v)
 |.store m a v k,hs=>zR h k hs
 |.new o k,hs=>⟨hs.1,hs.2.1,fun r=>zR h (k r) (hs.2.2 r)⟩
 |.shape r k,hs=>fun s=>zR h (k s) (hs s)
 |.freeze a n k,hs=>zR h k hs
 |.frozen a k,hs=>fun b=>zR h (k b) (hs b)
 |.getObj r k,hs=>⟨fun o ho=>zR h (k o) (hs.1 o ho),hs.2⟩
 |.setObj r o k,hs=>⟨hs.1,zR h k hs.2⟩
 |.choose q k,hs=>fun n=>zR h (k n) (hs n)
 |.sys c k,hs=>hs.elim
 |.program k,hs=>zR h (k p) hs
 |.mark m k,hs=>⟨hs.1,zR h k hs.2⟩
 |.halt x,hs=>hs
theorem calm_mono{α:Type}{Q R:α→Prop}{s:Sem α}(hs:calm p Q s)(h:∀ a,Q a→R a):calm p R s:=zR h s hs
structure Floor where
 w:World
 good:Loop→Prop
structure Twin(B:Floor)(w v:World):Prop where
 tape:w.tape=v.tape
 drawn:w.drawn=v.drawn
 os:w.os=v.os
 output:w.output=v.output
 size:w.heap.size=v.heap.size
 at_:∀ i:Nat,w.heap[i]? = v.heap[i]?∨(∃ o,bad o∧w.heap[i]? = some o∧v.heap[i]? = some (.coro none)∧B.w.heap[i]? = some o)
 ok:∀(i:Nat) (o:Obj),v.heap[i]? = some o→bad o→∃ l,o=.loop l∧B.good l
 keep:∀(i:Nat) (o:Obj),B.w.heap[i]? = some o→bad o→v.heap[i]? = some (.coro none)→w.heap[i]? = some o
section
variable {B:Floor}{w v:World}
def zza(v:World):Prop:=∀(i:Nat) (a:Deferred) (l:List Deferred),v.heap[i]?≠some (Obj.deferred (some (a::l)))
theorem Twin.clean(h:Twin B w v):zza v:=fun i a l e=>by obtain⟨x,e',_⟩:=h.ok i _ e trivial;cases e'
theorem zza.push{v:World}(h:zza v){o:Obj}(ho:¬ bad o):zza {v with heap:=v.heap.push o}:=fun i a l=>by
 simp only[Array.getElem?_push];split
 ·intro e;cases e;exact ho trivial
 ·exact h i a l
theorem Twin.cell(h:Twin B w v)(a:Addr):w.cell? a=v.cell? a:=by
 unfold World.cell?;rcases h.at_ a.block with e|⟨o,hb,e1,e2,eB⟩
 ·rw[e]
 ·rw[e1,e2];cases o<;>first|rfl|exact hb.elim
theorem Twin.shape(h:Twin B w v)(r:Nat):w.shape? r=v.shape? r:=by
 unfold World.shape?;rcases h.at_ r with e|⟨o,hb,e1,e2,eB⟩
 ·rw[e]
 ·rw[e1,e2];cases o<;>first|rfl|exact hb.elim
theorem Twin.frozen(h:Twin B w v)(a:Addr):w.frozen? a=v.frozen? a:=by
 unfold World.frozen?;rcases h.at_ a.block with e|⟨o,hb,e1,e2,eB⟩
 ·rw[e]
 ·rw[e1,e2];cases o<;>first|rfl|exact hb.elim
theorem Twin.turn(h:Twin B w v){i:Nat}{f:Obj→Obj}(hf:∀ o,¬ bad o→¬ bad (f o))(hb:∀ o,bad o→f o=o)(hc:f (.coro none)=.coro none)(hn:∀ o,f o=.coro none→o=.coro none) :
  Twin B {w with heap:=w.heap.modify i f} {v with heap:=v.heap.modify i f} where
 tape:=h.tape
 drawn:=h.drawn
 os:=h.os
 output:=h.output
 size:=by simp[h.size]
 at_:=by
  intro j;simp only[Array.getElem?_modify];by_cases e:i=j
  ·subst e;simp only[if_true];rcases h.at_ i with e|⟨o,hb',e1,e2,eB⟩
   ·left;rw[e]
   ·right;exact⟨o,hb',by rw[e1];simp[hb o hb'],by rw[e2];simp[hc],eB⟩
  ·simp only[if_neg e];exact h.at_ j
 ok:=by
  intro j o;simp only[Array.getElem?_modify];by_cases e:i=j
  ·subst e;simp only[if_true];cases hv:v.heap[i]? with
   |none=>simp
   |some x=>
    simp only[Option.map_some,Option.some.injEq];rintro rfl hx;have hx':bad x:=Classical.byContradiction fun hn=>hf x hn hx
    rw[hb x hx'];exact h.ok i x hv hx'
  ·simp only[if_neg e];exact h.ok j o
 keep:=by
  intro j o ho hb';simp only[Array.getElem?_modify];by_cases e:i=j
  ·subst e;simp only[if_true];cases hv:v.heap[i]? with
   |none=>simp
   |some x=>simp only[Option.map_some,Option.some.injEq];intro hx;have hx':=hn x hx;subst hx';rw[h.keep i o ho hb' hv];simp[hb o hb']
  ·simp only[if_neg e];exact h.keep j o ho hb'
theorem Twin.replace(h:Twin B w v){i:Nat}{o:Obj}(ho:bad o→∃ l,o=.loop l∧B.good l)(hn:o≠.coro none) :
  Twin B {w with heap:=w.heap.setIfInBounds i o} {v with heap:=v.heap.setIfInBounds i o} where
 tape:=h.tape
 drawn:=h.drawn
 os:=h.os
 output:=h.output
 size:=by simp[h.size]
 at_:=by
  intro j;simp only[Array.getElem?_setIfInBounds];by_cases ej:i=j
  ·simp only[ej,if_true,h.size];exact .inl trivial
  ·simp only[if_neg ej];exact h.at_ j
 ok:=by
  intro j x;simp only[Array.getElem?_setIfInBounds];by_cases ej:i=j
  ·simp only[ej,if_true];split
   ·intro hx;cases hx;exact ho
   ·intro hx;cases hx
  ·simp only[if_neg ej];exact h.ok j x
 keep:=by
  intro j x hx hb;simp only[Array.getElem?_setIfInBounds];by_cases ej:i=j
  ·simp only[ej,if_true];split
   ·intro hx;cases hx;exact absurd rfl hn
   ·intro hx;cases hx
  ·simp only[if_neg ej];exact h.keep j x hx hb
theorem Twin.set(h:Twin B w v)(a:Addr)(x:Value):Twin B (w.setCell a x) (v.setCell a x):=
 h.turn (fun o ho=>by cases o<;>first|exact ho|exact id) (fun o ho=>by cases o<;>first|exact ho.elim|rfl) rfl (fun o ho=>by cases o<;>first|exact ho|cases ho)
theorem Twin.freeze(h:Twin B w v)(a:Addr)(n:Nat):Twin B (w.freeze a n) (v.freeze a n):=by
 unfold World.freeze;split
 ·exact h
 ·exact h.turn (fun o ho=>by cases o<;>first|exact ho|exact id) (fun o ho=>by cases o<;>first|exact ho.elim|rfl) rfl (fun o ho=>by cases o<;>first|exact ho|cases ho)
theorem Twin.draw(h:Twin B w v):Twin B {w with drawn:=w.drawn+1} {v with drawn:=v.drawn+1}:=
 ⟨h.tape,congrArg (· + 1) h.drawn,h.os,h.output,h.size,h.at_,h.ok,h.keep⟩
theorem Twin.push(h:Twin B w v){o:Obj}(ho:bad o→∃ l,o=.loop l∧B.good l)(hn:o≠.coro none):Twin B {w with heap:=w.heap.push o} {v with heap:=v.heap.push o} where
 tape:=h.tape
 drawn:=h.drawn
 os:=h.os
 output:=h.output
 size:=by simp[h.size]
 at_:=by
  intro j;simp only[Array.getElem?_push,h.size];split
  ·exact .inl rfl
  ·exact h.at_ j
 ok:=by
  intro j x;simp only[Array.getElem?_push];split
  ·rintro hx;cases hx;exact ho
  ·exact h.ok j x
 keep:=by
  intro j x hx hb;simp only[Array.getElem?_push];split
  ·intro hv;cases hv;exact absurd rfl hn
  ·next hj=>intro hv;rw[if_neg (fun e=>hj (by rw[e,h.size]))];exact h.keep j x hx hb hv
theorem Twin.seen(h:Twin B w v)(p:Program)(a:Addr)(u:TypeId)(k:Addr)(at':Bool):w.seen p a u k at'=v.seen p a u k at':=by
 unfold World.seen;rcases h.at_ a.block with e|⟨o,hb,e1,e2,eB⟩
 ·rw[e]
 ·rw[e1,e2];cases o<;>first|rfl|exact hb.elim
theorem Twin.viewLoad(h:Twin B w v)(p:Program)(a:Addr)(u:TypeId)(k:Addr)(at':Bool):w.viewLoad p a u k at'=v.viewLoad p a u k at':=by unfold World.viewLoad;rw[h.seen]
theorem Twin.farLoad(h:Twin B w v)(p:Program)(a:Addr)(at':Bool){r:Value×List Addr}(e:v.farLoad p a at'=.ok r):w.farLoad p a at'=.ok r:=by
 unfold World.farLoad at e ⊢;rcases h.at_ a.block with e1|⟨o,hb,e1,e2,eB⟩
 ·rw[e1];split at e
  ·next b u hx=>rw[h.viewLoad];exact e
  ·cases e
 ·rw[e2] at e;cases e
theorem Twin.farLoad_bad(h:Twin B w v)(p:Program)(a:Addr)(at':Bool){x:Halt}(e:v.farLoad p a at'=.error x):zma x:=by
 unfold World.farLoad at e;split at e
 ·split at e
  ·cases e
  ·cases e;intro g;simp
 ·cases e;unfold World.noCell;split
  ·next hx=>obtain⟨l,e,_⟩:=h.ok _ _ hx trivial;cases e
  ·intro g;simp
  ·trivial
end
end
end
section
section
variable {p:Program}{B:Floor}{w v:World}
theorem seen_cells{p:Program}{w:World}{a:Addr}{u:TypeId}{k:Addr}{at':Bool}{c:Array Value}{e:TypeId}{fz:Nat×Nat}{x:Nat}{y:Value}{z:List (Nat×Nat×List UInt8)}
  (h:w.seen p a u k at'=.ok (c,e,fz,x,y,z)):w.heap[a.block]? = some (.cells c e fz):=by
 unfold World.seen at h;simp only[bind,Except.bind,pure,Except.pure,throw,throwThe,MonadExceptOf.throw] at h
 repeat' (split at h)
 all_goals first|(cases h;done)|skip
 all_goals (try (simp only[Except.ok.injEq,Prod.mk.injEq] at h))
 all_goals (try (obtain⟨rfl,rfl,rfl,_⟩:=h;assumption))
 all_goals (try simp_all)
theorem Twin.put(h:Twin B w v){b:Nat}{c':Array Value}{e:TypeId}{fz:Nat×Nat} :
  Twin B {w with heap:=w.heap.setIfInBounds b (.cells c' e fz)} {v with heap:=v.heap.setIfInBounds b (.cells c' e fz)}:=h.replace (fun hb=>hb.elim) (fun e=>by cases e)
theorem Twin.viewStore(h:Twin B w v)(p:Program)(a:Addr)(u:TypeId)(k:Addr)(x:Value)(at':Bool){v1:World}{l:List Addr}(e:v.viewStore p a u k x at'=.ok (v1,l)) :
  ∃ w1,w.viewStore p a u k x at'=.ok (w1,l)∧Twin B w1 v1:=by
 unfold World.viewStore at e ⊢;rw[h.seen];cases hs:v.seen p a u k at' with
 |error m=>rw[hs] at e;simp only[bind,Except.bind,pure,Except.pure,throw,throwThe,MonadExceptOf.throw] at e;split at e<;>cases e
 |ok r=>
  obtain⟨c,ty,fz,first,like,cells⟩:=r;have hc:=seen_cells hs;rw[hs] at e;simp only[bind,Except.bind,pure,Except.pure,throw,throwThe,MonadExceptOf.throw] at e ⊢;split at e
  ·cases e
  ·next ht=>
   rw[if_neg ht];split at e
   ·next bytes hb=>
    split at e
    ·cases e
    ·next hl=>
     simp only[if_neg hl];split at e
     ·cases e
     ·next c' hc'=>
      simp only[Except.ok.injEq,Prod.mk.injEq] at e;obtain⟨rfl,rfl⟩:=e
      first|exact⟨_,rfl,h.put⟩|(rw[hc'];exact⟨_,rfl,h.put⟩)|(simp only[hc'];exact⟨_,rfl,h.put⟩)
   ·cases e
theorem Twin.farStore(h:Twin B w v)(p:Program)(a:Addr)(x:Value)(at':Bool){v1:World}{l:List Addr}(e:v.farStore p a x at'=.ok (v1,l)) :
  ∃ w1,w.farStore p a x at'=.ok (w1,l)∧Twin B w1 v1:=by
 unfold World.farStore at e ⊢;rcases h.at_ a.block with e1|⟨o,hb,e1,e2,eB⟩
 ·rw[e1];split at e
  ·next b u hx=>
   split at e
   ·next r hr=>cases e;obtain⟨w1,h1,h2⟩:=h.viewStore p b u a x at' hr;exact⟨w1,by rw[h1],h2⟩
   ·cases e
  ·cases e
 ·rw[e2] at e;cases e
theorem Twin.farStore_bad(h:Twin B w v)(p:Program)(a:Addr)(y:Value)(at':Bool){x:Halt}(e:v.farStore p a y at'=.error x):zma x:=by
 unfold World.farStore at e;split at e
 ·split at e
  ·cases e
  ·cases e;intro g;simp
 ·cases e;unfold World.noCell;split
  ·next hx=>obtain⟨l,e,_⟩:=h.ok _ _ hx trivial;cases e
  ·intro g;simp
  ·trivial
def Par{α:Type}(B:Floor)(Q:α→Prop)(rv rw:Result α×Array Event):Prop:=
 match rv.1 with
 |.ok a v1=>Q a∧OkEvs rv.2∧∃ w1,rw=(.ok a w1,rv.2)∧Twin B w1 v1
 |.halt h v1=>zma h∧zza v1
theorem okEvs_map{es:Array Event}(h:OkEvs es)(l:List Addr)(x y:Bool):OkEvs (es++l.toArray.map fun a=>(⟨.cell a,x,y⟩:Event)):=
 h.append fun e he=>by simp only[Array.mem_map,List.mem_toArray] at he;obtain⟨a,_,rfl⟩:=he;exact trivial
theorem calm_run{α:Type}{Q:α→Prop}:∀(s:Sem α) (w v:World) (es:Array Event),calm p Q s→Twin B w v→OkEvs es→Par B Q (s.runT p v es) (s.runT p w es):=by
 intro s
 induction s with
 |pure a=>intro w v es hs h he;exact⟨hs,he,w,rfl,h⟩
 |load m a k ih=>
  intro w v es hs h he;simp only[Sem.runT];rw[h.cell];cases hc:v.cell? a with
  |some x=>exact ih x w v _ (hs x) h (he.push trivial)
  |none=>
   cases hf:v.farLoad p a (m==.atomic) with
   |error x=>exact⟨h.farLoad_bad p a _ hf,h.clean⟩
   |ok r=>rw[h.farLoad p a _ hf];exact ih r.1 w v _ (hs _) h (okEvs_map he _ _ _)
 |store m a x k ih=>
  intro w v es hs h he;have key:∀(hx:Sem.runT p (.store m a x k) v es=(match v.cell? a with
    |some _=>if v.frozen? a then(.halt (.unsupported (.unsafePointer "a write to bytes that a string shares")) v,es) else k.runT p (v.setCell a x) (es.push ⟨.cell a,true,m==.atomic⟩)
    |none=>match v.farStore p a x (m==.atomic) with
     |.ok (v,touched)=>k.runT p v (es++touched.toArray.map (⟨.cell ·,true,m==.atomic⟩))
     |.error h=>(.halt h v,es)))
    (hy:Sem.runT p (.store m a x k) w es=(match w.cell? a with
    |some _=>if w.frozen? a then(.halt (.unsupported (.unsafePointer "a write to bytes that a string shares")) w,es) else k.runT p (w.setCell a x) (es.push ⟨.cell a,true,m==.atomic⟩)
    |none=>match w.farStore p a x (m==.atomic) with
     |.ok (w,touched)=>k.runT p w (es++touched.toArray.map (⟨.cell ·,true,m==.atomic⟩))
     |.error h=>(.halt h w,es))),Par B Q (Sem.runT p (.store m a x k) v es) (Sem.runT p (.store m a x k) w es):=by
   intro hx hy;rw[hx,hy,h.cell,h.frozen];cases hc:v.cell? a with
   |some y=>
    simp only[];split
    ·exact⟨(fun g=>by simp),h.clean⟩
    ·exact ih _ _ _ hs (h.set a x) (he.push trivial)
   |none=>
    simp only[];cases hf:v.farStore p a x (m==.atomic) with
    |error y=>exact⟨h.farStore_bad p a x _ hf,h.clean⟩
    |ok r=>obtain⟨v1,l⟩:=r;obtain⟨w1,e1,h1⟩:=h.farStore p a x _ hf;rw[e1];exact ih _ _ _ hs h1 (okEvs_map he _ _ _)
  cases x with
  |agg xs=>simp only[Sem.runT];exact⟨(trivial:zma (.stuck _)),h.clean⟩
  |tuple xs=>simp only[Sem.runT];exact⟨(trivial:zma (.stuck _)),h.clean⟩
  |_=>
   refine key ?_ ?_
   ·conv=>lhs;unfold Sem.runT
    first|rfl|(cases v.cell? a<;>first|rfl|(cases World.farStore p v a _ _<;>rfl))
   ·conv=>lhs;unfold Sem.runT
    first|rfl|(cases w.cell? a<;>first|rfl|(cases World.farStore p w a _ _<;>rfl))
 |new o k ih=>intro w v es hs h he;simp only[Sem.runT,h.size];exact ih _ _ _ _ (hs.2.2 _) (h.push (fun hb=>absurd hb hs.1) hs.2.1) he
 |shape r k ih=>intro w v es hs h he;simp only[Sem.runT,h.shape];exact ih _ _ _ _ (hs _) h he
 |freeze a n k ih=>intro w v es hs h he;simp only[Sem.runT];exact ih _ _ _ hs (h.freeze a n) he
 |frozen a k ih=>intro w v es hs h he;simp only[Sem.runT,h.frozen];exact ih _ _ _ _ (hs _) h he
 |getObj r k ih=>
  intro w v es hs h he;simp only[Sem.runT];cases hv:v.heap[r]? with
  |none=>simp only[];exact⟨trivial,h.clean⟩
  |some o=>
   rcases h.at_ r with e|⟨o',hb,e1,e2,eB⟩
   ·rw[e,hv];by_cases ho:bad o
    ·obtain⟨l,rfl,hg⟩:=h.ok _ _ hv ho;rcases hs.2 with hd|heq
     ·have hd:=hd.1 l;unfold dead at hd;split at hd
      ·next e=>simp only[e,Sem.runT];exact⟨hd,h.clean⟩
      ·exact hd.elim
     ·have:=ih (.coro none) w v (es.push ⟨.obj r,false,Obj.isChan (.coro none)⟩) (hs.1 _ id) h (he.push trivial);have hk:=heq _ ho;simp only[hk];exact this
    ·cases o<;>first
      |exact⟨trivial,h.clean⟩
      |exact ih _ w v _ (hs.1 _ ho) h (he.push trivial)
   ·rw[hv] at e2;cases e2;rw[e1];rcases hs.2 with hd|heq
    ·have hd:=hd.2;unfold dead at hd;split at hd
     ·next e=>simp only[e,Sem.runT];exact⟨hd,h.clean⟩
     ·exact hd.elim
    ·have:=ih (.coro none) w v (es.push ⟨.obj r,false,Obj.isChan (.coro none)⟩) (hs.1 _ id) h (he.push trivial);cases o'<;>first
      |exact hb.elim
      |(have hk:=heq _ hb;simp only[hk];exact this)
 |setObj r o k ih=>
  intro w v es hs h he;have h1:bad o→∃ l,o=.loop l∧B.good l:=by intro hb;have:=hs.1;unfold solid at this;split at this<;>first|exact hb.elim|exact this.elim
  have h2:o≠.coro none:=by have:=hs.1;intro e;rw[e] at this;exact this
  simp only[Sem.runT];cases hv:v.heap[r]? with
  |none=>simp only[];exact⟨trivial,h.clean⟩
  |some o'=>
   rcases h.at_ r with e|⟨o'',hb,e1,e2,eB⟩
   ·rw[e,hv];cases o'<;>first
     |exact⟨trivial,h.clean⟩
     |exact ih _ _ _ hs.2 (h.replace h1 h2) (he.push trivial)
   ·rw[hv] at e2;cases e2;rw[e1];cases o''<;>first
     |exact hb.elim
     |exact ih _ _ _ hs.2 (h.replace h1 h2) (he.push trivial)
 |choose q k ih=>
  intro w v es hs h he;simp only[Sem.runT];rw[h.tape,h.drawn];split
  ·exact ih _ _ _ _ (hs _) h he
  ·exact ih _ _ _ _ (hs _) ⟨rfl,rfl,h.os,h.output,h.size,h.at_,h.ok,h.keep⟩ he
 |sys c k ih=>intro w v es hs;exact hs.elim
 |program k ih=>intro w v es hs h he;simp only[Sem.runT];exact ih _ _ _ _ hs h he
 |mark m k ih=>intro w v es hs h he;simp only[Sem.runT];exact ih _ _ _ hs.2 h (he.push hs.1)
 |halt x=>intro w v es hs h he;exact⟨hs,h.clean⟩
end
end
section
section
variable {p:Program}
theorem zJ{α:Type}{Q:α→Prop}{f:Program→Sem α}(h:calm p Q (f p)):calm p Q (program >>= f):=h
theorem ze{α:Type}(a:α):calm p (fun _=>True) (pure a:Sem α):=trivial
theorem zf{α:Type}{Q:α→Prop}(e:String):calm p Q (stuck e:Sem α):=trivial
theorem zg{α:Type}{Q:α→Prop}{u:Unsupported}(h:∀ g,u≠.initOrder g):calm p Q (unsupported u:Sem α):=h
theorem calm_goPanic{α:Type}{Q:α→Prop}(v:Value):calm p Q (goPanic v:Sem α):=trivial
theorem calm_load(a:Addr)(m:Mode):calm p (fun _=>True) (load a m):=fun _=>trivial
theorem calm_store(a:Addr)(v:Value)(m:Mode):calm p (fun _=>True) (store a v m):=trivial
theorem calm_newRowObj(c:Array Value)(t:TypeId):calm p (fun _=>True) (newObj (.cells c t)):=⟨id,(fun h=>by cases h),fun _=>trivial⟩
theorem calm_newNumber(a:Addr)(l:Bool):calm p (fun _=>True) (newObj (.number a l)):=⟨id,(fun h=>by cases h),fun _=>trivial⟩
theorem zC(q:Question):calm p (fun _=>True) (choose q):=fun _=>trivial
theorem zra(r:Nat):calm p (fun _=>True) (shape r):=fun _=>trivial
theorem calm_frozen(a:Addr):calm p (fun _=>True) (frozen a):=fun _=>trivial
theorem calm_noRoom:calm p (fun _=>True) (mark .noRoom):=⟨trivial,trivial⟩
theorem zpa{α:Type}{Q:α→Prop}{r:Nat}{f:Obj→Sem α}(h:∀ o,¬ bad o→calm p Q (f o))(hd:(∀ l,dead (f (.loop l)))∧dead (f (.coro none))∨∀ o,bad o→f o=f (.coro none)):calm p Q (getObj r >>= f):=⟨h,hd⟩
theorem zm{α:Type}{Q:α→Prop}{c:Prop}[Decidable c]{x y:Sem α}(h1:c→calm p Q x)(h2:¬ c→calm p Q y):calm p Q (if c then x else y):=by
 by_cases h:c
 ·rw[if_pos h];exact h1 h
 ·rw[if_neg h];exact h2 h
theorem calm_mapM_list{α β:Type}{f:α→Sem β}(h:∀ a,calm p (fun _=>True) (f a)):∀ l:List α,calm p (fun _=>True) (l.mapM f)
 | []=>by rw[List.mapM_nil];exact trivial
 |a::l=>by rw[List.mapM_cons];exact zd (h a) fun _=>zd (calm_mapM_list h l) fun _=>trivial
theorem calm_mapM{α β:Type}{f:α→Sem β}(h:∀ a,calm p (fun _=>True) (f a))(as:Array α):calm p (fun _=>True) (as.mapM f):=by rw[Array.mapM_eq_mapM_toList];exact calm_map (calm_mono (calm_mapM_list h _) fun _ _=>trivial)
theorem calm_forIn_list{β γ:Type}{f:β→γ→Sem (ForInStep γ)}(h:∀ b c,calm p (fun _=>True) (f b c)):∀(l:List β) (c:γ),calm p (fun _=>True) (forIn l c f)
 | [],c=>by rw[List.forIn_nil];exact trivial
 |b::l,c=>by
  rw[List.forIn_cons];refine zd (h b c) fun r=>?_
  cases r with
  |done c=>exact trivial
  |yield c=>exact calm_forIn_list h l c
theorem calm_forIn_array{β γ:Type}{f:β→γ→Sem (ForInStep γ)}(h:∀ b c,calm p (fun _=>True) (f b c))(as:Array β)(c:γ):calm p (fun _=>True) (forIn as c f):=by rw[←Array.forIn_toList];exact calm_forIn_list h _ _
theorem calm_forIn_range{γ:Type}{f:Nat→γ→Sem (ForInStep γ)}(h:∀ b c,calm p (fun _=>True) (f b c))(r:Std.Legacy.Range)(c:γ):calm p (fun _=>True) (forIn r c f):=by rw[Std.Legacy.Range.forIn_eq_forIn_range'];exact calm_forIn_list h _ _
theorem calm_foldlM{α β:Type}{f:β→α→Sem β}(h:∀ b a,calm p (fun _=>True) (f b a)):∀(l:List α) (b:β),calm p (fun _=>True) (l.foldlM f b)
 | [],b=>by rw[List.foldlM_nil];exact trivial
 |a::l,b=>by rw[List.foldlM_cons];exact zd (h b a) fun b'=>calm_foldlM h l b'
theorem calm_askRoom(n:Nat):calm p (fun _=>True) (askRoom n):=by
 unfold askRoom
 repeat' first|(with_reducible (first|exact ze _|exact calm_noRoom|apply zm))|intro _|split|dsimp only
theorem zj{α:Type}{Q:α→Prop}(e:RuntimeError):calm p Q (runtimePanic e:Sem α):=by
 unfold runtimePanic elemOf underlying newVar newRow
 repeat' first|(with_reducible (first|exact ze _|exact zf _|exact calm_goPanic _|exact calm_newRowObj _ _|apply zJ|apply zd))|intro _|split|dsimp only
theorem zt(t:TypeId):calm p (fun _=>True) (typeInfo t):=by
 unfold typeInfo
 repeat' first|(with_reducible (first|exact ze _|exact zf _|apply zJ))|intro _|split|dsimp only
theorem zi(t:TypeId):calm p (fun _=>True) (underlying t):=by
 unfold underlying
 repeat' first|(with_reducible (first|exact ze _|exact zf _|apply zJ))|intro _|split|dsimp only
theorem zv(t:TypeId):calm p (fun _=>True) (Go.sizeOf t):=by
 unfold Go.sizeOf
 repeat' first|(with_reducible (first|exact ze _|exact zt _|apply zd))|intro _|split|dsimp only
theorem calm_isAgg(t:TypeId):calm p (fun _=>True) (isAgg t):=by
 unfold isAgg
 repeat' first|(with_reducible (first|exact ze _|exact zi _|apply zd))|intro _|split|dsimp only
theorem zT(t:TypeId):calm p (fun _=>True) (zeroValue t):=by
 unfold zeroValue
 repeat' first|(with_reducible (first|exact ze _|exact zt _|apply zd))|(refine zg (fun g h=>?_);cases h)|intro _|split|dsimp only
theorem calm_typeStr(t:TypeId):calm p (fun _=>True) (typeStr t):=by
 unfold typeStr
 repeat' first|(with_reducible (first|exact ze _|exact zt _|apply zm|apply zd))|(refine zg (fun g h=>?_);cases h)|intro _|split|dsimp only
theorem calm_asIntOf(v:Value):calm p (fun _=>True) (asIntOf v):=by
 unfold asIntOf
 repeat' first|(with_reducible (first|exact ze _|exact zf _))|(refine zg (fun g h=>?_);cases h)|intro _|split|dsimp only
theorem zkb(v:Value):calm p (fun _=>True) (asInt v):=by
 unfold asInt
 repeat' first|(with_reducible (first|exact ze _|exact calm_asIntOf _|apply zd))|intro _|split|dsimp only
theorem calm_asBool(v:Value):calm p (fun _=>True) (asBool v):=by
 unfold asBool
 repeat' first|(with_reducible (first|exact ze _|exact zf _))|intro _|split|dsimp only
theorem calm_asAddr(v:Value):calm p (fun _=>True) (asAddr v):=by
 unfold asAddr
 repeat' first|(with_reducible (first|exact ze _|exact zf _|exact zj _))|intro _|split|dsimp only
theorem calm_boundsPanic{α:Type}{Q:α→Prop}(k:IntKind)(x y:Int)(code:BoundsCode):calm p Q (boundsPanic k x y code:Sem α):=by
 unfold boundsPanic
 repeat' first|(with_reducible (first|exact ze _|exact zC _|exact zj _|apply zm|apply calm_map|apply zd))|intro _|split|dsimp only
theorem calm_loadCellsFrom(a:Addr):∀(n i:Nat) (acc:Array Value),calm p (fun _=>True) (loadCellsFrom a i n acc)
 |0,i,acc=>trivial
 |n+1,i,acc=>by unfold loadCellsFrom;exact zd (calm_load _ _) fun v=>calm_loadCellsFrom a n (i+1) _
theorem calm_loadCells(a:Addr)(n:Nat):calm p (fun _=>True) (loadCells a n):=calm_loadCellsFrom a n 0 #[]
theorem calm_storeCells(a:Addr):∀(vs:List Value) (i:Nat),calm p (fun _=>True) (storeCells a vs i)
 | [],i=>by unfold storeCells;exact trivial
 |v::vs,i=>by unfold storeCells;exact zd (calm_store _ _ _) fun _=>calm_storeCells a vs (i+1)
theorem calm_loadVar(t:TypeId)(a:Addr):calm p (fun _=>True) (loadVar t a):=by
 unfold loadVar
 repeat' first|(with_reducible (first|exact ze _|exact calm_load _ _|exact zv _|exact calm_isAgg _|exact calm_loadCells _ _|apply zm|apply zd))|intro _|split|dsimp only
theorem calm_storeVar(t:TypeId)(a:Addr)(v:Value):calm p (fun _=>True) (storeVar t a v):=by
 unfold storeVar
 repeat' first|(with_reducible (first|exact zf _|exact zv _|exact calm_storeCells _ _ _|apply zm|apply zd))|intro _|split|dsimp only
theorem calm_newRow(t:TypeId)(c:Array Value):calm p (fun _=>True) (newRow t c):=by
 unfold newRow
 repeat' first|(with_reducible (first|exact ze _|exact calm_newRowObj _ _|apply zd))|intro _|split|dsimp only
theorem calm_newVar(t:TypeId)(v:Value):calm p (fun _=>True) (newVar t v):=by
 unfold newVar
 repeat' first|(with_reducible (first|exact calm_newRow _ _))|intro _|split|dsimp only
theorem zJa(t:TypeId)(c:Array Value)(o:Nat):calm p (fun _=>True) (part t c o):=by
 unfold part
 repeat' first|(with_reducible (first|exact ze _|exact zf _|exact zv _|exact calm_isAgg _|apply zm|apply zd))|intro _|split|dsimp only
theorem calm_numberAt(r:Nat):calm p (fun _=>True) (numberAt r):=by
 unfold numberAt
 repeat' first|(with_reducible (first|exact ze _|exact zra _|apply zpa|apply zm|apply zd))|(left;exact⟨fun _=>trivial,trivial⟩)|(right;intro o hb;cases o<;>first|exact hb.elim|rfl)|intro _|split|dsimp only
theorem calm_behindNumber(a:Addr):calm p (fun _=>True) (behindNumber a):=by
 unfold behindNumber
 repeat' first|(with_reducible (first|exact ze _|exact calm_numberAt _|apply zd))|intro _|split|dsimp only
theorem calm_asAgg(v:Value):calm p (fun _=>True) (asAgg v):=by
 unfold asAgg
 repeat' first|(with_reducible (first|exact ze _|exact zf _))|intro _|split|dsimp only
theorem calm_viewAt(r:Nat):calm p (fun _=>True) (viewAt r):=by
 unfold viewAt
 repeat' first|(with_reducible (first|exact ze _|exact zra _|apply zpa|apply zm|apply zd))|(left;exact⟨fun _=>trivial,trivial⟩)|(right;intro o hb;cases o<;>first|exact hb.elim|rfl)|intro _|split|dsimp only
theorem calm_noView(a:Addr):calm p (fun _=>True) (noView a):=by
 unfold noView
 repeat' first|(with_reducible (first|exact ze _|exact calm_viewAt _|apply zm|apply zd))|(refine zg (fun g h=>?_);cases h)|intro _|split|dsimp only
theorem calm_byteOf(a:Addr):calm p (fun _=>True) (byteOf a):=by
 unfold byteOf
 repeat' first|(with_reducible (first|exact ze _|exact zf _|exact zra _|exact calm_noView _|apply zJ|apply zm|apply zd))|intro _|split|dsimp only
theorem calm_partAt(a:Addr)(c b:Nat):calm p (fun _=>True) (partAt a c b):=by
 unfold partAt
 repeat' first|(with_reducible (first|exact ze _|exact calm_byteOf _|apply zd))|intro _|split|dsimp only
theorem calm_fieldPlace(a:Addr)(f:Field):calm p (fun _=>True) (fieldPlace a f):=by
 unfold fieldPlace
 repeat' first|(with_reducible (first|exact ze _|exact zv _|exact calm_partAt _ _ _|apply zm|apply zd))|intro _|split|dsimp only
theorem zwa(v:Value):calm p (fun _=>True) (Instr.sureAddr v):=by
 unfold Instr.sureAddr
 repeat' first|(with_reducible (first|exact ze _|exact zf _))|intro _|split|dsimp only
theorem calm_alloc(t:TypeId)(b:Bool)(v:Value):calm p (fun _=>True) (Instr.alloc t b v):=by
 unfold Instr.alloc
 repeat' first|(with_reducible (first|exact ze _|exact zT _|exact calm_storeVar _ _ _|exact calm_newVar _ _|apply zd))|intro _|split|dsimp only
theorem calm_box(t:TypeId)(v:Value):calm p (fun _=>True) (Instr.box t v):=by
 unfold Instr.box
 repeat' first|(with_reducible (first|exact ze _|exact calm_newVar _ _|apply zd))|intro _|split|dsimp only
theorem calm_loadAt(t:TypeId)(v:Value):calm p (fun _=>True) (Instr.loadAt t v):=by
 unfold Instr.loadAt
 repeat' first|(with_reducible (first|exact calm_loadVar _ _|exact zwa _|apply zd))|intro _|split|dsimp only
theorem calm_storeAt(t:TypeId)(v x:Value):calm p (fun _=>True) (Instr.storeAt t v x):=by
 unfold Instr.storeAt
 repeat' first|(with_reducible (first|exact calm_storeVar _ _ _|exact zwa _|apply zd))|intro _|split|dsimp only
theorem calm_fieldAt(t:TypeId)(v:Value)(i:Nat):calm p (fun _=>True) (Instr.fieldAt t v i):=by
 unfold Instr.fieldAt
 repeat' first|(with_reducible (first|exact ze _|exact zf _|exact zi _|exact calm_fieldPlace _ _|exact zwa _|apply zd))|intro _|split|dsimp only
theorem calm_indexAt(t:TypeId)(v x:Value):calm p (fun _=>True) (Instr.indexAt t v x):=by
 unfold Instr.indexAt
 repeat' first|(with_reducible (first|exact ze _|exact zf _|exact zi _|exact zv _|exact calm_asIntOf _|exact calm_boundsPanic _ _ _ _|exact zwa _|apply zm|apply zd))|(refine zg (fun g h=>?_);cases h)|intro _|split|dsimp only
theorem calm_sliceBound(x:Value)(y:Nat)(c:BoundsCode):calm p (fun _=>True) (Instr.sliceBound x y c):=by
 unfold Instr.sliceBound
 repeat' first|(with_reducible (first|exact ze _|exact calm_asIntOf _|exact calm_boundsPanic _ _ _ _|apply zm|apply zd))|intro _|split|dsimp only
theorem calm_sliceBounds(b:Bool)(l c:Nat)(x y z:Option Value):calm p (fun _=>True) (Instr.sliceBounds b l c x y z):=by
 unfold Instr.sliceBounds
 repeat' first|(with_reducible (first|exact ze _|exact zf _|exact calm_sliceBound _ _ _|apply zd))|intro _|split|dsimp only
theorem calm_slice(t:TypeId)(x:Value)(a b c:Option Value):calm p (fun _=>True) (Instr.slice t x a b c):=by
 unfold Instr.slice
 repeat' first|(with_reducible (first|exact ze _|exact zf _|exact zi _|exact zv _|exact calm_asAddr _|exact calm_sliceBounds _ _ _ _ _ _|apply zm|apply zd))|intro _|split|dsimp only
theorem calm_sliceAt(t:TypeId)(x:Value)(a b c:Option Value):calm p (fun _=>True) (Instr.sliceAt t x a b c):=by
 unfold Instr.sliceAt
 repeat' first|(with_reducible (first|exact ze _|exact zi _|exact zv _|exact zwa _|exact calm_sliceBounds _ _ _ _ _ _|exact calm_slice _ _ _ _ _|apply zd))|intro _|split|dsimp only
theorem calm_index(t:TypeId)(v x:Value):calm p (fun _=>True) (Instr.index t v x):=by
 unfold Instr.index
 repeat' first|(with_reducible (first|exact ze _|exact zf _|exact zi _|exact zv _|exact calm_asIntOf _|exact calm_boundsPanic _ _ _ _|exact zJa _ _ _|apply zm|apply zd))|intro _|split|dsimp only
theorem calm_field(t:TypeId)(v:Value)(i:Nat):calm p (fun _=>True) (Instr.field t v i):=by
 unfold Instr.field
 repeat' first|(with_reducible (first|exact zf _|exact zi _|exact zJa _ _ _|exact calm_asAgg _|apply zd))|intro _|split|dsimp only
theorem calm_extract(v:Value)(i:Nat):calm p (fun _=>True) (Instr.extract v i):=by
 unfold Instr.extract
 repeat' first|(with_reducible (first|exact ze _|exact zf _))|intro _|split|dsimp only
theorem calm_build(t:TypeId)(ps:Array (Nat×Value)):calm p (fun _=>True) (Instr.build t ps):=by
 unfold Instr.build
 repeat' first|(with_reducible (first|exact ze _|exact zf _|exact zi _|exact zv _|exact zT _|apply calm_mapM|apply zd))|intro _|split|dsimp only
theorem calm_buildSlice(t:TypeId)(n:Nat)(ps:Array (Nat×Value)):calm p (fun _=>True) (Instr.buildSlice t n ps):=by
 unfold Instr.buildSlice
 repeat' first|(with_reducible (first|exact ze _|exact zf _|exact zi _|exact zv _|exact zT _|exact calm_newRow _ _|apply zm|apply zd))|(refine zg (fun g h=>?_);cases h)|intro _|split|dsimp only
theorem calm_stringish(a:Addr):calm p (fun _=>True) (stringish a):=by
 unfold stringish
 repeat' first|(with_reducible (first|exact ze _|exact zra _|exact calm_frozen _|apply zm|apply zd))|intro _|split|dsimp only
theorem calm_mayBeOne(a b:Addr):calm p (fun _=>True) (mayBeOne a b):=by
 unfold mayBeOne
 repeat' first|(with_reducible (first|exact ze _|exact zra _|exact calm_stringish _|apply zd))|intro _|split|dsimp only
theorem calm_sameAddr(a b:Addr):calm p (fun _=>True) (sameAddr a b):=by
 unfold sameAddr
 repeat' first|(with_reducible (first|exact ze _|exact zC _|exact calm_frozen _|exact calm_noView _|exact calm_mayBeOne _ _|apply zm|apply zd))|(refine zg (fun g h=>?_);cases h)|intro _|split|dsimp only
theorem calm_samePointer(a b:Option Addr):calm p (fun _=>True) (samePointer a b):=by
 unfold samePointer
 repeat' first|(with_reducible (first|exact ze _|exact calm_sameAddr _ _))|intro _|split|dsimp only
theorem calm_equalIn:∀(d:Nat) (t:TypeId) (x y:Value),calm p (fun _=>True) (Op.equalIn d t x y)
 |0,t,x,y=>by unfold Op.equalIn;exact zg (fun g h=>by cases h)
 |d+1,t,x,y=>by
  have ih:∀ t x y,calm p (fun _=>True) (Op.equalIn d t x y):=calm_equalIn d;unfold Op.equalIn
  repeat' first|(with_reducible (first|exact ze _|exact zf _|exact zC _|exact zj _|exact zt _|exact zi _|exact zv _|exact calm_typeStr _|exact zJa _ _ _|exact calm_behindNumber _|exact calm_byteOf _|exact calm_sameAddr _ _|exact calm_samePointer _ _|exact ih _ _ _|apply zJ|apply calm_forIn_array|apply calm_forIn_range|apply zm|apply zd))|(refine zg (fun g h=>?_);cases h)|intro _|split|dsimp only
theorem calm_equal(t:TypeId)(x y:Value):calm p (fun _=>True) (Op.equal t x y):=by
 unfold Op.equal
 repeat' first|(with_reducible (first|exact calm_equalIn _ _ _ _))|intro _|split|dsimp only
theorem calm_eqGuardIn:∀(d:Nat) (t:TypeId) (x y:Value),calm p (fun _=>True) (Op.eqGuardIn d t x y)
 |0,t,x,y=>by unfold Op.eqGuardIn;exact zg (fun g h=>by cases h)
 |d+1,t,x,y=>by
  have ih:∀ t x y,calm p (fun _=>True) (Op.eqGuardIn d t x y):=calm_eqGuardIn d;unfold Op.eqGuardIn
  repeat' first|(with_reducible (first|exact ze _|exact zi _|exact zv _|exact zJa _ _ _|exact ih _ _ _|apply calm_forIn_array|apply calm_forIn_range|apply zm|apply zd))|(refine zg (fun g h=>?_);cases h)|intro _|split|dsimp only
theorem calm_eqGuard(o:BinOp)(t:TypeId)(x y:Operand)(a b:Value):calm p (fun _=>True) (eqGuard o t x y a b):=by
 unfold eqGuard
 repeat' first|(with_reducible (first|exact ze _|exact calm_eqGuardIn _ _ _ _|apply zJ|apply zm|apply zd))|(refine zg (fun g h=>?_);cases h)|intro _|split|dsimp only
theorem calm_intArith(o:BinOp)(k:IntKind)(x y:Int):calm p (fun _=>True) (Op.intArith o k x y):=by
 unfold Op.intArith
 repeat' first|(with_reducible (first|exact ze _|exact zf _))|intro _|split|dsimp only
theorem calm_intBits(o:BinOp)(k:IntKind)(x y:Int):calm p (fun _=>True) (Op.intBits o k x y):=by
 unfold Op.intBits
 repeat' first|(with_reducible (first|exact ze _|exact zf _))|intro _|split|dsimp only
theorem calm_intCmp(o:BinOp)(x y:Int):calm p (fun _=>True) (Op.intCmp o x y):=by
 unfold Op.intCmp
 repeat' first|(with_reducible (first|exact ze _|exact zf _))|intro _|split|dsimp only
theorem calm_intDiv(o:BinOp)(k:IntKind)(x y:Int):calm p (fun _=>True) (Op.intDiv o k x y):=by
 unfold Op.intDiv
 repeat' first|(with_reducible (first|exact ze _|exact zf _|exact zj _|apply zm))|intro _|split|dsimp only
theorem calm_shift(o:BinOp)(k:IntKind)(x:Int)(k2:IntKind)(y:Int):calm p (fun _=>True) (Op.shift o k x k2 y):=by
 unfold Op.shift
 repeat' first|(with_reducible (first|exact ze _|exact zf _|exact zj _|apply zm))|intro _|split|dsimp only
theorem calm_floatArith(o:BinOp)(k:FloatKind)(x y:Nat):calm p (fun _=>True) (Op.floatArith o k x y):=by
 unfold Op.floatArith
 repeat' first|(with_reducible (first|exact ze _|exact zf _|exact zC _|apply zd))|intro _|split|dsimp only
theorem calm_floatCmp(o:BinOp)(k:FloatKind)(x y:Nat):calm p (fun _=>True) (Op.floatCmp o k x y):=by
 unfold Op.floatCmp
 repeat' first|(with_reducible (first|exact ze _|exact zf _))|intro _|split|dsimp only
theorem calm_floatToFloat(k:FloatKind)(x:Nat)(k2:FloatKind):calm p (fun _=>True) (Conv.floatToFloat k x k2):=by
 unfold Conv.floatToFloat
 repeat' first|(with_reducible (first|exact ze _|exact zC _|apply zm|apply zd))|intro _|split|dsimp only
theorem zXa(o:BinOp)(k:FloatKind)(x y:Nat):calm p (fun _=>True) (Op.Complex.arith o k x y):=by
 unfold Op.Complex.arith
 repeat' first|(with_reducible (first|exact ze _|exact zf _|exact calm_floatArith _ _ _ _|apply zd))|intro _|split|dsimp only
theorem calm_ccmp(o:BinOp)(k:FloatKind)(x y:Nat):calm p (fun _=>True) (Op.Complex.cmp o k x y):=by
 unfold Op.Complex.cmp
 repeat' first|(with_reducible (first|exact calm_asBool _|exact calm_floatCmp _ _ _ _|apply zd))|intro _|split|dsimp only
theorem calm_cconv(k:FloatKind)(x:Nat)(k2:FloatKind):calm p (fun _=>True) (Op.Complex.conv k x k2):=by
 unfold Op.Complex.conv
 repeat' first|(with_reducible (first|exact ze _|exact zf _|exact calm_floatToFloat _ _ _|apply zm|apply zd))|intro _|split|dsimp only
theorem calm_cadd(x y:Nat):calm p (fun _=>True) (Op.Complex.add x y):=by
 unfold Op.Complex.add
 repeat' first|(with_reducible (first|exact zXa _ _ _ _))|intro _|split|dsimp only
theorem calm_csub(x y:Nat):calm p (fun _=>True) (Op.Complex.sub x y):=by
 unfold Op.Complex.sub
 repeat' first|(with_reducible (first|exact zXa _ _ _ _))|intro _|split|dsimp only
theorem calm_cmul(x y:Nat):calm p (fun _=>True) (Op.Complex.mul x y):=by
 unfold Op.Complex.mul
 repeat' first|(with_reducible (first|exact zXa _ _ _ _))|intro _|split|dsimp only
theorem calm_cquo(x y:Nat):calm p (fun _=>True) (Op.Complex.quo x y):=by
 unfold Op.Complex.quo
 repeat' first|(with_reducible (first|exact zXa _ _ _ _))|intro _|split|dsimp only
theorem calm_cproduct(a b c d:Nat):calm p (fun _=>True) (Op.Complex.product a b c d):=by
 unfold Op.Complex.product
 repeat' first|(with_reducible (first|exact ze _|exact calm_cadd _ _|exact calm_csub _ _|exact calm_cmul _ _|apply zd))|intro _|split|dsimp only
theorem calm_ccorrected(a b c d e:Nat):calm p (fun _=>True) (Op.Complex.corrected a b c d e):=by
 unfold Op.Complex.corrected
 repeat' first|(with_reducible (first|exact ze _|exact calm_cadd _ _|exact calm_csub _ _|exact calm_cmul _ _|apply zd))|intro _|split|dsimp only
theorem calm_cquotient(a b c d:Nat):calm p (fun _=>True) (Op.Complex.quotient a b c d):=by
 unfold Op.Complex.quotient
 repeat' first|(with_reducible (first|exact ze _|exact calm_ccmp _ _ _ _|exact calm_cadd _ _|exact calm_csub _ _|exact calm_cmul _ _|exact calm_cquo _ _|exact calm_ccorrected _ _ _ _ _|apply zm|apply zd))|intro _|split|dsimp only
theorem calm_complexOp(o:BinOp)(k:FloatKind)(a b c d:Nat):calm p (fun _=>True) (Op.complexOp o k a b c d):=by
 unfold Op.complexOp
 repeat' first|(with_reducible (first|exact ze _|exact zf _|exact zXa _ _ _ _|exact calm_ccmp _ _ _ _|exact calm_cconv _ _ _|exact calm_cproduct _ _ _ _|exact calm_cquotient _ _ _ _|apply zm|apply zd))|intro _|split|dsimp only
theorem calm_stringOp(o:BinOp)(x y:ByteArray):calm p (fun _=>True) (Op.stringOp o x y):=by
 unfold Op.stringOp
 repeat' first|(with_reducible (first|exact ze _|exact zf _|apply zm))|(refine zg (fun g h=>?_);cases h)|intro _|split|dsimp only
theorem calm_unsafeAdd(u:TypeId)(x y:Value):calm p (fun _=>True) (Builtin.unsafeAdd_ #[] u #[x,y]):=by
  unfold Builtin.unsafeAdd_;cases x<;>first
    |exact zf _
    | (refine zd (s:=asInt y) (zkb _) (fun n=>?_)
       dsimp only
       repeat' first|(with_reducible (first|exact ze _|exact zf _|exact zra _|exact zkb _|exact calm_viewAt _|apply zJ|apply zm|apply zd))|(refine zg (fun g h=>?_);cases h)|intro _|split|dsimp only)
theorem calm_asNumber(a:Addr)(l:Bool):calm p (fun _=>True) (asNumber a l):=by
 unfold asNumber
 repeat' first|(with_reducible (first|exact ze _|exact calm_newNumber _ _|apply zd))|intro _|split|dsimp only
theorem calm_movedNumber(t:TypeId)(x y:Value):calm p (fun _=>True) (movedNumber t x y):=by
 unfold movedNumber
 repeat' first|(with_reducible (first|exact ze _|exact zi _|exact calm_behindNumber _|exact calm_unsafeAdd _ _ _|exact calm_asNumber _ _|apply zm|apply zd))|(refine zg (fun g h=>?_);cases h)|intro _|split|dsimp only
theorem calm_movedPointer(t:TypeId)(x y:Value):calm p (fun _=>True) (movedPointer t x y):=by
 unfold movedPointer
 repeat' first|(with_reducible (first|exact calm_numberAt _|exact calm_unsafeAdd _ _ _|apply zm|apply zd))|(refine zg (fun g h=>?_);cases h)|intro _|split|dsimp only
theorem calm_twoPlaces(a b:Addr):calm p (fun _=>True) (Op.twoPlaces a b):=by
 unfold Op.twoPlaces
 repeat' first|(with_reducible (first|exact ze _|exact calm_byteOf _|apply zJ|apply zm|apply zd))|(refine zg (fun g h=>?_);cases h)|intro _|split|dsimp only
theorem calm_addrSub(k:IntKind)(a b:Addr):calm p (fun _=>True) (Op.addrSub k a b):=by
 unfold Op.addrSub
 repeat' first|(with_reducible (first|exact ze _|exact calm_twoPlaces _ _|apply zd))|intro _|split|dsimp only
theorem calm_addrCmp(o:BinOp)(a b:Addr):calm p (fun _=>True) (Op.addrCmp o a b):=by
 unfold Op.addrCmp
 repeat' first|(with_reducible (first|exact ze _|exact calm_twoPlaces _ _|apply zd))|(refine zg (fun g h=>?_);cases h)|intro _|split|dsimp only
theorem calm_addrMod(k:IntKind)(a:Addr)(n:Int):calm p (fun _=>True) (Op.addrMod k a n):=by
 unfold Op.addrMod
 repeat' first|(with_reducible (first|exact ze _|exact zra _|exact zt _|exact calm_byteOf _|apply zm|apply zd))|(refine zg (fun g h=>?_);cases h)|intro _|split|dsimp only
theorem calm_binOp(o:BinOp)(t:TypeId)(x y:Value):calm p (fun _=>True) (binOp o t x y):=by
 unfold binOp
 repeat' first|(with_reducible (first|exact ze _|exact zf _|exact zi _|exact calm_behindNumber _|exact calm_equal _ _ _|exact calm_intArith _ _ _ _|exact calm_intBits _ _ _ _|exact calm_intCmp _ _ _|exact calm_intDiv _ _ _ _|exact calm_shift _ _ _ _ _|exact calm_floatArith _ _ _ _|exact calm_floatCmp _ _ _ _|exact calm_complexOp _ _ _ _ _ _|exact calm_stringOp _ _ _|exact calm_movedNumber _ _ _|exact calm_movedPointer _ _ _|exact calm_addrSub _ _ _|exact calm_addrCmp _ _ _|exact calm_addrMod _ _ _|apply zm|apply zd))|(refine zg (fun g h=>?_);cases h)|intro _|split|dsimp only
theorem calm_unary(o:UnOp)(x:Value):calm p (fun _=>True) (Op.unary o x):=by
 unfold Op.unary
 repeat' first|(with_reducible (first|exact ze _|exact zf _|exact calm_intArith _ _ _ _|exact calm_intBits _ _ _ _))|(refine zg (fun g h=>?_);cases h)|intro _|split|dsimp only
theorem calm_makeFunc(f:Fn)(a b:Array Value):calm p (fun _=>True) (Instr.makeFunc f a b):=by
 unfold Instr.makeFunc
 repeat' first|(with_reducible (first|exact ze _))|intro _|split|dsimp only
theorem calm_holdsCells(a:Addr)(n:Nat):calm p (fun _=>True) (Builtin.holdsCells a n):=by
 unfold Builtin.holdsCells
 repeat' first|(with_reducible (first|exact ze _|exact zra _|apply zd))|intro _|split|dsimp only
theorem calm_mayShare(s l n:Nat)(b:Option Addr)(x:Value):calm p (fun _=>True) (Builtin.mayShare s l n b x):=by
 unfold Builtin.mayShare
 repeat' first|(with_reducible (first|exact ze _|exact calm_frozen _|exact calm_holdsCells _ _|apply zm|apply zd))|intro _|split|dsimp only
theorem calm_lenOf(x:Value):calm p (fun _=>True) (Builtin.lenOf x):=by
 unfold Builtin.lenOf
 repeat' first|(with_reducible (first|exact ze _|exact zf _))|intro _|split|dsimp only
theorem calm_firstCells(s n:Nat)(x:Value):calm p (fun _=>True) (Builtin.firstCells s n x):=by
 unfold Builtin.firstCells
 repeat' first|(with_reducible (first|exact ze _|exact zf _|exact calm_loadCells _ _))|intro _|split|dsimp only
end
end
section
section
variable {p:Program}
theorem calm_append(t:Array TypeId)(u:TypeId)(vs:Array Value):calm p (fun _=>True) (Builtin.append_ t u vs):=by
 unfold Builtin.append_;split
 ·refine zd (zi _) fun d=>?_
  split
  ·split
   ·refine zd (zv _) fun sz=>?_
    extract_lets -underBinder +onlyGivenNames j1
    have hj1:∀ b,calm p (fun _=>True) (j1 b):=by
     intro zeros;unfold j1
     extract_lets -underBinder +onlyGivenNames j2
     have hj2:∀ b,calm p (fun _=>True) (j2 b):=by
      intro n;unfold j2
      extract_lets -underBinder +onlyGivenNames app need
      have happ:calm p (fun _=>True) app:=zm (fun _=>calm_firstCells _ _ _) (fun _=>zm (fun _=>ze _) (fun _=>zd (zT _) fun _=>ze _))
      clear_value app need
      refine zm (fun _=>?_) (fun _=>?_)
      ·refine zd happ fun new=>?_
       extract_lets -underBinder +onlyGivenNames j3
       have hj3:∀ b,calm p (fun _=>True) (j3 b):=fun _=>ze _
       clear_value j3
       split
       ·exact zd (calm_storeCells _ _ _) fun _=>hj3 _
       ·exact hj3 _
      ·refine zd (zt _) fun ti=>?_
       extract_lets -underBinder +onlyGivenNames j3
       have hj3:∀ b,calm p (fun _=>True) (j3 b):=by
        intro _;unfold j3;refine zd (zt _) fun ti2=>?_
        extract_lets -underBinder +onlyGivenNames j4
        have hj4:∀ b,calm p (fun _=>True) (j4 b):=by
         intro _;unfold j4;refine zd (zC _) fun nc=>zd (zt _) fun _=>zd (calm_askRoom _) fun _=>zd (calm_firstCells _ _ _) fun _=>zd happ fun _=>zd (zT _) fun _=>?_
         exact zd (calm_newRow _ _) fun _=>ze _
        clear_value j4
        refine zm (fun _=>zd ?_ fun _=>hj4 _) (fun _=>hj4 _);refine zm (fun _=>zj _) (fun _=>zd (calm_mayShare _ _ _ _ _) fun _=>?_)
        extract_lets -underBinder +onlyGivenNames j5
        have hj5:∀ b,calm p (fun _=>True) (j5 b):=fun _=>zg (fun g h=>by cases h)
        clear_value j5
        exact zm (fun _=>zd calm_noRoom fun _=>hj5 _) (fun _=>hj5 _)
       clear_value j3
       exact zm (fun _=>zd (zj _) fun _=>hj3 _) (fun _=>hj3 _)
     clear_value j2
     refine zm (fun _=>?_) (fun _=>zd (calm_lenOf _) fun _=>hj2 _);refine zd (zkb _) fun _=>?_
     extract_lets -underBinder +onlyGivenNames l j3
     have hj3:∀ b,calm p (fun _=>True) (j3 b):=by
      intro _;unfold j3;refine zd (zt _) fun _=>?_
      extract_lets -underBinder +onlyGivenNames j4
      have hj4:∀ b,calm p (fun _=>True) (j4 b):=fun _=>zd (ze _) fun _=>hj2 _
      clear_value j4
      exact zm (fun _=>zd (zC _) fun _=>zd (zj _) fun _=>hj4 _) (fun _=>hj4 _)
     clear_value j3
     exact zm (fun _=>zd (zj _) fun _=>hj3 _) (fun _=>hj3 _)
    clear_value j1
    split
    ·exact zd (zi _) fun _=>zd (ze _) fun _=>hj1 _
    ·exact zd (ze _) fun _=>hj1 _
   ·exact zf _
  ·exact zf _
 ·exact zf _
theorem calm_len(t:Array TypeId)(u:TypeId)(vs:Array Value):calm p (fun _=>True) (Builtin.len_ t u vs):=by
 unfold Builtin.len_
 repeat' first|(with_reducible (first|exact ze _|exact zf _|exact zi _|apply zpa|apply zd))|(left;exact⟨fun _=>trivial,trivial⟩)|(right;intro o hb;cases o<;>first|exact hb.elim|rfl)|intro _|split|dsimp only
theorem calm_cap(t:Array TypeId)(u:TypeId)(vs:Array Value):calm p (fun _=>True) (Builtin.cap_ t u vs):=by
 unfold Builtin.cap_
 repeat' first|(with_reducible (first|exact ze _|exact zf _|exact zi _|apply zpa|apply zd))|(left;exact⟨fun _=>trivial,trivial⟩)|(right;intro o hb;cases o<;>first|exact hb.elim|rfl)|intro _|split|dsimp only
theorem calm_max2(x y:Value):calm p (fun _=>True) (Builtin.max2 x y):=by
 unfold Builtin.max2
 repeat' first|(with_reducible (first|exact ze _|exact zf _|exact zC _|exact calm_asBool _|exact calm_stringOp _ _ _|apply zd))|(refine zg (fun g h=>?_);cases h)|intro _|split|dsimp only
theorem calm_max(t:Array TypeId)(u:TypeId)(vs:Array Value):calm p (fun _=>True) (Builtin.max_ t u vs):=by
 unfold Builtin.max_
 repeat' first|(with_reducible (first|exact zf _|exact calm_max2 _ _|apply calm_foldlM))|intro _|split|dsimp only
theorem calm_min2(x y:Value):calm p (fun _=>True) (Builtin.min2 x y):=by
 unfold Builtin.min2
 repeat' first|(with_reducible (first|exact ze _|exact zf _|exact zC _|exact calm_asBool _|exact calm_stringOp _ _ _|apply zd))|(refine zg (fun g h=>?_);cases h)|intro _|split|dsimp only
theorem calm_min(t:Array TypeId)(u:TypeId)(vs:Array Value):calm p (fun _=>True) (Builtin.min_ t u vs):=by
 unfold Builtin.min_
 repeat' first|(with_reducible (first|exact zf _|exact calm_min2 _ _|apply calm_foldlM))|intro _|split|dsimp only
theorem calm_copy(t:Array TypeId)(u:TypeId)(vs:Array Value):calm p (fun _=>True) (Builtin.copy_ t u vs):=by
 unfold Builtin.copy_
 repeat' first|(with_reducible (first|exact ze _|exact zf _|exact zi _|exact zv _|exact calm_storeCells _ _ _|exact calm_lenOf _|exact calm_firstCells _ _ _|apply zd))|intro _|split|dsimp only
theorem calm_wrapNil(t:Array TypeId)(u:TypeId)(x:Value)(a b:String):calm p (fun _=>True) (Builtin.ssaWrapNilChk_ t u #[x,strVal a,strVal b]):=by
 unfold Builtin.ssaWrapNilChk_ strVal;cases x with
 |pointer q=>
  cases q with
  |some q=>exact ze (Value.pointer (some q))
  |none=>
   refine zd (zC _) (fun n=>?_);dsimp only
   repeat' first|(with_reducible (first|exact ze _|exact zf _|exact zC _|exact zj _|exact zt _|exact zi _|apply zm|apply zd))|(refine zg (fun g h=>?_);cases h)|intro _|split|dsimp only
 |_=>exact zf _
theorem calm_Place_get(t:TypeId)(x:Place):calm p (fun _=>True) (Place.get t x):=by
 unfold Place.get
 repeat' first|(with_reducible (first|exact ze _|exact calm_loadVar _ _))|intro _|split|dsimp only
theorem calm_follow:∀(l:List FieldStep) (t:TypeId) (x:Place),calm p (fun _=>True) (follow l t x)
 | [],t,x=>by unfold follow;exact ze _
 |s::rest,t,x=>by
  have ih:∀ t x,calm p (fun _=>True) (follow rest t x):=calm_follow rest;unfold follow
  repeat' first|(with_reducible (first|exact ze _|exact zf _|exact zi _|exact calm_asAddr _|exact zJa _ _ _|exact calm_fieldPlace _ _|exact calm_Place_get _ _|exact ih _ _|apply zm|apply zd))|intro _|split|dsimp only
theorem calm_receiverAt(t:TypeId)(x:Place)(b:Bool)(w:Option String):calm p (fun _=>True) (receiverAt t x b w):=by
 unfold receiverAt
 repeat' first|(with_reducible (first|exact ze _|exact zf _|exact zi _|exact calm_asAddr _|exact calm_loadVar _ _|exact calm_wrapNil _ _ _ _ _|exact calm_Place_get _ _|apply zd))|intro _|split|dsimp only
theorem calm_receiverVia(t:TypeId)(v:Value)(q:Array FieldStep)(b:Bool):calm p (fun _=>True) (receiverVia t v q b):=by
 unfold receiverVia
 repeat' first|(with_reducible (first|exact calm_follow _ _ _|exact calm_receiverAt _ _ _ _|apply zd))|intro _|split|dsimp only
theorem calm_method:∀(d:Nat) (t:TypeId) (v:Value) (n:String),calm p (fun _=>True) (method d t v n)
 |0,t,v,n=>by unfold method;exact zg (fun g h=>by cases h)
 |d+1,t,v,n=>by
  have ih:∀ t v n,calm p (fun _=>True) (method d t v n):=calm_method d;unfold method
  repeat' first|(with_reducible (first|exact ze _|exact zf _|exact zj _|exact zt _|exact calm_Place_get _ _|exact calm_follow _ _ _|exact calm_receiverAt _ _ _ _|exact ih _ _ _|apply zd))|(refine zg (fun g h=>?_);cases h)|intro _|split|dsimp only
theorem calm_followBlind:∀(l:List FieldStep) (t:TypeId) (x:Option Value),calm p (fun _=>True) (followBlind l t x)
 | [],t,x=>by unfold followBlind;exact ze _
 |s::rest,t,x=>by
  have ih:∀ t x,calm p (fun _=>True) (followBlind rest t x):=calm_followBlind rest;unfold followBlind
  repeat' first|(with_reducible (first|exact ze _|exact zf _|exact zi _|exact zJa _ _ _|exact ih _ _|apply zd))|intro _|split|dsimp only
theorem calm_nilAhead:∀(d:Nat) (t:TypeId) (v:Value) (n:String),calm p (fun _=>True) (nilAhead d t v n)
 |0,t,v,n=>by unfold nilAhead;exact ze _
 |d+1,t,v,n=>by
  have ih:∀ t v n,calm p (fun _=>True) (nilAhead d t v n):=calm_nilAhead d;unfold nilAhead
  repeat' first|(with_reducible (first|exact ze _|exact zf _|exact zt _|exact zi _|exact calm_followBlind _ _ _|exact ih _ _ _|apply zd))|intro _|split|dsimp only
end
end
section
variable {p:Program}
theorem calm_intToInt(k:IntKind)(n:Int):calm p (fun _=>True) (Conv.intToInt k n):=by unfold Conv.intToInt;exact ze _
theorem calm_floatToInt(s:FloatKind)(b:Nat)(k:IntKind):calm p (fun _=>True) (Conv.floatToInt s b k):=by
 unfold Conv.floatToInt
 repeat' first|(with_reducible (first|exact ze _|exact zf _|exact zC _|apply zm|apply zd))|(refine zg (fun g h=>?_);cases h)|intro _|split|dsimp only|exact trivial
theorem calm_under(t:TypeId):calm p (fun d=>p.underlying t=some d) (underlying t):=by
 unfold underlying;apply zJ;cases h:p.underlying t with
 |none=>exact zf _
 |some d=>exact(rfl:some d=some d)
def convOk(p:Program)(s d:TypeId):Bool:=match p.underlying s,p.underlying d with
 |some (.int _),some (.int _)=>true
 |_,_=>false
theorem calm_convertInt{s d:TypeId}(h:convOk p s d=true)(x:Value):calm p (fun _=>True) (convert s d x):=by
 unfold convOk at h;split at h
 ·next k1 k2 h1 h2=>
  unfold convert;refine calm_bind (calm_under s) fun d1 e1=>?_
  rw[h1] at e1;cases e1;refine calm_bind (calm_under d) fun d2 e2=>?_
  rw[h2] at e2;cases e2;cases x with
  |int k n=>exact calm_intToInt _ _
  |float k b=>exact calm_floatToInt _ _ _
  |pointer a=>
   cases a with
   |none=>exact zg (fun g h=>by cases h)
   |some a=>exact zg (fun g h=>by cases h)
  |_=>exact zg (fun g h=>by cases h)
 ·cases h
def zlb:Builtin→Bool
 |.append|.cap|.copy|.len|.max|.min=>true
 |_=>false
def opOk(p:Program)(o:Op):Bool:=
 match o with
 |.move _|.assign _|.pick _ _ _|.alloc _|.box _ _|.build _ _|.buildSlice _ _ _|.makeSlice _ _ _|.load _ _|.store _ _ _|.nilCheck _|.binOp _ _ _ _ _|.unOp _ _ _|.makeFunc _ _ _
 |.slice _ _ _ _ _|.fieldAddr _ _ _|.field _ _ _|.indexAddr _ _ _|.index _ _ _|.extract _ _|.makeMap _ _|.lookup _ _ _ _|.mapUpdate _ _ _ _|.panic _|.makeInterface _ _=>true
 |.call c=>match c.callee with
  |.builtin b=>zlb b
  |.value _=>true
  |.invoke _ _=>false
 |.convert s d _=>convOk p s d
 |_=>false
def codeOk(p:Program):Code→Bool
 |.skip|.label _|.exit _|.ret=>true
 |.seq a b|.cond _ a b|.rangeFunc _ _ a b=>codeOk p a&&codeOk p b
 |.block _ c|.loop c|.scope c=>codeOk p c
 |.region _ ops _=>ops.toList.all fun o=>opOk p o.op
 |_=>false
def itemOk(p:Program):Item→Bool
 |.code c|.inLoop c|.inScope c=>codeOk p c
 |.inBlock _|.inRangeFunc _|.endRangeFunc _|.beginRound=>true
 |.inRegion ops _=>ops.toList.all fun o=>opOk p o.op
 |_=>false
theorem calm_makeSlice(t:TypeId)(x y:Value):calm p (fun _=>True) (Instr.makeSlice t x y):=by
 unfold Instr.makeSlice
 repeat' first|(with_reducible (first|exact ze _|exact zf _|exact zj _|exact zC _|exact zi _|exact zt _|exact zkb _|exact zv _|exact zT _|exact calm_newRow _ _|exact calm_askRoom _|apply zm|apply zd))|(refine zg (fun g h=>?_);cases h)|intro _|split|dsimp only
end
section
section
variable {p:Program}{B:Floor}{w v:World}{F:FuncId→Prop}
def zka(p:Program)(F:FuncId→Prop)(l:Loop):Prop:=F l.fn∧codeOk p l.assign=true∧codeOk p l.body=true∧∀ c,l.pending=some c→codeOk p c=true
def zla(p:Program)(F:FuncId→Prop):Next→Prop
 |.value _|.skip=>True
 |.enter f _=>F f
 |.round _ f _ a b=>F f∧codeOk p a=true∧codeOk p b=true
 |_=>False
theorem Par.bind{α β:Type}{Q:α→Prop}{R:β→Prop}{s:Sem α}{f:α→Sem β}{es:Array Event}
  (h:Par B Q (s.runT p v es) (s.runT p w es)) (hf:∀ a v1 w1 es1,s.runT p v es=(.ok a v1,es1)→Q a→OkEvs es1→Twin B w1 v1→Par B R ((f a).runT p v1 es1) ((f a).runT p w1 es1)) :
  Par B R ((s >>= f).runT p v es) ((s >>= f).runT p w es):=by
 show Par B R ((s.bind f).runT p v es) ((s.bind f).runT p w es);rw[Sem.runT_bind',Sem.runT_bind'];unfold Par at h;cases hr:s.runT p v es with
 |mk r es1=>
  rw[hr] at h;cases r with
  |ok a v1=>obtain⟨hq,he,w1,e1,ht⟩:=h;rw[e1];exact hf a v1 w1 es1 hr hq he ht
  |halt x v1=>exact h
theorem zq{α:Type}{Q:α→Prop}{s:Sem α}{es:Array Event}(hs:calm p Q s)(ht:Twin B w v)(he:OkEvs es):Par B Q (s.runT p v es) (s.runT p w es):=calm_run s w v es hs ht he
def FnIn(p:Program)(f:FuncId):Prop:=∃ fn,p.funcs[f]? = some fn∧(fn.name == "runtime.NumGoroutine")=false∧fn.body.isNone=false
theorem calm_callFunc{f:FuncId}(hf:FnIn p f)(hF:F f)(args:Array Value):calm p (zla p F) (callFunc f args):=by obtain⟨fn,h1,h2,h3⟩:=hf;unfold callFunc;refine zJ ?_;rw[h1];dsimp only;rw[h2,h3];exact hF
theorem par_callMethod{F:FuncId→Prop}(hF:∀ f,F f→FnIn p f){recv:Value}{name:String}{args:Array Value}{es:Array Event}(ht:Twin B w v)(he:OkEvs es)
  (hab:∀ u x f r v1,recv=.iface u x→(method (p.types.size+Made.depth) u x name).run p v=.ok (f,r) v1→F f):Par B (zla p F) ((callMethod recv name args).runT p v es) ((callMethod recv name args).runT p w es):=by
 unfold callMethod;cases recv with
 |iface u x=>
  dsimp only;refine Par.bind (Q:=fun q=>q=p) (zq (by exact rfl) ht he) fun q v1 w1 es1 h0 hq he1 ht1=>?_
  have e0:(program.runT p v es:Result Program×Array Event)=(.ok p v,es):=rfl;rw[e0] at h0;cases h0;refine Par.bind (zq (calm_method _ _ _ _) ht1 he1) fun a v2 w2 es2 h2 _ he2 ht2=>?_
  obtain⟨f,r⟩:=a;have hf:F f:=hab u x f r v2 rfl (by have:=Sem.runT_fst p (method (p.types.size+Made.depth) u x name) v es;rw[h2] at this;exact this.symm);exact zq (calm_callFunc (hF f hf) hf _) ht2 he2
 |nilIface=>exact zq (zj _) ht he
 |_=>exact zq (zf _) ht he
theorem calm_builtin{b:Builtin}(hb:zlb b=true)(ats:Array TypeId)(t:TypeId)(cs:Array Bool)(args:Array Value):calm p (zla p F) (builtin b ats t cs args):=by
 have key:∀ s:Sem Value,calm p (fun _=>True) s→calm p (zla p F) (do pure (.value (←s)):Sem Next):=fun s hs=>zd hs fun a=>trivial
 cases b<;>first
  |exact absurd hb (by decide)
  |exact key _ (calm_append _ _ _)
  |exact key _ (calm_cap _ _ _)
  |exact key _ (calm_copy _ _ _)
  |exact key _ (calm_len _ _ _)
  |exact key _ (calm_max _ _ _)
  |exact key _ (calm_min _ _ _)
theorem zSa{l:Nat}{es:Array Event}(ht:Twin B w v)(he:OkEvs es):Par B B.good ((Instr.getLoop l).runT p v es) ((Instr.getLoop l).runT p w es):=by
 have e0:∀ x:World,(Instr.getLoop l).runT p x es=(match x.heap[l]? with
   |some (.cells ..)=>(.halt (.stuck "getObj: a row of cells") x,es)
   |some (.loop r)=>(.ok r x,es.push ⟨.obj l,false,false⟩)
   |some o=>(.halt (.stuck "range over a function: no such loop") x,es.push ⟨.obj l,false,o.isChan⟩)
   |none=>(.halt (.stuck "getObj: no such block") x,es)):=by
  intro x;show(Sem.getObj l _).runT p x es=_;simp only[Sem.runT];cases h:x.heap[l]? with
  |none=>rfl
  |some o=>cases o<;>rfl
 rw[e0,e0];rcases ht.at_ l with e|⟨o,hb,e1,e2,eB⟩
 ·rw[e];cases hv:v.heap[l]? with
  |none=>exact⟨(trivial:zma (.stuck _)),ht.clean⟩
  |some o=>
   cases o with
   |loop r=>obtain⟨l',e',hg⟩:=ht.ok _ _ hv trivial;cases e';exact⟨hg,he.push trivial,w,rfl,ht⟩
   |_=>exact⟨(trivial:zma (.stuck _)),ht.clean⟩
 ·rw[e2];exact⟨(trivial:zma (.stuck _)),ht.clean⟩
theorem par_setLoop{l:Nat}{r:Loop}{es:Array Event}(hg:B.good r)(ht:Twin B w v)(he:OkEvs es):Par B (fun _=>True) ((setObj l (.loop r)).runT p v es) ((setObj l (.loop r)).runT p w es):=by
 have h1:bad (.loop r)→∃ l,Obj.loop r=.loop l∧B.good l:=fun _=>⟨r,rfl,hg⟩
 have h2:Obj.loop r≠.coro none:=fun e=>by cases e
 simp only[setObj,Sem.runT];cases hv:v.heap[l]? with
 |none=>simp only[];exact⟨trivial,ht.clean⟩
 |some o'=>
  rcases ht.at_ l with e|⟨o'',hb,e1,e2,eB⟩
  ·rw[e,hv];cases o'<;>first
    |exact⟨(trivial:zma (.stuck _)),ht.clean⟩
    |exact⟨trivial,he.push trivial,_,rfl,ht.replace h1 h2⟩
  ·rw[hv] at e2;cases e2;rw[e1];cases o''<;>first
    |exact hb.elim
    |exact⟨trivial,he.push trivial,_,rfl,ht.replace h1 h2⟩
theorem par_yield(hB:∀ l,B.good l→zka p F l){l:Nat}{args:Array Value}{es:Array Event}(ht:Twin B w v)(he:OkEvs es):Par B (zla p F) ((Instr.yield l args).runT p v es) ((Instr.yield l args).runT p w es):=by
 unfold Instr.yield;refine Par.bind (zSa ht he) fun r v1 w1 es1 _ hg he1 ht1=>?_
 refine zq ?_ ht1 he1;obtain⟨h1,h2,h3,_⟩:=hB r hg;dsimp only;split
 ·exact(trivial:zma (.stuck _))
 ·exact(⟨h1,h2,h3⟩:F r.fn∧_∧_)
theorem par_invoke(hB:∀ l,B.good l→zka p F l)(hF:∀ f,F f→FnIn p f){t:Target}{args:Array Value}{es:Array Event}(ht:Twin B w v)(he:OkEvs es)
  (hb:∀ b x y z,t=.builtin b x y z→zlb b=true) (hc:∀ c,t≠.coroexit c)
  (hab:∀ f,t.leads p v args=some f→F f):Par B (zla p F) ((invoke t args).runT p v es) ((invoke t args).runT p w es):=by
 unfold invoke;cases t with
 |nil=>exact zq (zj _) ht he
 |builtin b x y z=>exact zq (calm_builtin (hb b x y z rfl) _ _ _ _) ht he
 |collected c=>exact zq (zf _) ht he
 |coroexit c=>exact absurd rfl (hc c)
 |fn f captured=>
  cases f with
  |func f=>exact zq (calm_callFunc (hF f (hab f rfl)) (hab f rfl) _) ht he
  |method name=>
   dsimp only;cases h0:args[0]? with
   |none=>exact zq (zf _) ht he
   |some recv=>
    refine par_callMethod hF ht he fun u x f r v1 e h=>hab f ?_
    subst e;simp only[Target.leads,h0,h]
  |methodOf t name=>
   dsimp only;cases h0:args[0]? with
   |none=>exact zq (zf _) ht he
   |some receiver=>
    dsimp only;refine Par.bind (Q:=fun _=>True) (zq (zi _) ht he) fun d v1 w1 es1 h1 _ he1 ht1=>?_
    have hd:p.underlying t=some d∧v1=v:=by
     have e0:(underlying t).runT p v es=(match p.underlying t with
      |some d=>(.ok d v,es)
      |none=>(.halt (.stuck "no such type") v,es)):=by
      show((program >>= fun q=>match q.underlying t with|some d=>pure d|none=>stuck "no such type" : Sem TypeDesc)).runT p v es=_;show((match p.underlying t with|some d=>pure d|none=>stuck "no such type" : Sem TypeDesc)).runT p v es=_;cases p.underlying t<;>rfl
     rw[e0] at h1;cases hu:p.underlying t with
     |none=>rw[hu] at h1;cases h1
     |some d'=>rw[hu] at h1;cases h1;exact⟨rfl,rfl⟩
    obtain⟨hd,rfl⟩:=hd;refine par_callMethod hF ht1 he1 fun u x f r v2 e h=>hab f ?_
    cases d<;>first
     |(dsimp only at e;cases e;simp only[Target.leads,h0,hd,Option.map_some,h])
     |(dsimp only at e;subst e;simp only[Target.leads,h0,hd,Option.map_some,h])
  |via t path f pointer=>
   dsimp only;cases h0:args[0]? with
   |none=>exact zq (zf _) ht he
   |some x=>
    refine Par.bind (Q:=fun _=>True) (zq (calm_receiverVia _ _ _ _) ht he) fun d v1 w1 es1 h1 _ he1 ht1=>?_
    exact zq (calm_callFunc (hF f (hab f rfl)) (hab f rfl) _) ht1 he1
  |yield l=>exact par_yield hB ht he
end
end
section
variable {p:Program}
theorem calm_setMap(r:Nat)(es:Array MapEntry)(c:Nat):calm p (fun _=>True) (setObj r (.map es c)):=⟨trivial,trivial⟩
theorem calm_makeMap(t:TypeId)(r:Option Value):calm p (fun _=>True) (Instr.makeMap t r):=by
 have hn:calm p (fun _=>True) (do pure (Value.map (some (←newObj (.map #[] 0)))):Sem Value):=⟨id,(fun h=>by cases h),fun _=>trivial⟩;unfold Instr.makeMap;cases r with
 |none=>exact hn
 |some x=>
  refine zd (zi _) fun d=>?_
  dsimp only;split
  ·exact zd (zkb _) fun _=>hn
  ·exact trivial
theorem calm_checkKey(b:Bool):∀(n:Nat) (t:TypeId) (x:Value),calm p (fun _=>True) (Instr.checkKey b n t x)
 |0,_,_=>by unfold Instr.checkKey;exact zg (fun g h=>by cases h)
 |n+1,t,x=>by
  have ih:=calm_checkKey b n;unfold Instr.checkKey;refine zd (zi _) fun d=>?_
  try dsimp only
  split
  ·refine zd (zt _) fun info=>?_
   try dsimp only
   repeat' first|(with_reducible (first|exact ze _|exact zf _|exact ih _ _|exact zj _|apply zm|apply zd))|intro _|split|dsimp only|exact calm_typeStr _
  ·refine zd (calm_forIn_range (fun i c=>?_) _ _) fun _=>trivial
   repeat' first|(with_reducible (first|exact ze _|exact ih _ _|exact zv _|exact zJa _ _ _|apply zd))|intro _|split|dsimp only
  ·refine zd (calm_forIn_array (fun i c=>?_) _ _) fun _=>trivial
   repeat' first|(with_reducible (first|exact ze _|exact ih _ _|exact zv _|exact zJa _ _ _|apply zm|apply zd))|intro _|split|dsimp only
  ·exact trivial
  ·exact zf _
  ·exact zf _
  ·exact zf _
  ·exact trivial
theorem calm_findAsking(t:TypeId)(k:Value):∀(es:List MapEntry) (i:Nat),calm p (fun _=>True) (Instr.findAsking t k es i)
 | [],_=>trivial
 |e::es,i=>by
  unfold Instr.findAsking;refine zd (calm_equal _ _ _) fun b=>?_
  try dsimp only
  split
  ·exact trivial
  ·exact calm_findAsking t k es (i+1)
theorem calm_findKey(t:TypeId)(k:Value)(es:List MapEntry):calm p (fun _=>True) (Instr.findKey t k es):=by
 unfold Instr.findKey;refine zd (zi _) fun d=>?_
 try dsimp only
 split
 ·exact trivial
 ·exact calm_findAsking _ _ _ _
theorem calm_keyThatStays(a b:Value):calm p (fun _=>True) (Instr.keyThatStays a b):=by
 unfold Instr.keyThatStays;split
 ·exact trivial
 ·exact zd (zC _) fun _=>trivial
theorem calm_lookup(t:TypeId)(x y:Value)(c:Bool):calm p (fun _=>True) (Instr.lookup t x y c):=by
 unfold Instr.lookup;refine zd (zi _) fun d=>?_
 try dsimp only
 split
 case h_2=>exact trivial
 case h_1 key elem=>
  have fin:∀ es:Array MapEntry,calm p (fun _=>True) (do
    Instr.checkKey es.isEmpty 10000 key y
    let(v,ok) ←match ←Instr.findKey key y es.toList with
     |some (_,v)=>pure (v,true)
     |none=>pure (←zeroValue elem,false)
    pure (if c then .tuple #[v,.bool ok] else v):Sem Value):=by
   intro es;refine zd (calm_checkKey _ _ _ _) fun _=>zd (calm_findKey _ _ _) fun r=>?_
   repeat' first|(with_reducible (first|exact ze _|exact zT _|apply zd))|intro _|split|dsimp only|exact trivial
  cases x with
  |map r=>
   cases r with
   |none=>exact fin #[]
   |some r=>refine zpa ?_ (.inl ⟨fun _=>trivial,trivial⟩);intro o ho;cases o<;>first|exact trivial|exact fin _
  |_=>exact trivial
theorem calm_mapUpdate(t:TypeId)(m k x:Value):calm p (fun _=>True) (Instr.mapUpdate t m k x):=by
  unfold Instr.mapUpdate;refine zd (zi _) fun d=>?_
  try dsimp only
  split
  case h_2=>exact trivial
  case h_1 key elem=>
    cases m with
    |map r=>
      cases r with
      |none=>exact zj _
      |some r=>
        refine zpa ?_ (.inl ⟨fun _=>trivial,trivial⟩);intro o ho;cases o<;>first
          |exact trivial
          | (refine zd (calm_checkKey _ _ _ _) fun _=>zd (calm_findKey _ _ _) fun r=>?_
             cases r with
             |none=>exact calm_setMap _ _ _
             |some ix=>exact zd (calm_keyThatStays _ _) fun _=>calm_setMap _ _ _)
    |_=>exact trivial
theorem calm_makeInterface(t:TypeId)(x:Value):calm p (fun _=>True) (Instr.makeInterface t x):=by
 unfold Instr.makeInterface
 repeat' first|(with_reducible (first|exact ze _|exact zf _|exact zi _|exact zt _|apply zm|apply zd))|intro _|split|dsimp only
def dies(p:Program){α:Type}(Q:α→Prop):Sem α→Prop
 |.pure a=>Q a
 |.new o k=>¬ bad o∧∀ r,dies p Q (k r)
 |.sys _ k=>∀ r,dies p Q (k r)
 |.program k=>dies p Q (k p)
 |.halt h=>zma h
 |_=>False
theorem zjb{α β:Type}{Q:α→Prop}{R:β→Prop}{f:α→Sem β}(hf:∀ a,Q a→dies p R (f a)):∀(s:Sem α),dies p Q s→dies p R (s.bind f)
 |.pure a,h=>hf a h
 |.new o k,h=>⟨h.1,fun r=>zjb hf (k r) (h.2 r)⟩
 |.sys c k,h=>fun r=>zjb hf (k r) (h r)
 |.program k,h=>zjb hf (k p) h
 |.halt x,h=>h
 |.load _ _ _,h=>h.elim
 |.store _ _ _ _,h=>h.elim
 |.shape _ _,h=>h.elim
 |.freeze _ _ _,h=>h.elim
 |.frozen _ _,h=>h.elim
 |.getObj _ _,h=>h.elim
 |.setObj _ _ _,h=>h.elim
 |.choose _ _,h=>h.elim
 |.mark _ _,h=>h.elim
theorem dies_bind{α β:Type}{R:β→Prop}{s:Sem α}{f:α→Sem β}(hs:dies p (fun _=>True) s)(hf:∀ a,dies p R (f a)):dies p R (s >>= f):=zjb (fun a _=>hf a) s hs
theorem ask_heap{α:Type}:∀(x:Ask α) (w:World),(w.ask x).2.heap=w.heap
 |.done a,w=>by simp only[World.ask]
 |.ask q r k,w=>by
  simp only[World.ask];split
  ·exact ask_heap _ w
  ·exact(ask_heap _ _).trans rfl
theorem sys_heap(w:World)(c:Sys):(w.sys c).2.heap=w.heap:=by
 unfold World.sys;have h:=ask_heap (Kernel.perform c w.os) w;split
 ·rfl
 ·next e=>rw[e] at h;exact h
theorem dies_run{α:Type}:∀(s:Sem α) (w:World) (es:Array Event),dies p (fun _=>False) s→zza w→∃ h w' es',s.runT p w es=(.halt h w',es')∧zma h∧zza w'
 |.pure a,_,_,h,_=>h.elim
 |.new o k,w,es,h,hc=>by simp only[Sem.runT];exact dies_run (k _) _ _ (h.2 _) (hc.push h.1)
 |.sys c k,w,es,h,hc=>by simp only[Sem.runT];exact dies_run (k _) _ _ (h _) (fun i a l=>by rw[sys_heap];exact hc i a l)
 |.program k,w,es,h,hc=>by simp only[Sem.runT];exact dies_run (k p) _ _ h hc
 |.halt x,w,es,h,hc=>⟨x,w,es,rfl,h,hc⟩
 |.load _ _ _,_,_,h,_=>h.elim
 |.store _ _ _ _,_,_,h,_=>h.elim
 |.shape _ _,_,_,h,_=>h.elim
 |.freeze _ _ _,_,_,h,_=>h.elim
 |.frozen _ _,_,_,h,_=>h.elim
 |.getObj _ _,_,_,h,_=>h.elim
 |.setObj _ _ _,_,_,h,_=>h.elim
 |.choose _ _,_,_,h,_=>h.elim
 |.mark _ _,_,_,h,_=>h.elim
theorem dies_program{α:Type}{Q:α→Prop}{f:Program→Sem α}(h:dies p Q (f p)):dies p Q (program >>= f):=h
theorem dies_runtimePanic{α:Type}{Q:α→Prop}(e:RuntimeError):dies p Q (runtimePanic e:Sem α):=by
 unfold runtimePanic elemOf underlying newVar newRow
 repeat' first|(with_reducible (first|apply dies_program|apply dies_bind))|exact trivial|exact⟨id,fun _=>trivial⟩|(intro _;exact trivial)|intro _|split|dsimp only
theorem dies_panic(x:Value):dies p (fun _=>False) (Instr.panic x):=by
  unfold Instr.panic;cases x with
  |iface t y=>exact(trivial:zma (.panic _))
  |nilIface=>
    intro r;cases r<;>first
      |exact(trivial:zma (.stuck _))
      | (refine dies_program ?_
         generalize Instr.readSettings _ _ _=z;show dies p (fun _=>False) (if(z==1)=true then goPanic Value.nilIface else runtimePanic RuntimeError.panicNil)
         first
           | (split
              · exact(trivial:zma (.panic _))
              · exact dies_runtimePanic _))
  |_=>exact(trivial:zma (.stuck _))
end
section
section
variable {p:Program}{B:Floor}{w v:World}{F:FuncId→Prop}
theorem zw{s:Sem Value}(hs:calm p (fun _=>True) s):calm p (zla p F) (do pure (.value (←s)):Sem Next):=zd hs fun a=>trivial
theorem calm_skip{s:Sem Unit}(hs:calm p (fun _=>True) s):calm p (zla p F) (do s;pure .skip:Sem Next):=zd hs fun a=>trivial
theorem calm_exec{ρ:Operand→Value}{o:Oper}(ho:opOk p o.op=true)(hn:∀ c,o.op≠.call c)(hp:∀ x,o.op≠.panic x):calm p (zla p F) (execOp ρ o):=by
 unfold execOp;cases h:o.op with
 |move x=>exact(trivial:zla p F (.value _))
 |assign x=>exact(trivial:zla p F (.value _))
 |pick c a b=>exact zd (calm_asBool _) fun b=>by cases b<;>exact(trivial:zla p F (.value _))
 |alloc t=>exact zw (calm_alloc _ _ _)
 |box t x=>exact zw (calm_box _ _)
 |build t ps=>exact zw (calm_build _ _)
 |buildSlice t n ps=>exact zw (calm_buildSlice _ _ _)
 |makeSlice t x y=>exact zw (calm_makeSlice _ _ _)
 |load t a=>exact zw (calm_loadAt _ _)
 |store t a x=>exact calm_skip (calm_storeAt _ _ _)
 |nilCheck x=>
  dsimp only;split
  ·exact zj _
  ·exact zj _
  ·exact zj _
  ·split
   ·exact zj _
   ·refine zJ (zd (calm_nilAhead _ _ _ _) fun r=>?_);split
    ·exact zd (zg (fun g h=>by cases h)) fun _=>(trivial:zla p F (.value _))
    ·exact(trivial:zla p F (.value _))
   ·exact(trivial:zla p F (.value _))
  ·exact(trivial:zla p F (.value _))
 |binOp op t x y q=>exact zw (zd (calm_eqGuard _ _ _ _ _ _) fun _=>calm_binOp _ _ _ _)
 |unOp op t x=>exact zw (calm_unary _ _)
 |makeFunc f a b=>exact zw (calm_makeFunc _ _ _)
 |slice t x a b c=>exact zw (calm_sliceAt _ _ _ _ _)
 |fieldAddr t x f=>exact zw (calm_fieldAt _ _ _)
 |field t x f=>exact zw (calm_field _ _ _)
 |indexAddr t x i=>exact zw (calm_indexAt _ _ _)
 |index t x i=>exact zw (calm_index _ _ _)
 |extract t i=>exact zw (calm_extract _ _)
 |convert s d x=>exact zw (calm_convertInt (by rw[h] at ho;simpa only[opOk] using ho) _)
 |makeMap t r=>exact zw (calm_makeMap _ _)
 |lookup t x i c=>exact zw (calm_lookup _ _ _ _)
 |mapUpdate t m k x=>exact calm_skip (calm_mapUpdate _ _ _ _)
 |makeInterface t x=>exact zw (calm_makeInterface _ _)
 |panic x=>exact absurd h (hp x)
 |call c=>exact absurd h (hn c)
 |_=>rw[h] at ho;exact absurd ho (by simp[opOk])
theorem par_exec(hB:∀ l,B.good l→zka p F l)(hF:∀ f,F f→FnIn p f){ρ:Operand→Value}{o:Oper}(ho:opOk p o.op=true){es:Array Event}(ht:Twin B w v)(he:OkEvs es)
  (hab:∀ c d v1 f,o.op=.call c→(resolve ρ c o.type).run p v=.ok d v1→d.target.leads p v1 d.args=some f→F f):Par B (zla p F) ((execOp ρ o).runT p v es) ((execOp ρ o).runT p w es):=by
 by_cases hn:∃ c,o.op=.call c
 case neg=>
  by_cases hp:∃ x,o.op=.panic x
  ·obtain⟨x,hx⟩:=hp;have e:execOp ρ o=(Instr.panic (ρ x) >>= fun a=>pure (.value a)):=by unfold execOp;rw[hx]
   obtain⟨h,w',es',h1,h2⟩:=dies_run (p:=p) _ v es (zjb (R:=fun _=>False) (f:=fun a=>pure (Next.value a)) (fun a h=>h.elim) _ (dies_panic (p:=p) (ρ x))) ht.clean;rw[e];show Par B _ ((Sem.bind _ _).runT p v es) _;rw[h1];exact h2
  ·exact zq (calm_exec ho (fun c h=>hn ⟨c,h⟩) fun x h=>hp ⟨x,h⟩) ht he
 case pos=>
  obtain⟨c,hc⟩:=hn;rw[hc] at ho;have e:execOp ρ o=(do let d ←resolve ρ c o.type;invoke d.target d.args):=by unfold execOp;rw[hc]
  rw[e];have fin:∀ d:Deferred,resolve ρ c o.type=pure d→(∀ b x y z,d.target=.builtin b x y z→zlb b=true)→(∀ k,d.target≠.coroexit k) →
    Par B (zla p F) ((do let d ←resolve ρ c o.type;invoke d.target d.args:Sem Next).runT p v es) ((do let d ←resolve ρ c o.type;invoke d.target d.args:Sem Next).runT p w es):=by
   intro d er h1 h2;have hr:(resolve ρ c o.type).run p v=.ok d v:=by rw[er];rfl
   rw[er,pure_bind];exact par_invoke hB hF ht he h1 h2 fun f h=>hab c d v f hc hr h
  cases hcal:c.callee with
  |builtin b=>
   have hb:zlb b=true:=by simpa[opOk,hcal] using ho
   exact fin {target:=.builtin b c.argTypes o.type (c.args.map fun|.const _=>true|_=>false),args:=c.args.map ρ} (by unfold resolve;rw[hcal];rfl) (fun b' x y z h=>by cases h;exact hb) (fun _ h=>by cases h)
  |value x=>
   have er:resolve ρ c o.type=Deferred.ofValue (ρ x) (c.args.map ρ):=by unfold resolve;rw[hcal]
   cases hx:ρ x with
   |func fn first captured=>exact fin {target:=.fn fn captured,args:=first++c.args.map ρ} (by rw[er,hx];rfl) (fun b' x y z h=>by cases h) (fun _ h=>by cases h)
   |nilFunc=>exact fin {target:=.nil,args:=c.args.map ρ} (by rw[er,hx];rfl) (fun b' x y z h=>by cases h) (fun _ h=>by cases h)
   |_=>
    obtain⟨m,er2⟩:∃ m:String,resolve ρ c o.type=stuck m:=by rw[er,hx];exact⟨_,rfl⟩
    rw[er2];exact⟨(trivial:zma (.stuck _)),ht.clean⟩
  |invoke x n=>simp[opOk,hcal] at ho
theorem par_callValue(hB:∀ l,B.good l→zka p F l)(hF:∀ f,F f→FnIn p f){ρ:Operand→Value}{x:Operand}{as:Array Operand}{es:Array Event}(ht:Twin B w v)(he:OkEvs es)
  (hab:∀ d v1 f,(resolve ρ {callee:=.value x,args:=as,argTypes:=#[]} 0).run p v=.ok d v1→d.target.leads p v1 d.args=some f→F f) :
  Par B (zla p F) ((do let d ←resolve ρ {callee:=.value x,args:=as,argTypes:=#[]} 0;invoke d.target d.args:Sem Next).runT p v es) ((do let d ←resolve ρ {callee:=.value x,args:=as,argTypes:=#[]} 0;invoke d.target d.args:Sem Next).runT p w es):=by
 have er:resolve ρ {callee:=.value x,args:=as,argTypes:=#[]} 0=Deferred.ofValue (ρ x) (as.map ρ):=by unfold resolve;rfl
 have fin:∀ d:Deferred,Deferred.ofValue (ρ x) (as.map ρ)=pure d→(∀ b x y z,d.target=.builtin b x y z→zlb b=true)→(∀ k,d.target≠.coroexit k) →
   Par B (zla p F) ((do let d ←Deferred.ofValue (ρ x) (as.map ρ);invoke d.target d.args:Sem Next).runT p v es) ((do let d ←Deferred.ofValue (ρ x) (as.map ρ);invoke d.target d.args:Sem Next).runT p w es):=by
  intro d e1 h1 h2;have hr:(resolve ρ {callee:=.value x,args:=as,argTypes:=#[]} 0).run p v=.ok d v:=by rw[er,e1];rfl
  rw[e1,pure_bind];exact par_invoke hB hF ht he h1 h2 fun f h=>hab d v f hr h
 rw[er];cases hx:ρ x with
 |func fn first captured=>rw[←hx];exact fin {target:=.fn fn captured,args:=first++as.map ρ} (by rw[hx];rfl) (fun b' x y z h=>by cases h) (fun _ h=>by cases h)
 |nilFunc=>rw[←hx];exact fin {target:=.nil,args:=as.map ρ} (by rw[hx];rfl) (fun b' x y z h=>by cases h) (fun _ h=>by cases h)
 |_=>
  obtain⟨m,er2⟩:∃ m:String,Deferred.ofValue (ρ x) (as.map ρ)=stuck m:=by rw[hx];exact⟨_,rfl⟩
  rw[←hx,er2];exact⟨(trivial:zma (.stuck _)),ht.clean⟩
end
end
end Go.Cx
