/- Ground of proofs about package arrow: it says nothing by itself, without a condition. -/
import Derived.Test.YtpdmgecbapmgdaaGreatCx0
import GoSem.Step
set_option linter.unusedSimpArgs false
set_option linter.unusedVariables false
namespace Go.Cx
section
variable {p:Tab}{f:Inj}{K Mi Sh:Loc→Prop}{h h':AHeap}{w:World}
theorem Old.row(hr:HRel f K Mi h w)(vs:List Value)(ex:Nat)(x:Base):Old f h (f.put h.next x) (h.row vs ex):=by
 refine⟨Nat.le_succ _,fun b e hl=>?_,rfl,rfl,rfl⟩;obtain⟨c,y,hb⟩:=hl;have hne:b≠h.next:=by have:=hr.wf.lt b _ hb;omega
 exact⟨by rw[Inj.put_ne _ _ hne];exact e,T.get_set_ne _ _ hne⟩
theorem zQb(hr:HRel f K Mi h w)(x:Base):f.le (f.put h.next x):=Inj.le_put (hr.next_none (Nat.le_refl _))
theorem newRow_sound(hr:HRel f (fun l=>Mi l∨Sh l) Mi h w)(P:Program)(e:TypeId){vs:List Value}{rc:Array Value}(hv:VsRel f vs rc.toList)(ex:Nat) :
  ∃ w',(newRow e rc).run P w=.ok ⟨w.heap.size,0,none⟩ w'∧(∀ es,(newRow e rc).events P w es=es) ∧
   Did Mi Sh w w' #[] (fun l=>Mi l∨NewIn w.heap.size (w.heap.size+1) l) ∧
   HRel (f.put h.next ⟨w.heap.size,0,ex,rc.size⟩) (fun l=>(Mi l∨NewIn w.heap.size (w.heap.size+1) l)∨Sh l) (fun l=>Mi l∨NewIn w.heap.size (w.heap.size+1) l) (h.row vs ex) w':=by
 refine⟨zF w (.cells rc e (0,0)),rfl,fun _=>rfl,did_pushed _ _ _ _,(row_rel hr e ex hv).grow (fun l h=>?_) fun _ h=>h⟩;rcases h with(h|h)|h
 ·exact .inl (.inl h)
 ·exact .inr h
 ·exact .inl (.inr h)
theorem alloc_sound(hp:TabOk p)(hr:HRel f (fun l=>Mi l∨Sh l) Mi h w){t:TypeId}{v:Value}(ho:oAlloc p h t=some (v,h')) :
  After p.prog f Mi Sh h w (Instr.alloc t true (.tuple #[])) v h':=by
 unfold oAlloc at ho;cases ez:p.zero t with
 |none=>rw[ez] at ho;cases ho
 |some z=>
  rw[ez] at ho;cases ho;have hz:=(zB (f:=f) _ _ (zaa ez).1).cells;obtain⟨w',r1,r2,r3,r4⟩:=newRow_sound hr p.prog t hz 0;refine⟨.pointer (some ⟨w.heap.size,0,none⟩),w',_,_,?_,zQb hr _,?_,?_,r4,.row hr _ _ _⟩
  ·simp only[Instr.alloc,Sem.run_bind,zk hp w ez,Result.andThen_ok,newVar,r1,Sem.run_pure]
  ·exact .ptr (Inj.put_same _ _ _)
  ·have:(Instr.alloc t true (.tuple #[])).events p.prog w #[]=#[]:=by simp only[Instr.alloc,Sem.events_bind,zk hp w ez,events_zeroValue,Result.evThen_ok,newVar,r1,r2,Sem.events_pure]
   rw[this];exact r3
theorem box_sound(hr:HRel f (fun l=>Mi l∨Sh l) Mi h w){t:TypeId}{v v' r:Value}(hv:VRel f v v')(ho:oBox h v=some (r,h')) :
  After p.prog f Mi Sh h w (Instr.box t v') r h':=by
 cases ho;obtain⟨w',r1,r2,r3,r4⟩:=newRow_sound hr p.prog t hv.cells 0;refine⟨.pointer (some ⟨w.heap.size,0,none⟩),w',_,_,?_,zQb hr _,.ptr (Inj.put_same _ _ _),?_,r4,.row hr _ _ _⟩
 ·simp only[Instr.box,Sem.run_bind,newVar,r1,Result.andThen_ok,Sem.run_pure]
 ·have:(Instr.box t v').events p.prog w #[]=#[]:=by simp only[Instr.box,Sem.events_bind,newVar,r1,r2,Result.evThen_ok,Sem.events_pure]
  rw[this];exact r3
theorem fieldAt_sound(hp:TabOk p)(hr:HRel f (fun l=>Mi l∨Sh l) Mi h w){s:TypeId}{a a' v:Value}{i:Nat}(ha:VRel f a a')(ho:oFieldAddr p h s a i=some (v,h')) :
  After p.prog f Mi Sh h w (Instr.fieldAt s a' i) v h':=by
 cases ha with
 |ptr hb=>
  rename_i b off x;simp only[oFieldAddr] at ho;split at ho
  ·next b' off' fs e1 e2=>
   simp only[Value.pointer.injEq,Option.some.injEq,Addr.mk.injEq,and_true] at e1;obtain⟨rfl,rfl⟩:=e1;cases e3:fs.toList[i]? with
   |none=>rw[e3] at ho;cases ho
   |some fd=>
    rw[e3] at ho;simp only[] at ho;split at ho
    ·next n e4=>
     cases ho;have e3':fs[i]? = some fd:=by simpa using e3
     refine zr hr (v':=.pointer (some ⟨x.blk,x.off+(off+fd.offset),none⟩)) (fun es=>⟨?_,?_⟩) (.ptr hb)
     ·simp only[Instr.fieldAt,Sem.run_bind,zb hp w e2,Result.andThen_ok,e3',Instr.sureAddr,Sem.run_pure,fieldPlace,zh hp w e4,Nat.succ_ne_zero,if_false,add_plain];simp[Nat.add_assoc]
     ·simp only[Instr.fieldAt,Sem.events_bind,Sem.run_bind,zb hp w e2,events_underlying,Result.andThen_ok,Result.evThen_ok,e3',Instr.sureAddr,Sem.run_pure,Sem.events_pure,fieldPlace,zh hp w e4,events_sizeOf,Nat.succ_ne_zero,if_false,add_plain]
    ·cases ho
  ·cases ho
 |_=>simp[oFieldAddr] at ho
theorem indexAt_sound(hp:TabOk p)(hr:HRel f (fun l=>Mi l∨Sh l) Mi h w){t:TypeId}{a a' i i' v:Value}(ha:VRel f a a')(hi:VRel f i i')(ho:oIndexAddr p h t a i=some (v,h')) :
  After p.prog f Mi Sh h w (Instr.indexAt t a' i') v h':=by
 cases hi with
 |int k n=>
  cases n with
  |negSucc n=>simp[oIndexAddr] at ho
  |ofNat n=>
   simp only[oIndexAddr] at ho;split at ho
   ·next len e b off e1=>
    cases ha with
    |ptr hb=>
     rename_i x;split at ho
     ·next s e2 e3=>
      cases ho;have hlt:n<len:=Nat.lt_of_succ_le (by simpa[Nat.blt] using e2);have hlt':(0:Int)≤Int.ofNat n∧Int.ofNat n<(len:Int):=⟨Int.natCast_nonneg n,by show(n:Int)<(len:Int);exact_mod_cast hlt⟩;refine zr hr (v':=.pointer (some ⟨x.blk,x.off+(off+n*s),none⟩)) (fun es=>⟨?_,?_⟩) (.ptr hb)
      ·simp only[Instr.indexAt,Sem.run_bind,asIntOf,Sem.run_pure,Result.andThen_ok,zb hp w e1,Instr.sureAddr,if_pos hlt',zh hp w e3,Int.toNat_natCast,Int.ofNat_eq_natCast,add_plain];simp[Nat.add_assoc,zh hp w e3,hlt,add_plain]
      ·simp only[Instr.indexAt,Sem.events_bind,Sem.run_bind,asIntOf,Sem.run_pure,Sem.events_pure,Result.andThen_ok,Result.evThen_ok,zb hp w e1,events_underlying,Instr.sureAddr,if_pos hlt',zh hp w e3,events_sizeOf]
     ·cases ho
    |_=>simp_all
   ·next e b off len cap e1=>
    cases ha with
    |slice hb hc he hu=>
     rename_i x;split at ho
     ·next s e2 e3=>
      cases ho;have hlt:n<len:=Nat.lt_of_succ_le (by simpa[Nat.blt] using e2);have hlt':(0:Int)≤Int.ofNat n∧Int.ofNat n<(len:Int):=⟨Int.natCast_nonneg n,by show(n:Int)<(len:Int);exact_mod_cast hlt⟩;refine zr hr (v':=.pointer (some ⟨x.blk,x.off+(off+n*s),none⟩)) (fun es=>⟨?_,?_⟩) (.ptr hb)
      ·simp only[Instr.indexAt,Sem.run_bind,asIntOf,Sem.run_pure,Result.andThen_ok,zb hp w e1,if_pos hlt',zh hp w e3,Int.toNat_natCast,Int.ofNat_eq_natCast,add_plain];simp[Nat.add_assoc,zh hp w e3,hlt,add_plain]
      ·simp only[Instr.indexAt,Sem.events_bind,Sem.run_bind,asIntOf,Sem.run_pure,Sem.events_pure,Result.andThen_ok,Result.evThen_ok,zb hp w e1,events_underlying,if_pos hlt',zh hp w e3,events_sizeOf]
     ·cases ho
    |_=>simp_all
   ·cases ho
 |_=>simp[oIndexAddr] at ho
theorem part_sound(hp:TabOk p){t:TypeId}{cs cs':Array Value}{off:Nat}{v:Value}(hv:VsRel f cs.toList cs'.toList)(ho:oPart p t cs.toList off=some v) :
  ∃ v',VRel f v v'∧∀(w:World) (es:Array Event),(part t cs' off).run p.prog w=.ok v' w∧(part t cs' off).events p.prog w es=es:=by
 unfold oPart at ho;split at ho
 ·next n e1 e2=>
  cases ho;refine⟨.agg (cs'.extract off (off+n)),.agg ?_,fun w es=>⟨?_,?_⟩⟩
  ·have:=(hv.drop off).take n;simpa[Array.toList_extract,List.extract] using this
  ·simp only[part,Sem.run_bind,zQ hp w e1,Result.andThen_ok,if_true,zh hp w e2,Sem.run_pure]
  ·simp only[part,Sem.events_bind,zQ hp w e1,events_isAgg,Result.evThen_ok,if_true,zh hp w e2,events_sizeOf,Sem.events_pure]
 ·next sz e1=>
  obtain⟨v',h1,h2⟩:=hv.get off ho;have h1':cs'[off]? = some v':=by simpa using h1
  refine⟨v',h2,fun w es=>⟨?_,?_⟩⟩
  ·simp only[part,Sem.run_bind,zQ hp w e1,Result.andThen_ok,Bool.false_eq_true,if_false,h1',Sem.run_pure]
  ·simp only[part,Sem.events_bind,zQ hp w e1,events_isAgg,Result.evThen_ok,Bool.false_eq_true,if_false,h1',Sem.events_pure]
 ·cases ho
theorem field_sound(hp:TabOk p)(hr:HRel f (fun l=>Mi l∨Sh l) Mi h w){t:TypeId}{a a' v:Value}{i:Nat}(ha:VRel f a a')(ho:oField p h t a i=some (v,h')) :
  After p.prog f Mi Sh h w (Instr.field t a' i) v h':=by
 cases ha with
 |agg hv=>
  rename_i cs cs';simp only[oField] at ho;split at ho
  ·next cs0 fs e1 e2=>
   cases e1;cases e3:fs.toList[i]? with
   |none=>rw[e3] at ho;cases ho
   |some fd=>
    rw[e3] at ho;simp only[] at ho;cases e4:oPart p fd.type cs.toList fd.offset with
    |none=>rw[e4] at ho;cases ho
    |some r=>
     rw[e4] at ho;cases ho;have e3':fs[i]? = some fd:=by simpa using e3
     obtain⟨v',k1,k2⟩:=part_sound hp hv e4;refine zr hr (v':=v') (fun es=>⟨?_,?_⟩) k1
     ·simp only[Instr.field,Sem.run_bind,zb hp w e2,Result.andThen_ok,e3',asAgg,Sem.run_pure,(k2 w es).1]
     ·simp only[Instr.field,Sem.events_bind,zb hp w e2,events_underlying,Result.evThen_ok,e3',asAgg,Sem.run_pure,Sem.events_pure,(k2 w es).2]
  ·cases ho
 |_=>simp[oField] at ho
theorem index_sound(hp:TabOk p)(hr:HRel f (fun l=>Mi l∨Sh l) Mi h w){t:TypeId}{a a' i i' v:Value}(ha:VRel f a a')(hi:VRel f i i')(ho:oIndex p h t a i=some (v,h')) :
  After p.prog f Mi Sh h w (Instr.index t a' i') v h':=by
 cases hi with
 |int k n=>
  cases n with
  |negSucc n=>simp[oIndex] at ho
  |ofNat n=>
   simp only[oIndex] at ho;split at ho
   ·next cs len e e1=>
    cases ha with
    |agg hv=>
     split at ho
     ·next s e2 e3=>
      cases e4:oPart p e cs.toList (Nat.mul n s) with
      |none=>rw[e4] at ho;cases ho
      |some r=>
       rw[e4] at ho;cases ho;have hlt:n<len:=Nat.lt_of_succ_le (by simpa[Nat.blt] using e2);have hlt':(0:Int)≤Int.ofNat n∧Int.ofNat n<(len:Int):=⟨Int.natCast_nonneg n,by show(n:Int)<(len:Int);exact_mod_cast hlt⟩;obtain⟨v',k1,k2⟩:=part_sound hp hv e4;have k2':∀(w:World) (es:Array Event),(part e _ (n*s)).run p.prog w=.ok v' w∧(part e _ (n*s)).events p.prog w es=es:=k2;refine zr hr (v':=v') (fun es=>⟨?_,?_⟩) k1
       ·simp only[Instr.index,Sem.run_bind,asIntOf,Sem.run_pure,Result.andThen_ok,zb hp w e1,if_pos hlt',zh hp w e3];exact(k2' w es).1
       ·simp only[Instr.index,Sem.events_bind,asIntOf,Sem.run_pure,Sem.events_pure,Result.evThen_ok,zb hp w e1,events_underlying,if_pos hlt',zh hp w e3,events_sizeOf];exact(k2' w es).2
     ·cases ho
   ·next s e1=>
    cases ha with
    |string s=>
     cases e2:s[n]? with
     |none=>rw[e2] at ho;cases ho
     |some b=>
      rw[e2] at ho;cases ho;refine zr hr (v':=.int .u8 b.toNat) (fun es=>⟨?_,?_⟩) (.int _ _)
      ·simp only[Instr.index,Sem.run_bind,asIntOf,Sem.run_pure,Result.andThen_ok,zb hp w e1];simp[e2]
      ·simp only[Instr.index,Sem.events_bind,asIntOf,Sem.run_pure,Sem.events_pure,Result.evThen_ok,zb hp w e1,events_underlying];simp[e2]
   ·cases ho
 |_=>simp[oIndex] at ho
theorem extract_sound(hr:HRel f (fun l=>Mi l∨Sh l) Mi h w){a a' v:Value}{i:Nat}(ha:VRel f a a')(ho:oExtract h a i=some (v,h')) :
  After p.prog f Mi Sh h w (Instr.extract a' i) v h':=by
 cases ha with
 |tuple hv=>
  rename_i vs vs';simp only[oExtract] at ho;cases e:vs.toList[i]? with
  |none=>rw[e] at ho;cases ho
  |some r=>
   rw[e] at ho;cases ho;obtain⟨v',h1,h2⟩:=hv.get i e;have h1':vs'[i]? = some v':=by simpa using h1
   exact zr hr (v':=v') (fun es=>⟨by simp only[Instr.extract,h1',Sem.run_pure],by simp only[Instr.extract,h1',Sem.events_pure]⟩) h2
 |_=>simp[oExtract] at ho
theorem makeFunc_sound(hr:HRel f (fun l=>Mi l∨Sh l) Mi h w){fn:Fn}{a c:List Value}{a' c':Array Value}{v:Value}(ha:VsRel f a a'.toList)(hc:VsRel f c c'.toList)(ho:oMakeFunc h fn a c=some (v,h')) :
  After p.prog f Mi Sh h w (Instr.makeFunc fn a' c') v h':=by
 unfold oMakeFunc at ho;cases e:plainFn fn with
 |false=>rw[e] at ho;cases ho
 |true=>rw[e] at ho;cases ho;exact zr hr (v':=.func fn a' c') (fun es=>⟨rfl,rfl⟩) (.func e (by simpa using ha) (by simpa using hc))
theorem equal_nil(hp:TabOk p){t:TypeId}{d:TypeDesc}{a a' b b':Value}(hd:p.desc t=some d)(ha:VRel f a a')(hb:VRel f b b')(ho:znc d a b=true)(w:World)(es:Array Event) :
  (Op.equal t a' b').run p.prog w=.ok false w∧(Op.equal t a' b').events p.prog w es=es:=by
 have e:Op.equal t a' b'=Op.equalIn (9999+1) t a' b':=rfl;rw[e];generalize 9999=n;unfold Op.equalIn;simp only[Sem.run_bind,Sem.events_bind,zb hp w hd,events_underlying,Result.andThen_ok,Result.evThen_ok];unfold znc at ho;split at ho<;>first
  |(cases ho;done)
  |(cases ha<;>cases hb<;>exact⟨rfl,rfl⟩)
theorem oneNil_sound(hp:TabOk p){t:TypeId}{d:TypeDesc}{a a' b b':Value}(hd:p.desc t=some d)(ha:VRel f a a')(hb:VRel f b b')(ho:znc d a b=true)(op:BinOp)(x y:Operand)(hop:op=.eql∨op=.neq)(w:World)(es:Array Event) :
  (do eqGuard op t x y a' b';binOp op t a' b':Sem Value).run p.prog w=.ok (.bool (op==.neq)) w∧(do eqGuard op t x y a' b';binOp op t a' b':Sem Value).events p.prog w es=es:=by
 have key:=equal_nil hp hd ha hb ho w;have hg:∀ es,(eqGuard op t x y a' b').run p.prog w=.ok () w∧(eqGuard op t x y a' b').events p.prog w es=es:=by
  intro es;unfold eqGuard;unfold znc at ho;split at ho<;>first
   |(cases ho;done)
   |(cases ha<;>cases hb<;>rcases hop with rfl|rfl<;>exact⟨rfl,rfl⟩)
 have hb2:binOp op t a' b'=(do let r ←Op.equal t a' b';pure (.bool (if op==.neq then !r else r))):=by
  unfold znc at ho;split at ho<;>first
   |(cases ho;done)
   |(cases ha<;>cases hb<;>rcases hop with rfl|rfl<;>rfl)
 rw[hb2];rcases hop with rfl|rfl
 ·refine⟨?_,?_⟩
  ·simp only[Sem.run_bind,(hg es).1,Result.andThen_ok,(key es).1,Sem.run_pure];rfl
  ·simp only[Sem.run_bind,Sem.events_bind,(hg es).1,(hg es).2,Result.andThen_ok,Result.evThen_ok,(key es).1,(key es).2,Sem.run_pure,Sem.events_pure]
 ·refine⟨?_,?_⟩
  ·simp only[Sem.run_bind,(hg es).1,Result.andThen_ok,(key es).1,Sem.run_pure];rfl
  ·simp only[Sem.run_bind,Sem.events_bind,(hg es).1,(hg es).2,Result.andThen_ok,Result.evThen_ok,(key es).1,(key es).2,Sem.run_pure,Sem.events_pure]
theorem bin_sound(hr:HRel f (fun l=>Mi l∨Sh l) Mi h w)(hp:TabOk p){op:BinOp}{t:TypeId}{x y:Operand}{a a' b b' v:Value}(ha:VRel f a a')(hb:VRel f b b')(ho:oBin p h op t x y a b=some (v,h')) :
  After p.prog f Mi Sh h w (do eqGuard op t x y a' b';binOp op t a' b') v h':=by
 unfold oBin at ho;split at ho
 ·next e1 e2=>
  obtain rfl:=ha.eq_of_closed e1;obtain rfl:=hb.eq_of_closed e2;split at ho
  ·next r e3=>
   cases e4:closed zY r with
   |false=>rw[e4] at ho;cases ho
   |true=>rw[e4] at ho;cases ho;exact zr hr (fun es=>zdb e3 w es) (zB _ _ e4)
  ·cases ho
 ·split at ho
  ·next d hd=>
   split at ho
   ·next e1=>cases ho;exact zr hr (fun es=>oneNil_sound hp hd ha hb e1 .eql x y (.inl rfl) w es) (.bool _)
   ·next e1=>cases ho;exact zr hr (fun es=>oneNil_sound hp hd ha hb e1 .neq x y (.inr rfl) w es) (.bool _)
   ·cases ho
  ·cases ho
theorem un_sound(hr:HRel f (fun l=>Mi l∨Sh l) Mi h w){op:UnOp}{a a' v:Value}(ha:VRel f a a')(ho:oUn p h op a=some (v,h')) :
  After p.prog f Mi Sh h w (Op.unary op a') v h':=by
 unfold oUn at ho;split at ho
 ·next e1=>
  obtain rfl:=ha.eq_of_closed e1;split at ho
  ·next r e3=>
   cases e4:closed zY r with
   |false=>rw[e4] at ho;cases ho
   |true=>rw[e4] at ho;cases ho;exact zr hr (fun es=>zdb e3 w es) (zB _ _ e4)
  ·cases ho
 ·cases ho
theorem conv_sound(hr:HRel f (fun l=>Mi l∨Sh l) Mi h w){s t:TypeId}{a a' v:Value}(ha:VRel f a a')(ho:oConv p h s t a=some (v,h')) :
  After p.prog f Mi Sh h w (convert s t a') v h':=by
 unfold oConv at ho;split at ho
 ·next e1=>
  obtain rfl:=ha.eq_of_closed e1;split at ho
  ·next r e3=>
   cases e4:closed zY r with
   |false=>rw[e4] at ho;cases ho
   |true=>rw[e4] at ho;cases ho;exact zr hr (fun es=>zdb e3 w es) (zB _ _ e4)
  ·cases ho
 ·cases ho
end
section
def unitOf(h:AHeap)(b:Nat):Option Nat:=
 match h.objs.get b with
 |some (.cells _ un _ _ _)=>some un
 |_=>none
def putMem(t:T AObj)(r:Nat)(m:List Nat):T AObj:=
 match t.get r with
 |some (.cells c un r' ba _)=>t.set r (.cells c un r' ba m)
 |_=>t
def oAppendTo(h:AHeap)(size:Nat)(s:Value)(news:List Value)(n:Nat):Out:=
 match s with
 |.slice base len cap=>
  match Nat.ble (Nat.add len n) cap with
  |true=>
   match base with
   |none=>match news with | []=>some (.slice none (Nat.add len n) cap,h)|_=>none
   |some ⟨b,off,none⟩=>match h.write b (Nat.add off (Nat.mul len size)) news with
    |some h'=>some (.slice (some ⟨b,off,none⟩) (Nat.add len n) cap,h')
    |none=>none
   |_=>none
  |false=>
   match Nat.ble (Nat.add len n) 255&&news.all one with
   |false=>none
   |true=>
    match base with
    |none=>match len,cap with
     |0,0=>some (.slice (some ⟨h.next,0,none⟩) n n,h.row news size)
     |_,_=>none
    |some ⟨b,off,none⟩=>
     match h.read b off (Nat.mul len size),h.objs.get b with
     |some old,some (.cells _ un r ba _)=>
      match un with
      |0=>some (.slice (some ⟨h.next,0,none⟩) (Nat.add len n) (Nat.add len n),h.row (old++news) size)
      |un+1=>
       match Nat.beq (Nat.succ un) size&&h.owns b with
       |false=>none
       |true=>
        let p:=Nat.add ba off
        let ms:=members h.objs r
        let t:=zVb (Nat.add p (Nat.mul len size)) (Nat.mul n size) h.next ms h.objs
        let t:=putMem t r (h.next::ms)
        some (.slice (some ⟨h.next,0,none⟩) (Nat.add len n) (Nat.add len n),
         {h with objs:=t.set h.next (.cells ((old++news).map some) size r p []),next:=Nat.succ h.next})
     |_,_=>none
    |_=>none
 |_=>none
def zerosL(zs:List Value):Nat→List Value
 |0=>[]
 |n+1=>zs++zerosL zs n
def oAppend(p:Tab)(h:AHeap)(sT:TypeId)(xT:TypeId)(s x:Value):Out:=
 match p.desc sT with
 |some (.slice elem)=>
  match p.size elem,p.bytes elem with
  |some (size+1),some by_=>
   match Nat.ble (Nat.mul by_ 512) 281474976710656&&(match p.zero elem with|some z=>Nat.beq z.cells.toList.length (Nat.succ size)|none=>false) with
   |false=>none
   |true=>
    match p.desc xT,x with
    |some (.int _),.int _ (.ofNat k)=>
     match p.zero elem with
     |some z=>match Nat.ble k 255&&z.cells.toList.all (closed 3) with
      |true=>oAppendTo h (Nat.succ size) s (zerosL z.cells.toList k) k
      |false=>none
     |none=>none
    |some (.slice _),.slice none 0 _=>oAppendTo h (Nat.succ size) s [] 0
    |some (.slice _),.slice (some ⟨b,off,none⟩) n _=>
     match h.read b off (Nat.mul n (Nat.succ size)) with
     |some l=>oAppendTo h (Nat.succ size) s l n
     |none=>none
    |_,_=>none
  |_,_=>none
 |_=>none
end
section
variable {f:Inj}{K Mi Sh:Loc→Prop}{h h':AHeap}{w w':World}
theorem HRel.of_heap(hr:HRel f K Mi h w)(e:w'.heap=w.heap):HRel f K Mi h w':=by
 refine⟨hr.wf,fun b x eb=>?_,hr.mine,hr.part,hr.apart,hr.coord,hr.home⟩;obtain⟨o,h1,h2⟩:=hr.obj b x eb;refine⟨o,h1,h2.env (K':=K) (fun o' eo=>?_) fun _ h=>h⟩;have:w'.heap[x.blk]? = some o':=by rw[e];exact eo
 cases o'<;>simp only[]<;>first|exact⟨_,this,rfl,fun _ _=>rfl⟩|exact fun _=>this
theorem Turned.orel{p n:Nat}{o o':AObj}(ht:Turned p n o o'){x:Base}(h:ORel f K x o w):ORel f K x o' w:=by
 cases o with
 |cells c un r b m=>obtain⟨c',rfl,h2,h3⟩:=ht;obtain⟨k0,rc,e,k1,kz,k2,k3⟩:=h;exact⟨k0,rc,e,k1,kz,by omega,fun i v hi=>k3 i v (h3 i v hi)⟩
 |map es=>simp only[Turned] at ht;subst ht;exact h
 |loop es=>simp only[Turned] at ht;subst ht;exact h
 |deferred es=>simp only[Turned] at ht;subst ht;exact h
theorem forget_rel(hr:HRel f K Mi h w){t:T AObj}(ht:∀ b,(h.objs.get b=none→t.get b=none)∧∀ o,h.objs.get b=some o→∃ o',t.get b=some o'∧Turned 0 0 o o'):HRel f K Mi {h with objs:=t} w:=by
 have shaped:znb h.objs t:=fun b=>⟨(ht b).1,fun o e=>let⟨o',a,b⟩:=(ht b).2 o e;⟨o',a,b.shape⟩⟩
 refine⟨znb.wf hr.wf shaped,fun b x eb=>?_,hr.mine,hr.part,fun i i' y y' o o' ei ei' eo eo' hne=>?_,fun i i' y y' o o' ei ei' eo eo' he hy=>?_,hr.home⟩
 ·obtain⟨o,h1,h2⟩:=hr.obj b x eb;obtain⟨o',g1,g2⟩:=(ht b).2 o h1;exact⟨o',g1,g2.orel h2⟩
 ·obtain⟨o0,e1,e2⟩:=shaped.back eo;obtain⟨o1,e3,e4⟩:=shaped.back eo';rw[e2.root,e4.root] at hne;exact hr.apart i i' y y' o0 o1 ei ei' e1 e3 hne
 ·obtain⟨o0,e1,e2⟩:=shaped.back eo;obtain⟨o1,e3,e4⟩:=shaped.back eo';rw[e2.root,e4.root] at he;rw[e2.base,e4.base];exact hr.coord i i' y y' o0 o1 ei ei' e1 e3 he hy
theorem scribble_rel(hr:HRel f K Mi h w){blk q:Nat}{vs:List Value}(hW:Wrote w blk q vs w')
  (hun:∀ b y,f b=some y→y.blk=blk→∃ c un r ba m,h.objs.get b=some (.cells c un r ba m)∧∀(j:Nat) (v:Value),c[j]? = some (some v)→¬(q≤y.off+j∧y.off+j<q+vs.length)):HRel f K Mi h w':=by
 refine⟨hr.wf,fun b y eb=>?_,hr.mine,hr.part,hr.apart,hr.coord,hr.home⟩;obtain⟨o,h1,h2⟩:=hr.obj b y eb;refine⟨o,h1,?_⟩;by_cases hb:y.blk=blk
 ·obtain⟨c,un,r,ba,m,g1,g2⟩:=hun b y eb hb;rw[h1] at g1;cases g1;obtain⟨k0,rc,e,k1,kz,k2,k3⟩:=h2;rw[hb] at k1;obtain⟨rc',r1,r2,r3,r4⟩:=hW.row _ _ k1;refine⟨k0,rc',e,by rw[hb];exact r1,by omega,by omega,fun j v hj=>?_⟩;obtain⟨a1,v',a2,a3⟩:=k3 j v hj;have:=g2 j v hj;exact⟨a1,v',by rw[r3 _ (by omega)];exact a2,a3⟩
 ·refine h2.env (K':=K) (fun o' eo=>?_) fun _ h=>h
  have:=(hW.other _ hb).trans eo;cases o'<;>simp only[]<;>first|exact⟨_,this,rfl,fun _ _=>rfl⟩|exact fun _=>this
def added(h:AHeap)(r p size:Nat)(cs:List Value):AHeap:=
 {h with objs:=(putMem h.objs r (h.next::members h.objs r)).set h.next (.cells (cs.map some) size r p []),next:=Nat.succ h.next}
theorem added_rel(hr:HRel f K Mi h w){r p size:Nat}{cs:List Value}{c0:List (Option Value)}{u0:Nat}{m0:List Nat}{z:Base}(hroot:h.objs.get r=some (.cells c0 u0 r 0 m0))
  (hz:ORel f K z (.cells (cs.map some) size r p []) w) (hmine:∀ l,locBlk l=some z.blk→Mi l) (hKM:∀ l,Mi l→K l)
  (hapart:∀ b y o,f b=some y→h.objs.get b=some o→rootOf b o≠r→y.blk≠z.blk)
  (hcoord:∀ b y o,f b=some y→h.objs.get b=some o→rootOf b o=r→y.blk=z.blk→y.off+p=z.off+baseOf o) :
  HRel (f.put h.next z) K Mi (added h r p size cs) w:=by
 have hrn:r<h.next:=hr.wf.lt r _ hroot;have hne:r≠h.next:=by omega
 have hnx:f h.next=none:=hr.next_none (Nat.le_refl _);have hle:f.le (f.put h.next z):=Inj.le_put hnx;have old:∀ b x,f.put h.next z b=some x→b≠h.next→f b=some x:=fun b x e hb=>by rwa [Inj.put_ne _ _ hb] at e
 have getn:(added h r p size cs).objs.get h.next=some (.cells (cs.map some) size r p []):=T.get_set_same _ _ _;have hput:putMem h.objs r (h.next::members h.objs r)=h.objs.set r (.cells c0 u0 r 0 (h.next::members h.objs r)):=by simp only[putMem,hroot]
 have getr:(added h r p size cs).objs.get r=some (.cells c0 u0 r 0 (h.next::members h.objs r)):=by show T.get (T.set _ _ _) r=_;rw[T.get_set_ne _ _ hne,hput,T.get_set_same]
 have geto:∀ b,b≠h.next→b≠r→(added h r p size cs).objs.get b=h.objs.get b:=by intro b hb hb';show T.get (T.set _ _ _) b=_;rw[T.get_set_ne _ _ hb,hput,T.get_set_ne _ _ hb']
 have mem0:members h.objs r=m0:=by simp only[members,hroot]
 have back:∀ b o,b≠h.next→(added h r p size cs).objs.get b=some o→∃ o0,h.objs.get b=some o0∧rootOf b o=rootOf b o0∧baseOf o=baseOf o0∧∀ x w,ORel f K x o0 w→ORel f K x o w:=by
  intro b o hb e;by_cases hbr:b=r
  ·subst hbr;rw[getr] at e;cases e;exact⟨_,hroot,rfl,rfl,fun x w h=>h⟩
  ·rw[geto b hb hbr] at e;exact⟨o,e,rfl,rfl,fun x w h=>h⟩
 refine⟨⟨fun b o e=>?_,fun b c x r' ba m e=>?_,fun r' m hm=>?_⟩,fun b x eb=>?_,fun b x eb hl l hlb=>?_,fun b x i eb hi=>?_,fun b b' x x' o o' eb eb' eo eo' hne'=>?_,fun b b' x x' o o' eb eb' eo eo' he hx=>?_,fun b x eb=>?_⟩
 ·show b<h.next+1;by_cases hb:b=h.next
  ·omega
  ·obtain⟨o0,e1,_⟩:=back b o hb e;have:=hr.wf.lt b o0 e1;omega
 ·have memr:members (added h r p size cs).objs r=h.next::members h.objs r:=by simp only[members,getr]
  by_cases hb:b=h.next
  ·subst hb;rw[getn] at e;cases e;exact⟨by rw[memr];exact List.mem_cons_self,by omega,_,_,_,getr⟩
  ·have hcell:∃ m',h.objs.get b=some (.cells c x r' ba m'):=by
    by_cases hbr:b=r
    ·subst hbr;rw[getr] at e;cases e;exact⟨_,hroot⟩
    ·rw[geto b hb hbr] at e;exact⟨_,e⟩
   obtain⟨m',e'⟩:=hcell;obtain⟨q1,q2,c',x',m'',q3⟩:=hr.wf.mem b _ _ _ _ _ e';refine⟨?_,q2,?_⟩
   ·by_cases hr':r'=r
    ·subst hr';rw[memr];exact List.mem_cons_of_mem _ q1
    ·have hrn':r'≠h.next:=by have:=hr.wf.lt _ _ q3;omega
     have:members (added h r p size cs).objs r'=members h.objs r':=by simp only[members,geto r' hrn' hr']
     rw[this];exact q1
   ·by_cases hr':r'=r
    ·subst hr';exact⟨_,_,_,getr⟩
    ·have hrn':r'≠h.next:=by have:=hr.wf.lt _ _ q3;omega
     exact⟨_,_,_,by rw[geto r' hrn' hr'];exact q3⟩
 ·by_cases hr':r'=r
  ·subst hr';have memr:members (added h r' p size cs).objs r'=h.next::members h.objs r':=by simp only[members,getr]
   rw[memr] at hm;rcases List.mem_cons.1 hm with rfl|hm
   ·exact⟨_,_,_,_,getn⟩
   ·obtain⟨c,x,ba,mem,q⟩:=hr.wf.kin r' m hm;have hmn:m≠h.next:=by have:=hr.wf.lt _ _ q;omega
    by_cases hmr:m=r'
    ·subst hmr;exact⟨_,_,_,_,getr⟩
    ·exact⟨c,x,ba,mem,by rw[geto m hmn hmr];exact q⟩
  ·by_cases hrn':r'=h.next
   ·subst hrn';simp only[members,getn] at hm;simp at hm
   ·have:members (added h r p size cs).objs r'=members h.objs r':=by simp only[members,geto r' hrn' hr']
    rw[this] at hm;obtain⟨c,x,ba,mem,q⟩:=hr.wf.kin r' m hm;have hmn:m≠h.next:=by have:=hr.wf.lt _ _ q;omega
    by_cases hmr:m=r
    ·subst hmr;rw[hroot] at q;cases q;exact absurd rfl hr'
    ·exact⟨c,x,ba,mem,by rw[geto m hmn hmr];exact q⟩
 ·by_cases hb:b=h.next
  ·subst hb;rw[Inj.put_same] at eb;cases eb;exact⟨_,getn,hz.mono hle fun _ h=>h⟩
  ·obtain⟨o,g1,g2⟩:=hr.obj b x (old b x eb hb);by_cases hbr:b=r
   ·subst hbr;rw[hroot] at g1;cases g1;exact⟨_,getr,g2.mono hle fun _ h=>h⟩
   ·exact⟨o,by rw[geto b hb hbr];exact g1,g2.mono hle fun _ h=>h⟩
 ·by_cases hb:b=h.next
  ·subst hb;rw[Inj.put_same] at eb;cases eb;exact hmine l hlb
  ·exact hr.mine b x (old b x eb hb) hl l hlb
 ·by_cases hb:b=h.next
  ·subst hb;rw[Inj.put_same] at eb;cases eb;exact hmine _ rfl
  ·exact hr.part b x i (old b x eb hb) hi
 ·by_cases hb:b=h.next
  ·subst hb;rw[Inj.put_same] at eb;cases eb;rw[getn] at eo;cases eo;by_cases hb':b'=h.next
   ·subst hb';rw[getn] at eo';cases eo';exact absurd rfl hne'
   ·obtain⟨o0,e1,e2,e3,_⟩:=back b' o' hb' eo';rw[e2] at hne';exact(hapart b' x' o0 (old b' x' eb' hb') e1 (fun e=>hne' (by rw[e];rfl))).symm
  ·obtain⟨o0,e1,e2,e3,_⟩:=back b o hb eo;rw[e2] at hne';by_cases hb':b'=h.next
   ·subst hb';rw[Inj.put_same] at eb';cases eb';rw[getn] at eo';cases eo';exact hapart b x o0 (old b x eb hb) e1 (fun e=>hne' (by rw[e];rfl))
   ·obtain⟨o1,d1,d2,d3,_⟩:=back b' o' hb' eo';rw[d2] at hne';exact hr.apart b b' x x' o0 o1 (old b x eb hb) (old b' x' eb' hb') e1 d1 hne'
 ·by_cases hb:b=h.next
  ·subst hb;rw[Inj.put_same] at eb;cases eb;rw[getn] at eo;cases eo;by_cases hb':b'=h.next
   ·subst hb';rw[Inj.put_same] at eb';cases eb';rw[getn] at eo';cases eo';rfl
   ·obtain⟨o0,e1,e2,e3,_⟩:=back b' o' hb' eo';rw[e2] at he;rw[e3];have:=hcoord b' x' o0 (old b' x' eb' hb') e1 he.symm hx.symm;show z.off+baseOf o0=x'.off+p;omega
  ·obtain⟨o0,e1,e2,e3,_⟩:=back b o hb eo;rw[e2] at he;rw[e3];by_cases hb':b'=h.next
   ·subst hb';rw[Inj.put_same] at eb';cases eb';rw[getn] at eo';cases eo';exact hcoord b x o0 (old b x eb hb) e1 he hx
   ·obtain⟨o1,d1,d2,d3,_⟩:=back b' o' hb' eo';rw[d2] at he;rw[d3];exact hr.coord b b' x x' o0 o1 (old b x eb hb) (old b' x' eb' hb') e1 d1 he hx
 ·by_cases hb:b=h.next
  ·subst hb;rw[Inj.put_same] at eb;cases eb;exact hKM _ (hmine _ rfl)
  ·exact hr.home b x (old b x eb hb)
end
section
variable {p:Tab}{f:Inj}{Mi Sh:Loc→Prop}{h h':AHeap}{w:World}
structure Adds(P:Program)(Mi Sh:Loc→Prop)(w:World)(size n:Nat)(x':Value)(nw:List Value):Prop where
 len:∀ w,(Builtin.lenOf x').run P w=.ok n w
 lenEv:∀ w es,(Builtin.lenOf x').events P w es=es
 cells:nw.length=n*size
 run:∀ w₁:World,w₁.heap=w.heap→(Builtin.firstCells size n x').run P w₁=.ok nw.toArray w₁
 evs:∀ w₁:World,w₁.heap=w.heap→∀ es,∀ ev∈(Builtin.firstCells size n x').events P w₁ es,ev∈es∨EvIn Mi Sh ev
theorem cells_read(P:Program)(hr:HRel f (fun l=>Mi l∨Sh l) Mi h w){b off n:Nat}{x:Base}{l:List Value}(hb:f b=some x)(hl:h.read b off n=some l) :
  ∃ l',VsRel f l l'∧l'.length=n∧(∀ rc e fr,w.heap[x.blk]? = some (.cells rc e fr)→∀(i:Nat) (v:Value),l'[i]? = some v→rc[x.off+off+i]? = some v)∧(∀ w₁:World,w₁.heap=w.heap→(loadCells ⟨x.blk,x.off+off,none⟩ n).run P w₁=.ok l'.toArray w₁) ∧
   ∀ w₁:World,w₁.heap=w.heap→∀ es,∀ ev∈(loadCells ⟨x.blk,x.off+off,none⟩ n).events P w₁ es,ev∈es∨EvIn Mi Sh ev:=by
 obtain⟨hl0,rc,e,l',k1,k2,k3,k4⟩:=zUb hr hb hl;have hll:=k2.length;have hget:∀(j:Nat) (v:Value),l'[j]? = some v→rc[x.off+off+0+j]? = some v:=fun j v hj=>by simpa using k3 j v hj
 refine⟨l',k2,by omega,fun rc' e' fr' hh=>(by rw[k1] at hh;cases hh;exact k3),fun w₁ h₁=>?_,fun w₁ h₁ es ev hev=>?_⟩
 ·have k1':w₁.heap[x.blk]? = some (.cells rc e (0,0)):=by rw[h₁];exact k1
  have:=loadCellsFrom_run P (off:=x.off+off) k1' n 0 #[] l' (by omega) hget;simpa[loadCells] using this
 ·have k1':w₁.heap[x.blk]? = some (.cells rc e (0,0)):=by rw[h₁];exact k1
  rcases loadCellsFrom_events P (off:=x.off+off) k1' n 0 #[] l' es (by omega) hget ev hev with h1|⟨j,hj,rfl⟩
  ·exact .inl h1
  ·refine .inr (.inr ⟨rfl,?_⟩);have:=k4 j hj;simp only[Nat.add_zero];exact this.elim .inl fun hs=>.inr ⟨trivial,hs⟩
section
variable {sT xT ty elem:TypeId}{size n len cap:Nat}{a:Addr}{x':Value}{nw:List Value}{d:TypeDesc}
theorem append_in_some(hp:TabOk p)(hs:p.desc sT=some (.slice elem))(hz:p.size elem=some size)(hx:p.desc xT=some d)(hd:∀ k,d≠.int k)(ha:Adds p.prog Mi Sh w size n x' nw)(hc:len+n≤cap){w':World}
  (hst:(storeCells (a.add (len*size)) nw).run p.prog w=.ok () w') :
  (Builtin.append_ #[sT,xT] ty #[.slice (some a) len cap,x']).run p.prog w=.ok (.slice (some a) (len+n) cap) w' ∧
   ∀ es,(Builtin.append_ #[sT,xT] ty #[.slice (some a) len cap,x']).events p.prog w es=(storeCells (a.add (len*size)) nw).events p.prog w ((Builtin.firstCells size n x').events p.prog w es):=by
 have hf:(match d with|.int _=>true|_=>false)=false:=by cases d with|int k=>exact absurd rfl (hd k)|_=>rfl
 constructor
 ·simp[Builtin.append_,Sem.run_bind,zb hp w hs,zh hp w hz,zb hp w hx,ha.len,hc,ha.run w rfl,hf,hst]
 ·intro es;simp[Builtin.append_,Sem.run_bind,zb hp w hs,zh hp w hz,zb hp w hx,ha.len,ha.lenEv,hc,ha.run w rfl,hf,hst]
theorem append_in_none(hp:TabOk p)(hs:p.desc sT=some (.slice elem))(hz:p.size elem=some size)(hx:p.desc xT=some d)(hd:∀ k,d≠.int k)(ha:Adds p.prog Mi Sh w size n x' nw)(hc:len+n≤cap) :
  (Builtin.append_ #[sT,xT] ty #[.slice none len cap,x']).run p.prog w=.ok (.slice none (len+n) cap) w ∧
   ∀ es,(Builtin.append_ #[sT,xT] ty #[.slice none len cap,x']).events p.prog w es=(Builtin.firstCells size n x').events p.prog w es:=by
 have hf:(match d with|.int _=>true|_=>false)=false:=by cases d with|int k=>exact absurd rfl (hd k)|_=>rfl
 constructor
 ·simp[Builtin.append_,Sem.run_bind,zb hp w hs,zh hp w hz,zb hp w hx,ha.len,hc,ha.run w rfl,hf]
 ·intro es;simp[Builtin.append_,Sem.run_bind,zb hp w hs,zh hp w hz,zb hp w hx,ha.len,ha.lenEv,hc,ha.run w rfl,hf]
theorem nextslicecap_le{need cap:Nat}(h:cap<need)(hn:need≤255):Builtin.nextslicecap need cap≤512:=by
 unfold Builtin.nextslicecap;split
 ·omega
 ·split
  ·omega
  ·omega
theorem append_grow(hp:TabOk p)(hs:p.desc sT=some (.slice elem))(hz:p.size elem=some size)(hx:p.desc xT=some d)(hd:∀ k,d≠.int k)(ha:Adds p.prog Mi Sh w size n x' nw)(hc:cap<len+n)(hn:len+n≤255)
  {by_:Nat} (hb:p.bytes elem=some by_) (hb':by_*512≤281474976710656) {z:Value} (hzz:p.zero elem=some z) (hzl:z.cells.size=size) {base:Option Addr} {old:List Value} (hol:old.length=len*size)
  (hold:∀ w₁:World,w₁.heap=w.heap→(Builtin.firstCells size len (.slice base len cap)).run p.prog w₁=.ok old.toArray w₁)
  (holdE:∀ w₁:World,w₁.heap=w.heap→∀ es,∀ ev∈(Builtin.firstCells size len (.slice base len cap)).events p.prog w₁ es,ev∈es∨EvIn Mi Sh ev) :
  ∃(newCap:Nat) (rc:Array Value),len+n≤newCap∧rc.size=newCap*size∧(∀(i:Nat) (v:Value),(old++nw)[i]? = some v→rc[i]? = some v) ∧
   (Builtin.append_ #[sT,xT] ty #[.slice base len cap,x']).run p.prog w=.ok (.slice (some ⟨w.heap.size,0,none⟩) (len+n) newCap) (zF w.drew (.cells rc elem (0,0))) ∧
   ∀ ev∈(Builtin.append_ #[sT,xT] ty #[.slice base len cap,x']).events p.prog w #[],EvIn Mi Sh ev:=by
 have hf:(match d with|.int _=>true|_=>false)=false:=by cases d with|int k=>exact absurd rfl (hd k)|_=>rfl
 have hcap:¬(len+n≤cap):=by omega
 have hbig:¬(((len+n:Nat):Int)>IntKind.i64.max):=by have:IntKind.i64.max=9223372036854775807:=rfl;omega
 have hroom:¬(Builtin.nextslicecap (len+n) cap*by_>2 ^ 48):=by
  have h1:=nextslicecap_le hc hn;have h2:Builtin.nextslicecap (len+n) cap*by_≤512*by_:=Nat.mul_le_mul_right _ h1;have:(2:Nat) ^ 48=281474976710656:=by decide
  omega
 obtain⟨i,hi,hib⟩:∃ i,p.types.get elem=some i∧i.bytes=by_:=by
  unfold Tab.bytes at hb;cases e:p.types.get elem with
  |none=>rw[e] at hb;cases hb
  |some i=>rw[e] at hb;exact⟨i,rfl,Option.some.inj hb⟩
 generalize hq:(len+n)+w.tape w.drawn (.appendCap (len+n) cap elem) % (2 ^ 63-(len+n))=newCap;have hge:len+n≤newCap:=by omega
 have hw1:w.drew.heap=w.heap:=rfl;have hbig':¬(9223372036854775807<(len:Int)+(n:Int)):=by omega
 have hroom':¬(281474976710656<Builtin.nextslicecap (len+n) cap*i.bytes):=by rw[hib];simpa using hroom
 have hforced:(Question.appendCap (len+n) cap elem).forced=false:=rfl;have hcut:(Question.appendCap (len+n) cap elem).cut (w.tape w.drawn (Question.appendCap (len+n) cap elem))=newCap:=hq;have hnew:∀(w₁:World) (rc:Array Value),(newRow elem rc).run p.prog w₁=.ok ⟨w₁.heap.size,0,none⟩ (zF w₁ (.cells rc elem (0,0))):=fun _ _=>rfl
 have hnewE:∀(w₁:World) (rc:Array Value) (es:Array Event),(newRow elem rc).events p.prog w₁ es=es:=fun _ _ _=>rfl
 refine⟨newCap,old.toArray++nw.toArray++Builtin.zeroCells z.cells (newCap-(len+n)),hge,?_,?_,?_,?_⟩
 ·simp only[Array.size_append,List.size_toArray,hol,ha.cells,Builtin.zeroCells,Array.size_map,Array.size_range,hzl];rw[←Nat.add_mul,←Nat.add_mul]
  congr 1
  omega
 ·intro j v hj;rw[Array.getElem?_append_left (by have:=(List.getElem?_eq_some_iff.1 hj).1;simpa using this)];simpa using hj
 ·simp[Builtin.append_,Sem.run_bind,zb hp w hs,zh hp w hz,zb hp w hx,ha.len,hcap,hf,zn hp w hi,zn hp w.drew hi,hbig',hroom',hforced,hcut,hold w.drew hw1,ha.run w.drew hw1,zk hp w.drew hzz,hnew]
  congr 2
  apply Array.toList_inj.1;simp
 ·intro ev hev;simp[Builtin.append_,Sem.run_bind,zb hp w hs,zh hp w hz,zb hp w hx,ha.len,ha.lenEv,hcap,hf,zn hp w hi,zn hp w.drew hi,hbig',hroom',hforced,hcut,hold w.drew hw1,ha.run w.drew hw1,zk hp w.drew hzz,hnew,hnewE] at hev;rcases ha.evs w.drew hw1 _ ev hev with h1|h1
  ·rcases holdE w.drew hw1 _ ev h1 with h2|h2
   ·unfold askRoom at h2;split at h2
    ·simp at h2;exact .inl h2
    ·simp at h2
   ·exact h2
  ·exact h1
structure AddsG(p:Tab)(Mi Sh:Loc→Prop)(w:World)(sT xT ty elem:TypeId)(size n:Nat)(x':Value)(nw:List Value):Prop where
 cells:nw.length=n*size
 inSome:∀{a:Addr} {len cap:Nat} {w':World},len+n≤cap→(storeCells (a.add (len*size)) nw).run p.prog w=.ok () w' →
  (Builtin.append_ #[sT,xT] ty #[.slice (some a) len cap,x']).run p.prog w=.ok (.slice (some a) (len+n) cap) w' ∧
   ∃ E:Array Event→Array Event,(∀ es,∀ ev∈E es,ev∈es∨EvIn Mi Sh ev)∧∀ es,(Builtin.append_ #[sT,xT] ty #[.slice (some a) len cap,x']).events p.prog w es=(storeCells (a.add (len*size)) nw).events p.prog w (E es)
 inNone:∀{len cap:Nat},len+n≤cap→(Builtin.append_ #[sT,xT] ty #[.slice none len cap,x']).run p.prog w=.ok (.slice none (len+n) cap) w ∧
  ∀ ev∈(Builtin.append_ #[sT,xT] ty #[.slice none len cap,x']).events p.prog w #[],EvIn Mi Sh ev
 grow:∀{len cap:Nat} {base:Option Addr} {old:List Value},cap<len+n→len+n≤255→old.length=len*size →
  (∀ w₁:World,w₁.heap=w.heap→(Builtin.firstCells size len (.slice base len cap)).run p.prog w₁=.ok old.toArray w₁) →
  (∀ w₁:World,w₁.heap=w.heap→∀ es,∀ ev∈(Builtin.firstCells size len (.slice base len cap)).events p.prog w₁ es,ev∈es∨EvIn Mi Sh ev) →
  ∃(newCap:Nat) (rc:Array Value),len+n≤newCap∧rc.size=newCap*size∧(∀(i:Nat) (v:Value),(old++nw)[i]? = some v→rc[i]? = some v) ∧
   (Builtin.append_ #[sT,xT] ty #[.slice base len cap,x']).run p.prog w=.ok (.slice (some ⟨w.heap.size,0,none⟩) (len+n) newCap) (zF w.drew (.cells rc elem (0,0))) ∧
   ∀ ev∈(Builtin.append_ #[sT,xT] ty #[.slice base len cap,x']).events p.prog w #[],EvIn Mi Sh ev
theorem Adds.gen(hp:TabOk p)(hs:p.desc sT=some (.slice elem))(hz:p.size elem=some size)(hx:p.desc xT=some d)(hd:∀ k,d≠.int k)(ha:Adds p.prog Mi Sh w size n x' nw)
  {by_:Nat} (hb:p.bytes elem=some by_) (hb':by_*512≤281474976710656) {z:Value} (hzz:p.zero elem=some z) (hzl:z.cells.size=size):AddsG p Mi Sh w sT xT ty elem size n x' nw where
 cells:=ha.cells
 inSome hc hst:=⟨(append_in_some hp hs hz hx hd ha hc hst).1,fun es=>(Builtin.firstCells size n x').events p.prog w es,fun es ev=>ha.evs w rfl es ev,(append_in_some hp hs hz hx hd ha hc hst).2⟩
 inNone hc:=⟨(append_in_none hp hs hz hx hd ha hc).1,fun ev hev=>(ha.evs w rfl _ ev (by rw[←(append_in_none hp (ty:=ty) hs hz hx hd ha hc).2];exact hev)).resolve_left (by simp)⟩
 grow hc hn hol hold holdE:=append_grow hp hs hz hx hd ha hc hn hb hb' hzz hzl hol hold holdE
theorem zerosL_length(zs:List Value):∀ n,(zerosL zs n).length=n*zs.length
 |0=>by simp[zerosL]
 |n+1=>by simp[zerosL,zerosL_length zs n,Nat.succ_mul];omega
theorem zerosL_get(zs:List Value):∀(n i:Nat),i<n*zs.length→(zerosL zs n)[i]? = zs[i % zs.length]?
 |0,i,h=>by simp at h
 |n+1,i,h=>by
  simp only[zerosL];rw[Nat.succ_mul] at h;by_cases hi:i<zs.length
  ·rw[List.getElem?_append_left hi,Nat.mod_eq_of_lt hi]
  ·rw[List.getElem?_append_right (by omega),zerosL_get zs n _ (by omega)];rw[Nat.mod_eq_sub_mod (a:=i) (by omega)]
theorem zeroCells_list(z:Array Value)(n:Nat):(Builtin.zeroCells z n).toList=zerosL z.toList n:=by
 apply List.ext_getElem?;intro i;by_cases hi:i<n*z.size
 ·rw[zerosL_get _ _ _ (by simpa using hi)];have hpos:0<z.size:=by
   rcases Nat.eq_zero_or_pos z.size with h|h
   ·rw[h] at hi;simp at hi
   ·exact h
  have hm:i % z.size<z.size:=Nat.mod_lt _ hpos;simp[Builtin.zeroCells,hi,hm]
 ·have h1:(zerosL z.toList n).length≤i:=by rw[zerosL_length];simp;omega
  rw[List.getElem?_eq_none h1,List.getElem?_eq_none (by simp[Builtin.zeroCells];omega)]
theorem zeros_gen(hp:TabOk p)(hs:p.desc sT=some (.slice elem))(hz:p.size elem=some size)(hs0:0<size){kd kk:IntKind}(hx:p.desc xT=some (.int kd))(hk:n≤255)
  {by_:Nat} (hb:p.bytes elem=some by_) (hb':by_*512≤281474976710656) {z:Value} (hzz:p.zero elem=some z) (hzl:z.cells.size=size):AddsG p Mi Sh w sT xT ty elem size n (.int kk (.ofNat n)) (zerosL z.cells.toList n):=by
 obtain⟨i,hi,hib⟩:∃ i,p.types.get elem=some i∧i.bytes=by_:=by
  unfold Tab.bytes at hb;cases e:p.types.get elem with
  |none=>rw[e] at hb;cases hb
  |some i=>rw[e] at hb;exact⟨i,rfl,Option.some.inj hb⟩
 have hwr:IntKind.i64.wrap (n:Int)=(n:Int):=by rw[IntKind.wrap_i64];omega
 have hneg:¬((n:Int)<0):=by omega
 have hbig:¬(281474976710656<(n:Int)*(i.bytes:Int)):=by
  rw[hib];have h1:n*by_≤255*by_:=Nat.mul_le_mul_right _ hk;have h2:(n:Int)*(by_:Int)=((n*by_:Nat):Int):=by simp
  rw[h2];omega
 have hlen:(zerosL z.cells.toList n).length=n*size:=by rw[zerosL_length];simp[hzl]
 have hnil:n*size=0→zerosL z.cells.toList n=[]:=fun h=>List.eq_nil_of_length_eq_zero (hlen.trans h)
 have hzc:=zeroCells_list z.cells n;have hzc':Builtin.zeroCells z.cells n=(zerosL z.cells.toList n).toArray:=by rw[←hzc]
 have hai:∀ w,(asIntOf (.int kk (n:Int))).run p.prog w=.ok (kk,(n:Int)) w:=fun _=>rfl
 have haiE:∀ w es,(asIntOf (.int kk (n:Int))).events p.prog w es=es:=fun _ _=>rfl
 have hca:∀ a:Addr,(storeCells a []).run p.prog w=.ok () w:=fun _=>rfl
 refine⟨hlen,fun{a len cap w'} hc hst=>⟨?_,fun es=>es,fun es ev h=>.inl h,fun es=>?_⟩,fun{len cap} hc=>⟨?_,fun ev hev=>?_⟩,fun{len cap base old} hc hn hol hold holdE=>?_⟩
 ·by_cases h0:n*size=0
  ·rw[hnil h0] at hst;simp[Builtin.append_,Sem.run_bind,zb hp w hs,zh hp w hz,zb hp w hx,hc,asInt,hai,hwr,hneg,zn hp w hi,hbig,h0,hst]
  ·simp[Builtin.append_,Sem.run_bind,zb hp w hs,zh hp w hz,zb hp w hx,hc,asInt,hai,hwr,hneg,zn hp w hi,hbig,h0,zk hp w hzz,hzc',hst]
 ·by_cases h0:n*size=0
  ·rw[hnil h0] at hst ⊢;simp[Builtin.append_,Sem.run_bind,zb hp w hs,zh hp w hz,zb hp w hx,hc,asInt,hai,haiE,hwr,hneg,zn hp w hi,hbig,h0,hst]
  ·simp[Builtin.append_,Sem.run_bind,zb hp w hs,zh hp w hz,zb hp w hx,hc,asInt,hai,haiE,hwr,hneg,zn hp w hi,hbig,h0,zk hp w hzz,hzc',hst]
 ·by_cases h0:n*size=0
  ·simp[Builtin.append_,Sem.run_bind,zb hp w hs,zh hp w hz,zb hp w hx,hc,asInt,hai,hwr,hneg,zn hp w hi,hbig,h0]
  ·simp[Builtin.append_,Sem.run_bind,zb hp w hs,zh hp w hz,zb hp w hx,hc,asInt,hai,hwr,hneg,zn hp w hi,hbig,h0,zk hp w hzz]
 ·by_cases h0:n*size=0
  ·simp[Builtin.append_,Sem.run_bind,zb hp w hs,zh hp w hz,zb hp w hx,hc,asInt,hai,haiE,hwr,hneg,zn hp w hi,hbig,h0] at hev
  ·simp[Builtin.append_,Sem.run_bind,zb hp w hs,zh hp w hz,zb hp w hx,hc,asInt,hai,haiE,hwr,hneg,zn hp w hi,hbig,h0,zk hp w hzz] at hev
 ·have hcap:¬(len+n≤cap):=by omega
  have hbg:¬(9223372036854775807<(len:Int)+(n:Int)):=by omega
  have hroom:¬(281474976710656<Builtin.nextslicecap (len+n) cap*i.bytes):=by rw[hib];have h1:=nextslicecap_le hc hn;have h2:Builtin.nextslicecap (len+n) cap*by_≤512*by_:=Nat.mul_le_mul_right _ h1;omega
  generalize hq:(len+n)+w.tape w.drawn (.appendCap (len+n) cap elem) % (2 ^ 63-(len+n))=newCap;have hge:len+n≤newCap:=by omega
  have hw1:w.drew.heap=w.heap:=rfl;have hforced:(Question.appendCap (len+n) cap elem).forced=false:=rfl;have hcut:(Question.appendCap (len+n) cap elem).cut (w.tape w.drawn (Question.appendCap (len+n) cap elem))=newCap:=hq;have hnew:∀(w₁:World) (rc:Array Value),(newRow elem rc).run p.prog w₁=.ok ⟨w₁.heap.size,0,none⟩ (zF w₁ (.cells rc elem (0,0))):=fun _ _=>rfl
  have hnewE:∀(w₁:World) (rc:Array Value) (es:Array Event),(newRow elem rc).events p.prog w₁ es=es:=fun _ _ _=>rfl
  refine⟨newCap,old.toArray++(zerosL z.cells.toList n).toArray++Builtin.zeroCells z.cells (newCap-(len+n)),hge,?_,?_,?_,?_⟩
  ·simp only[Array.size_append,List.size_toArray,hol,hlen,Builtin.zeroCells,Array.size_map,Array.size_range,hzl];rw[←Nat.add_mul,←Nat.add_mul]
   congr 1
   omega
  ·intro j v hj;rw[Array.getElem?_append_left (by have:=(List.getElem?_eq_some_iff.1 hj).1;simpa using this)];simpa using hj
  ·by_cases h0:n*size=0
   ·simp[Builtin.append_,Sem.run_bind,zb hp w hs,zh hp w hz,zb hp w hx,hcap,asInt,hai,hwr,hneg,hbig,h0,zn hp w hi,zn hp w.drew hi,hbg,hroom,hforced,hcut,hold w.drew hw1,zk hp w.drew hzz,hnew,hnil h0]
   ·simp[Builtin.append_,Sem.run_bind,zb hp w hs,zh hp w hz,zb hp w hx,hcap,asInt,hai,hwr,hneg,hbig,h0,zn hp w hi,zn hp w.drew hi,hbg,hroom,hforced,hcut,hold w.drew hw1,zk hp w.drew hzz,hnew,hzc']
    congr 2
    apply Array.toList_inj.1;simp
  ·intro ev hev;by_cases h0:n*size=0
   ·simp[Builtin.append_,Sem.run_bind,zb hp w hs,zh hp w hz,zb hp w hx,hcap,asInt,hai,haiE,hwr,hneg,hbig,h0,zn hp w hi,zn hp w.drew hi,hbg,hroom,hforced,hcut,hold w.drew hw1,zk hp w.drew hzz,hnew,hnewE] at hev;rcases holdE w.drew hw1 _ ev hev with h2|h2
    ·unfold askRoom at h2;split at h2
     ·simp at h2;exact .inl h2
     ·simp at h2
    ·exact h2
   ·simp[Builtin.append_,Sem.run_bind,zb hp w hs,zh hp w hz,zb hp w hx,hcap,asInt,hai,haiE,hwr,hneg,hbig,h0,zn hp w hi,zn hp w.drew hi,hbg,hroom,hforced,hcut,hold w.drew hw1,zk hp w.drew hzz,hnew,hnewE] at hev;rcases holdE w.drew hw1 _ ev hev with h2|h2
    ·unfold askRoom at h2;split at h2
     ·simp at h2;exact .inl h2
     ·simp at h2
    ·exact h2
end
end
section
variable {p:Tab}{f:Inj}{K Mi Sh:Loc→Prop}{h h':AHeap}{w:World}
theorem EvIn.grow{Mi Mi':Loc→Prop}(h:∀ l,Mi l→Mi' l){e:Event}(he:EvIn Mi Sh e):EvIn Mi' Sh e:=by
 rcases he with h1|⟨h1,h2|h2⟩
 ·exact .inl h1
 ·exact .inr ⟨h1,.inl (h _ h2)⟩
 ·exact .inr ⟨h1,.inr h2⟩
theorem env_drew(K:Loc→Prop)(w:World):Env K w w.drew:=⟨Nat.le_refl _,rfl,rfl,rfl,fun b=>.refl K b w⟩
theorem VsRel.all_one{l l':List Value}(h:VsRel f l l')(e:l.all Cx.one=true):l'.all Cx.one=true:=by rw[h.one];exact e
theorem grow_row(hr:HRel f (fun l=>Mi l∨Sh l) Mi h w){elem:TypeId}{size n newCap:Nat}{vs vs':List Value}{rc:Array Value}(hv:VsRel f vs vs')(hlen:vs.length=n*size)(hcap:n≤newCap)(hs0:0<size)(hrc:rc.size=newCap*size)
  (hget:∀(i:Nat) (v:Value),vs'[i]? = some v→rc[i]? = some v) {es:Array Event} (hes:∀ e∈es,EvIn Mi Sh e) :
  ∃ f' Mi',f.le f'∧VRel f' (.slice (some ⟨h.next,0,none⟩) n n) (.slice (some ⟨w.heap.size,0,none⟩) n newCap)∧Did Mi Sh w (zF w.drew (.cells rc elem (0,0))) es Mi' ∧
   HRel f' (fun l=>Mi' l∨Sh l) Mi' (h.row vs size) (zF w.drew (.cells rc elem (0,0)))∧Old f h f' (h.row vs size):=by
 have hr1:HRel f (fun l=>Mi l∨Sh l) Mi h w.drew:=hr.of_heap rfl;have hvl:=hv.length;have key:=row_rel' hr1 (rc:=rc) elem size (by rw[hrc,hlen];exact Nat.mul_le_mul_right _ hcap) (vs:=vs) (fun i v hi=>let⟨v',a,b⟩:=hv.get i hi;⟨v',hget i v' a,b⟩);have hsz:w.drew.heap.size=w.heap.size:=rfl;rw[hsz] at key;refine⟨_,_,zQb hr _,?_,?_,key.grow (fun l h=>?_) fun _ h=>h,.row hr _ _ _⟩
 ·exact .slice (Inj.put_same _ _ _) hcap (fun e=>absurd e (by show size≠0;omega)) (fun _=>by show 0+0+newCap*size≤rc.size;omega)
 ·refine⟨(env_drew _ w).trans (env_pushed _ _ _),fun l=>?_,fun e he=>(hes e he).grow fun _ h=>.inl h⟩;rw[pushed_size];rfl
 ·rcases h with(h|h)|h
  ·exact .inl (.inl h)
  ·exact .inr h
  ·exact .inl (.inr h)
theorem store_rel(P:Program)(hr:HRel f (fun l=>Mi l∨Sh l) Mi h w){b off:Nat}{x:Base}{vs vs':List Value}(hb:f b=some x)(hw:h.write b off vs=some h')(hv:VsRel f vs vs') :
  ∃ w',(storeCells ⟨x.blk,x.off+off,none⟩ vs').run P w=.ok () w'∧(∀ es,∀ ev∈(storeCells ⟨x.blk,x.off+off,none⟩ vs').events P w es,ev∈es∨EvIn Mi Sh ev) ∧
   (∀ es,(∀ e∈es,EvIn Mi Sh e)→Did Mi Sh w w' es Mi)∧HRel f (fun l=>Mi l∨Sh l) Mi h' w'∧Old f h f h':=by
 obtain⟨o,g1,g2⟩:=hr.obj b x hb;obtain⟨q1,q2,c,c',ex,ro,ba,mem,q3,q4,q5⟩:=write_some hw;rw[q3] at g1;cases g1;obtain⟨_,rc,e,k1,kz,k2,k3⟩:=g2;have one':vs'.all one=true:=hv.all_one q2;have hlen:=hv.length;by_cases hnil:vs'=[]
 ·subst hnil;have hW:Wrote w x.blk (x.off+off) [] w:=⟨rfl,rfl,rfl,rfl,fun _ _=>rfl,fun c e h=>⟨c,h,rfl,fun _ _=>rfl,fun j v hj=>by simp at hj⟩⟩;obtain⟨r1,r2,r3,r4⟩:=write_rel hr (fun _ h=>.inl h) hb hw hv hW;exact⟨w,by simp[storeCells],fun es ev hev=>.inl (by simpa[storeCells] using hev),fun es h=>.still h,r1,.write hr.wf hb hw⟩
 ·have fit:x.off+off+vs'.length≤rc.size:=by have:=(zEa q4).2.1 (by intro e;exact hnil (List.length_eq_zero_iff.1 (by rw[e] at hlen;simpa using hlen.symm)));omega
  obtain⟨w',s1,s2⟩:=storeCells_run P vs' 0 (off:=x.off+off) k1 one' (by simpa using fit);have s3:=fun es=>storeCells_events P vs' 0 (off:=x.off+off) es k1 one' (by simpa using fit)
  obtain⟨r1,r2,r3,r4⟩:=write_rel hr (fun _ h=>.inl h) hb hw hv s2;refine⟨w',s1,fun es ev hev=>?_,fun es h=>⟨r2,fun l=>?_,h⟩,r1,.write hr.wf hb hw⟩
  ·rcases s3 es ev hev with h1|⟨j,hj,rfl⟩
   ·exact .inl h1
   ·refine .inr (.inr ⟨rfl,.inl ?_⟩);have:=r3 j (by omega);simpa using this
  ·rw[s2.size];exact⟨.inl,fun h=>h.elim id fun⟨b,_,h1,h2⟩=>absurd h2 (Nat.not_lt.2 h1)⟩
theorem lonely_not_member(hwf:WF h){b r i un ba:Nat}{c:List (Option Value)}{m:List Nat}(hb:h.objs.get b=some (.cells c un r ba m))(hi:zKa h.objs i)(hne:i≠b):i∉members h.objs r∧i≠r:=by
 obtain⟨ci,xi,hi⟩:=hi;have hm:=(hwf.mem b _ _ _ _ _ hb).1;constructor
 ·intro hmi;obtain⟨c1,x1,b1,m1,e1⟩:=hwf.kin r i hmi;rw[hi] at e1;cases e1;simp only[members,hi,List.mem_singleton] at hm;exact hne hm.symm
 ·intro e;subst e;simp only[members,hi,List.mem_singleton] at hm;exact hne hm.symm
def grown(h:AHeap)(r q n:Nat):AHeap:={h with objs:=zVb q n h.next (members h.objs r) h.objs}
theorem zPa(h:AHeap)(r q n:Nat):∀ b,(h.objs.get b=none→(grown h r q n).objs.get b=none)∧∀ o,h.objs.get b=some o→∃ o',(grown h r q n).objs.get b=some o'∧Turned 0 0 o o'∧(b∉members h.objs r→o'=o) ∧
   (b∈members h.objs r→b≠h.next→∀ c x r' ba mem,o'=.cells c x r' ba mem→∀(j:Nat) (v:Value),c[j]? = some (some v)→¬(q≤ba+j∧ba+j<q+n)):=by
 intro b;obtain⟨h0,h1⟩:=zia q n h.next (members h.objs r) h.objs b;refine⟨h0,fun o e=>?_⟩;obtain⟨o',g1,g2,g3,g4,g5⟩:=h1 o e;exact⟨o',g1,g2,g4,g5⟩
theorem zqa(h:AHeap)(r q n:Nat):znb h.objs (grown h r q n).objs:=fun b=>⟨(zPa h r q n b).1,fun o e=>let⟨o',a,b,_⟩:=(zPa h r q n b).2 o e;⟨o',a,b.shape⟩⟩
theorem grown_rel(hr:HRel f K Mi h w)(r q n:Nat):HRel f K Mi (grown h r q n) w:=
 forget_rel hr fun b=>⟨(zPa h r q n b).1,fun o e=>let⟨o',a,b,_⟩:=(zPa h r q n b).2 o e;⟨o',a,b⟩⟩
theorem Old.grown_added(hr:HRel f K Mi h w){b r un ba q n p0 size:Nat}{c:List (Option Value)}{m:List Nat}{x:Base}(hfb:f b=some x)(hb:h.objs.get b=some (.cells c un r ba m))(z:Base)(cs:List Value) :
  Old f h (f.put h.next z) (added (grown h r q n) r p0 size cs):=by
 refine⟨Nat.le_succ _,fun i ei hl=>?_,rfl,rfl,rfl⟩;have hib:i≠b:=fun e=>by subst e;rw[hfb] at ei;cases ei
 obtain⟨n1,n2⟩:=lonely_not_member hr.wf hb hl hib;obtain⟨ci,xi,hi⟩:=hl;have hin:i≠h.next:=by have:=hr.wf.lt i _ hi;omega
 obtain⟨o',g1,g2,g3,g4⟩:=(zPa h r q n i).2 _ hi;refine⟨by rw[Inj.put_ne _ _ hin];exact ei,?_⟩;show T.get (T.set (putMem _ _ _) h.next _) i=_;rw[T.get_set_ne _ _ hin,hi];unfold putMem;split
 ·rw[T.get_set_ne _ _ n2,g1,g3 n1]
 ·rw[g1,g3 n1]
theorem appendTo_sound(hp:TabOk p)(hr:HRel f (fun l=>Mi l∨Sh l) Mi h w){sT xT ty elem:TypeId}{size n:Nat}{x' s s' v:Value}{news nw:List Value}(hs:p.desc sT=some (.slice elem))(hz:p.size elem=some size)(hs0:0<size)
  (ha:AddsG p Mi Sh w sT xT ty elem size n x' nw) (hnews:VsRel f news nw)
  {by_:Nat} (hb:p.bytes elem=some by_) (hb':by_*512≤281474976710656) {z:Value} (hzz:p.zero elem=some z) (hzl:z.cells.size=size)
  (hsr:VRel f s s') (ho:oAppendTo h size s news n=some (v,h')):After p.prog f Mi Sh h w (Builtin.append_ #[sT,xT] ty #[s',x']) v h':=by
 have hnl:news.length=n*size:=by rw[hnews.length];exact ha.cells
 cases hsr with
 |sliceNil len cap=>
  simp only[oAppendTo] at ho;cases hc:Nat.ble (Nat.add len n) cap with
  |true=>
   rw[hc] at ho;simp only[] at ho;cases news with
   |cons a b=>cases ho
   |nil=>cases ho;obtain⟨r1,r2⟩:=ha.inNone (Nat.le_of_ble_eq_true hc);exact⟨_,w,f,Mi,r1,f.le_refl,.sliceNil _ _,.still r2,hr,.refl _ _⟩
  |false=>
   rw[hc] at ho;simp only[] at ho;split at ho
   ·cases ho
   ·next hq=>
    rw[Bool.and_eq_true] at hq;have hn:len+n≤255:=Nat.le_of_ble_eq_true hq.1;split at ho
    ·cases ho;have hc':0<0+n:=by
      cases n with
      |zero=>simp[Nat.ble] at hc
      |succ n=>omega
     obtain⟨newCap,rc,g1,g2,g3,g4,g5⟩:=ha.grow hc' hn (base:=none) (old:=[]) (by simp) (fun _ _=>rfl) (fun _ _ _ _ h=>.inl h);obtain⟨f',Mi',k1,k2,k3,k4,k5⟩:=grow_row hr (elem:=elem) (n:=n) (newCap:=newCap) (rc:=rc) hnews hnl (by omega) hs0 g2 (by simpa using g3) g5;refine⟨_,_,f',Mi',g4,k1,?_,k3,k4,k5⟩;simpa using k2
    ·cases ho
 |slice hfb hcc he hu=>
  rename_i b off len cap cap' x;simp only[oAppendTo] at ho;cases hc:Nat.ble (Nat.add len n) cap with
  |true=>
   have hc1:len+n≤cap:=Nat.le_of_ble_eq_true hc;rw[hc] at ho;simp only[] at ho;cases hw:h.write b (Nat.add off (Nat.mul len size)) news with
   |none=>rw[hw] at ho;cases ho
   |some h1=>
    rw[hw] at ho;cases ho;obtain⟨w',s1,s2,s3,s4,s5⟩:=store_rel p.prog hr hfb hw hnews;have eadd:(⟨x.blk,x.off+off,none⟩:Addr).add (len*size)=⟨x.blk,x.off+Nat.add off (Nat.mul len size),none⟩:=by rw[add_plain,Nat.add_assoc];rfl
    have hle:len+n≤cap':=by omega
    obtain⟨r1,E,hE,r2⟩:=ha.inSome (a:=⟨x.blk,x.off+off,none⟩) hle (by rw[eadd];exact s1);refine⟨_,w',f,Mi,r1,f.le_refl,.slice hfb hcc he hu,?_,s4,s5⟩;rw[r2,eadd];exact s3 _ fun ev hev=>(s2 _ ev hev).elim (fun h=>(hE _ ev h).resolve_left (by simp)) id
  |false=>
   have hc1:¬(len+n≤cap):=fun e=>by rw[Nat.ble_eq_true_of_le (show Nat.add len n≤cap from e)] at hc;cases hc
   rw[hc] at ho;simp only[] at ho;split at ho
   ·cases ho
   ·next hq=>
    rw[Bool.and_eq_true] at hq;have hn:len+n≤255:=Nat.le_of_ble_eq_true hq.1;split at ho
    ·next old cc un r ba mm e1 e2=>
     obtain⟨old',o1,o2',oc,o3,o4⟩:=cells_read p.prog hr hfb e1;have o2:old'.length=len*size:=o2';have oldrun:∀ w₁:World,w₁.heap=w.heap→(Builtin.firstCells size len (.slice (some ⟨x.blk,x.off+off,none⟩) len cap')).run p.prog w₁=.ok old'.toArray w₁:=o3;have oldev:∀ w₁:World,w₁.heap=w.heap→∀ es,∀ ev∈(Builtin.firstCells size len (.slice (some ⟨x.blk,x.off+off,none⟩) len cap')).events p.prog w₁ es,ev∈es∨EvIn Mi Sh ev:=o4;have hboth:=o1.append hnews;have hbl:(old++news).length=(len+n)*size:=by have:=o1.length;simp[hnl,Nat.add_mul];omega
     split at ho
     ·
      cases ho;obtain⟨o,q1,q2⟩:=hr.obj b x hfb;rw[e2] at q1;cases q1;have hcap':cap'=cap:=he q2.1;obtain⟨newCap,rc,g1,g2,g3,g4,g5⟩:=ha.grow (by omega) hn o2 oldrun oldev;obtain⟨f',Mi',k1,k2,k3,k4,k5⟩:=grow_row hr (elem:=elem) (n:=len+n) (newCap:=newCap) (rc:=rc) hboth hbl g1 hs0 g2 g3 g5;exact⟨_,_,f',Mi',g4,k1,k2,k3,k4,k5⟩
     ·next un=>
      split at ho
      ·cases ho
      ·next hq2=>
       rw[Bool.and_eq_true] at hq2;have hun:un+1=size:=Nat.eq_of_beq_eq_true hq2.1;have hlo:h.owns b=true:=hq2.2;have hho:v=.slice (some ⟨h.next,0,none⟩) (len+n) (len+n)∧h'=added (grown h r (ba+off+len*size) (n*size)) r (ba+off) size (old++news):=by cases ho;refine⟨rfl,?_⟩;unfold added;rw[(zqa h r (ba+off+len*size) (n*size)).members];rfl
       obtain⟨rfl,rfl⟩:=hho;clear ho;obtain⟨o,q1,q2⟩:=hr.obj b x hfb;rw[e2] at q1;cases q1;obtain⟨hxu,rc,e,k1,kz,k2,k3⟩:=q2;have hxu':x.unit=size:=by omega
       have hroom:=hu (by omega);rw[hxu'] at hroom;have hmine:=hr.mine b x hfb hlo;obtain⟨w1,w2,c',x',m',w3⟩:=hr.wf.mem b _ _ _ _ _ e2;obtain⟨or',t1,t2⟩:=(zqa h r (ba+off+len*size) (n*size) r).2 _ w3;obtain⟨c'',rfl,_⟩:=t2;have hg:=grown_rel hr r (ba+off+len*size) (n*size);have hmul:(len+n)*size=len*size+n*size:=Nat.add_mul _ _ _;have hnw:nw.length=n*size:=ha.cells
       have hcoord:∀ i y o,f i=some y→(grown h r (ba+off+len*size) (n*size)).objs.get i=some o→rootOf i o=r→y.blk=x.blk→y.off+ba=x.off+baseOf o:=by intro i y o ei eo hroot hy;obtain⟨o0,b1,b2⟩:=(zqa h r (ba+off+len*size) (n*size)).back eo;have:=hr.coord i b y x o0 _ ei hfb b1 e2 (by rw[←b2.root,hroot];rfl) hy;rw[b2.base];exact this
       have hapart:∀ i y o,f i=some y→(grown h r (ba+off+len*size) (n*size)).objs.get i=some o→rootOf i o≠r→y.blk≠x.blk:=by intro i y o ei eo hroot;obtain⟨o0,b1,b2⟩:=(zqa h r (ba+off+len*size) (n*size)).back eo;exact hr.apart i b y x o0 _ ei hfb b1 e2 (by rw[←b2.root];exact hroot)
       by_cases hin:len+n≤cap'
       ·
        have hle:(len+n)*size≤cap'*size:=Nat.mul_le_mul_right _ hin;obtain⟨w',s1,s2⟩:=storeCells_run p.prog nw 0 (off:=x.off+off+len*size) k1 (hnews.all_one hq.2) (by omega);have s3:=fun es=>storeCells_events p.prog nw 0 (off:=x.off+off+len*size) es k1 (hnews.all_one hq.2) (by omega)
        have eadd:(⟨x.blk,x.off+off,none⟩:Addr).add (len*size)=⟨x.blk,x.off+off+len*size,none⟩:=add_plain _ _ _;obtain⟨r1,E,hE,r2⟩:=ha.inSome (a:=⟨x.blk,x.off+off,none⟩) hin (by rw[eadd];exact s1);have hscr:HRel f (fun l=>Mi l∨Sh l) Mi (grown h r (ba+off+len*size) (n*size)) w':=by
         refine scribble_rel hg s2 fun i y ei hy=>?_
         obtain⟨o,d1,d2⟩:=hg.obj i y ei;by_cases hroot:rootOf i o=r
         ·cases o with
          |cells ci ui ri bi mi=>
           simp only[rootOf] at hroot;subst hroot;refine⟨ci,ui,ri,bi,mi,d1,fun j v hj=>?_⟩;have hco:=hcoord i y _ ei d1 rfl hy;simp only[baseOf] at hco;obtain⟨o0,b1,b2⟩:=(zqa h ri (ba+off+len*size) (n*size)).back d1;obtain⟨o',g1,g2,g3,g4⟩:=(zPa h ri (ba+off+len*size) (n*size) i).2 o0 b1;rw[d1] at g1;cases g1;have him:i∈members h.objs ri:=by rw[←(zqa h ri (ba+off+len*size) (n*size)).members];exact(hg.wf.mem i _ _ _ _ _ d1).1
           have hinx:i≠h.next:=by have:=hr.wf.lt i _ b1;omega
           have:=g4 him hinx _ _ _ _ _ rfl j v hj;rw[hnw];omega
          |map es=>simp only[rootOf] at hroot;subst hroot;rw[t1] at d1;cases d1
          |loop es=>simp only[rootOf] at hroot;subst hroot;rw[t1] at d1;cases d1
          |deferred es=>simp only[rootOf] at hroot;subst hroot;rw[t1] at d1;cases d1
         ·exact absurd hy (hapart i y o ei d1 hroot)
        obtain⟨rc',p1,p2,p3,p4⟩:=s2.row _ _ k1;have hz':ORel f (fun l=>Mi l∨Sh l) ⟨x.blk,x.off+off,size,x.room⟩ (.cells ((old++news).map some) size r (ba+off) []) w':=by
         refine⟨rfl,rc',e,p1,by simp only[];omega,by simp only[List.length_map];rw[hbl];omega,fun i v hi=>⟨.inl (hmine _ rfl),?_⟩⟩;have hi':(old++news)[i]? = some v:=by rw[List.getElem?_map,Option.map_eq_some_iff] at hi;obtain⟨v0,a1,a2⟩:=hi;cases a2;exact a1
         obtain⟨v',b1,b2⟩:=hboth.get i hi';refine⟨v',?_,b2⟩;show rc'[x.off+off+i]? = some v';by_cases hi2:i<len*size
         ·rw[List.getElem?_append_left (by omega)] at b1;rw[p3 _ (by omega)];exact oc _ _ _ k1 i v' b1
         ·rw[List.getElem?_append_right (by omega)] at b1;have:=p4 _ _ b1;rwa [show x.off+off+len*size+0+(i-old'.length)=x.off+off+i by omega] at this
        have key:=added_rel hscr (z:=⟨x.blk,x.off+off,size,x.room⟩) t1 hz' hmine (fun _ h=>.inl h) hapart (fun i y o ei eo hroot hy=>by have:=hcoord i y o ei eo hroot hy;simp only[];omega);refine⟨_,w',_,Mi,r1,Inj.le_put (hr.next_none (Nat.le_refl _)),?_,⟨⟨by rw[s2.size];exact Nat.le_refl _,s2.tape,s2.os,s2.output,fun k o eo=>?_⟩,fun l=>?_,fun ev hev=>?_⟩,key,.grown_added hr hfb e2 _ _⟩
        ·exact .slice (x:=⟨x.blk,x.off+off,size,x.room⟩) (Inj.put_same _ _ _) hin (fun h0=>absurd h0 (by show size≠0;omega)) (fun _=>by show x.off+off+0+cap'*size≤x.room;omega)
        ·by_cases hk:k=x.blk
         ·subst hk;rw[k1] at eo;cases eo;exact⟨rc',p1,p2,fun i hi=>absurd (hmine (cellAt x.blk i) rfl) hi⟩
         ·have:=(s2.other _ hk).trans eo;cases o<;>simp only[]<;>first|exact⟨_,this,rfl,fun _ _=>rfl⟩|exact fun _=>this
        ·rw[s2.size];exact⟨.inl,fun h=>h.elim id fun⟨b,_,h1,h2⟩=>absurd h2 (Nat.not_lt.2 h1)⟩
        ·rw[r2,eadd] at hev;rcases s3 _ ev hev with h1|⟨j,hj,rfl⟩
         ·exact(hE _ ev h1).resolve_left (by simp)
         ·exact .inr ⟨rfl,.inl (hmine _ rfl)⟩
       ·
        obtain⟨newCap,rcn,g1,g2,g3,g4,g5⟩:=ha.grow (by omega) hn o2 oldrun oldev;have hsz:w.drew.heap.size=w.heap.size:=rfl;have hg1:HRel f (fun l=>(Mi l∨NewIn w.heap.size (w.heap.size+1) l)∨Sh l) (fun l=>Mi l∨NewIn w.heap.size (w.heap.size+1) l) (grown h r (ba+off+len*size) (n*size)) (zF w.drew (.cells rcn elem (0,0))):=
         ((hg.of_heap (w':=w.drew) rfl).env (env_pushed _ _ _)).grow (fun l h=>h.elim (fun h=>.inl (.inl h)) .inr) fun l h=>.inl h
        have ylt:∀ i y,f i=some y→y.blk<w.heap.size:=fun i y ei=>by obtain⟨o,_,d2⟩:=hr.obj i y ei;exact d2.lt
        have hz':ORel f (fun l=>(Mi l∨NewIn w.heap.size (w.heap.size+1) l)∨Sh l) ⟨w.heap.size,0,size,rcn.size⟩ (.cells ((old++news).map some) size r (ba+off) []) (zF w.drew (.cells rcn elem (0,0))):=by have hle:(len+n)*size≤newCap*size:=Nat.mul_le_mul_right _ g1;refine⟨rfl,rcn,elem,zOa w.drew _,rfl,by simp only[List.length_map];rw[hbl];omega,fun i v hi=>⟨.inl (.inr ⟨w.heap.size,rfl,Nat.le_refl _,Nat.lt_succ_self _⟩),?_⟩⟩;rw[List.getElem?_map,Option.map_eq_some_iff] at hi;obtain⟨v0,a1,a2⟩:=hi;cases a2;obtain⟨v',b1,b2⟩:=hboth.get i a1;exact⟨v',by show rcn[0+i]? = some v';rw[Nat.zero_add];exact g3 i v' b1,b2⟩
        have key:=added_rel hg1 (z:=⟨w.heap.size,0,size,rcn.size⟩) t1 hz' (fun l hl=>.inr ⟨w.heap.size,hl,Nat.le_refl _,Nat.lt_succ_self _⟩) (fun _ h=>.inl h)
         (fun i y o ei eo hroot=>by have:=ylt i y ei;show y.blk≠w.heap.size;omega) (fun i y o ei eo hroot hy=>by have:=ylt i y ei;exact absurd hy (by show y.blk≠w.heap.size;omega))
        refine⟨_,_,_,fun l=>Mi l∨NewIn w.heap.size (w.heap.size+1) l,g4,Inj.le_put (hr.next_none (Nat.le_refl _)),?_,⟨(env_drew _ w).trans (env_pushed _ _ _),fun l=>by rw[pushed_size];rfl,fun ev hev=>(g5 ev hev).grow fun _ h=>.inl h⟩,key,.grown_added hr hfb e2 _ _⟩;exact .slice (x:=⟨w.heap.size,0,size,rcn.size⟩) (Inj.put_same _ _ _) g1 (fun h0=>absurd h0 (by show size≠0;omega)) (fun _=>by show 0+0+newCap*size≤rcn.size;omega)
    ·cases ho
 |_=>simp[oAppendTo] at ho
theorem VsRel.zeros{l l':List Value}(h:VsRel f l l'):∀ k,VsRel f (zerosL l k) (zerosL l' k)
 |0=>.nil
 |k+1=>h.append (VsRel.zeros h k)
theorem append_sound(hp:TabOk p)(hr:HRel f (fun l=>Mi l∨Sh l) Mi h w){sT xT ty:TypeId}{s s' x x' v:Value}(hs:VRel f s s')(hx:VRel f x x')(ho:oAppend p h sT xT s x=some (v,h')) :
  After p.prog f Mi Sh h w (Builtin.append_ #[sT,xT] ty #[s',x']) v h':=by
 unfold oAppend at ho;split at ho
 ·next elem e1=>
  split at ho
  ·next size by_ e2 e3=>
   split at ho
   ·cases ho
   ·next hq=>
    rw[Bool.and_eq_true] at hq;have hb':by_*512≤281474976710656:=Nat.le_of_ble_eq_true hq.1;obtain⟨z,hzz,hzl⟩:∃ z,p.zero elem=some z∧z.cells.size=size+1:=by
     cases e:p.zero elem with
     |none=>rw[e] at hq;simp at hq
     |some z=>rw[e] at hq;exact⟨z,rfl,by simpa using Nat.eq_of_beq_eq_true hq.2⟩
    split at ho
    ·next kd kk k e4=>
     rw[hzz] at ho;simp only[] at ho;split at ho
     ·next hq2=>
      rw[Bool.and_eq_true] at hq2;cases hx with
      |int=>exact appendTo_sound hp hr (news:=zerosL z.cells.toList k) e1 e2 (Nat.succ_pos _) (zeros_gen hp e1 e2 (Nat.succ_pos _) e4 (Nat.le_of_ble_eq_true hq2.1) e3 hb' hzz hzl) (VsRel.zeros (VsRel.refl_all (fun v=>zB 3 v) _ hq2.2) k) e3 hb' hzz hzl hs ho
     ·cases ho
    ·next e c e4=>
     cases hx with
     |sliceNil=>refine appendTo_sound hp hr (nw:=[]) e1 e2 (Nat.succ_pos _) (Adds.gen hp e1 e2 e4 (fun k h=>by cases h) ⟨fun _=>rfl,fun _ _=>rfl,by simp,fun _ _=>rfl,fun _ _ es ev h=>.inl h⟩ e3 hb' hzz hzl) .nil e3 hb' hzz hzl hs ho
    ·next e b off n c e4=>
     cases hx with
     |slice hb hc he hu=>
      rename_i y;cases e5:h.read b off (Nat.mul n (Nat.succ size)) with
      |none=>rw[e5] at ho;cases ho
      |some l=>rw[e5] at ho;obtain⟨l',o1,o2,_,o3,o4⟩:=cells_read p.prog hr hb e5;exact appendTo_sound hp hr e1 e2 (Nat.succ_pos _) (Adds.gen hp e1 e2 e4 (fun k h=>by cases h) ⟨fun _=>rfl,fun _ _=>rfl,o2,o3,o4⟩ e3 hb' hzz hzl) o1 e3 hb' hzz hzl hs ho
    ·cases ho
  ·cases ho
 ·cases ho
end
section
def natOf:Value→Option Nat
 |.int _ (.ofNat n)=>some n
 |_=>none
def bound(d:Nat):Option Value→Option Nat
 |none=>some d
 |some v=>natOf v
def slOff(m l off s:Nat):Nat:=
 match Nat.beq m l with
 |true=>off
 |false=>Nat.add off (Nat.mul l s)
def cloO:Option Value→Bool
 |none=>true
 |some v=>closed zY v
def zFa(p:Tab)(h:AHeap)(t:TypeId)(x:Value)(lo hi mx:Option Value):Out:=
 match closed zY x&&cloO lo&&cloO hi&&cloO mx with
 |true=>match pureIn p.prog (Instr.sliceAt t x lo hi mx) with
  |some v=>match closed zY v with|true=>some (v,h)|false=>none
  |none=>none
 |false=>none
def oSlice(p:Tab)(h:AHeap)(t:TypeId)(x:Value)(lo hi mx:Option Value):Out:=
 match x with
 |.slice (some ⟨b,off,none⟩) len cap=>
  match p.desc t,unitOf h b with
  |some (.slice e),some un=>
   match p.size e,bound 0 lo,bound len hi,bound cap mx with
   |some s,some l,some u,some m=>
    match Nat.ble l u&&Nat.ble u m&&Nat.ble m cap&&(Nat.beq un 0 || Nat.beq un s)&&(Nat.beq un 0 || mx.isSome || Nat.blt l m)&&(mx.isNone || hi.isSome) with
    |true=>some (.slice (some ⟨b,slOff m l off s,none⟩) (Nat.sub u l) (Nat.sub m l),h)
    |false=>none
   |_,_,_,_=>none
  |_,_=>none
 |_=>zFa p h t x lo hi mx
def oBuild(p:Tab)(h:AHeap)(t:TypeId)(parts:List (Nat×Value)):Out:=
 match p.zero t,p.desc t with
 |some z,some (.struct fs)=>
  match fs.toList.mapM fun f=>match p.size f.type with|some s=>some (f.offset,s)|none=>none with
  |some places=>match Instr.fill (places[·]?) z.cells parts with
   |some cells=>some (.agg cells,h)
   |none=>none
  |none=>none
 |some z,some (.array _ e)=>
  match p.size e with
  |some s=>match Instr.fill (fun i=>some (i*s,s)) z.cells parts with
   |some cells=>some (.agg cells,h)
   |none=>none
  |none=>none
 |_,_=>none
def oBuildSlice(p:Tab)(h:AHeap)(t:TypeId)(len:Nat)(parts:List (Nat×Value)):Out:=
 match p.desc t with
 |some (.slice e)=>
  match p.size e,p.zero e with
  |some s,some z=>
   match Nat.ble (Nat.mul len s) 16777216 with
   |true=>
    match Instr.fill (fun i=>some (i*s,s)) (if len*s=0 then #[] else(Array.range (len*s)).map (z.cells[· % z.cells.size]!)) parts with
    |some cells=>some (.slice (some ⟨h.next,0,none⟩) len len,h.row cells.toList 0)
    |none=>none
   |false=>none
  |_,_=>none
 |_=>none
def oLen(p:Tab)(h:AHeap)(t:TypeId)(x:Value):Out:=
 match p.desc t,x with
 |some .string,.string s=>some (.int .i64 (Int.ofNat s.size),h)
 |some (.slice _),.slice _ n _=>some (.int .i64 (Int.ofNat n),h)
 |some (.array n _),_=>some (.int .i64 (Int.ofNat n),h)
 |_,_=>none
def zpb(p:Tab)(h:AHeap)(b:Builtin)(ts:Array TypeId)(ty:TypeId)(consts:Array Bool)(args:List Value):Out:=
 match args.all (closed zY) with
 |true=>match pureIn p.prog (builtin b ts ty consts args.toArray) with
  |some (.value v)=>match closed zY v with|true=>some (v,h)|false=>none
  |_=>none
 |false=>none
def lookupKey(k:Value):List (Value×Value)→Option (Option Value)
 | []=>some none
 |(a,v)::es=>
  match a,k with
  |.int j m,.int j' n=>match decide (j=j') with
   |true=>match decide (n=m) with|true=>some (some v)|false=>lookupKey k es
   |false=>none
  |.string s,.string s'=>match s'==s with|true=>some (some v)|false=>lookupKey k es
  |.bool s,.bool s'=>match s'==s with|true=>some (some v)|false=>lookupKey k es
  |_,_=>none
def putKey(k v:Value):List (Value×Value)→List (Value×Value)
 | []=>[(k,v)]
 |(a,u)::es=>
  match lookupKey k [(a,u)] with
  |some (some _)=>(k,v)::es
  |_=>(a,u)::putKey k v es
def zqb(p:Tab)(t:TypeId)(k:Value):Bool:=
 match p.desc t,k with
 |some (.int _),.int _ _|some .string,.string _|some .bool,.bool _=>true
 |_,_=>false
def oMakeMap(h:AHeap):Out:=some (.map (some h.next),h.alloc (.map []))
def lookVal(p:Tab)(et:TypeId)(ok:Bool)(k:Value)(es:List (Value×Value)):Option Value:=
 match lookupKey k es with
 |some (some v)=>some (match ok with|true=>.tuple #[v,.bool true]|false=>v)
 |some none=>
  match p.zero et with
  |some z=>some (match ok with|true=>.tuple #[z,.bool false]|false=>z)
  |none=>none
 |none=>none
def entriesOf(h:AHeap):Value→Option (List (Value×Value))
 |.map none=>some []
 |.map (some r)=>match h.objs.get r with|some (.map es)=>some es|_=>none
 |_=>none
def oLookup(p:Tab)(h:AHeap)(t:TypeId)(m k:Value)(ok:Bool):Out:=
 match p.desc t with
 |some (.map kt et)=>
  match zqb p kt k,entriesOf h m with
  |true,some es=>match lookVal p et ok k es with|some v=>some (v,h)|none=>none
  |_,_=>none
 |_=>none
def oMapUpdate(p:Tab)(h:AHeap)(t:TypeId)(m k v:Value):Out:=
 match p.desc t,m with
 |some (.map kt _),.map (some r)=>
  match zqb p kt k,h.objs.get r,h.owns r with
  |true,some (.map es),true=>match lookupKey k es with
   |some _=>some (undef,h.put r (.map (putKey k v es)))
   |none=>none
  |_,_,_=>none
 |_,_=>none
end
section
inductive AI where
 |code (c:Code)
 |inBlock (id:Nat)
 |inLoop (body:Code)
 |inScope (body:Code)
 |reg (ops:Array Oper) (i:Nat) (rest:List Oper)
 |inRF (l:Nat)
 |endRF (l:Nat)
 |beginRound
structure AF where
 fn:FuncId
 nt:Nat
 tmps:T Value
 todo:List AI
 defers:List Deferred
 ret:Bool
 deferred:Bool
 round:Option Nat
structure S where
 fr:AF
 cs:List AF
 h:AHeap
inductive R where
 |next (s:S)
 |done (v:Value) (h:AHeap)
 |stop (s:S)
 |stuck
inductive OpR where
 |val (v:Value) (h:AHeap)
 |call (f:FuncId) (args:List Value) (h:AHeap)
 |yield (l:Nat) (args:List Value) (h:AHeap)
 |defer (d:Deferred) (h:AHeap)
 |recover (h:AHeap)
def zU:Out→Option OpR
 |some (v,h)=>some (.val v h)
 |none=>none
def evO(e:Ev):Option Operand→Option (Option Value)
 |none=>some none
 |some x=>match e x with|some v=>some (some v)|none=>none
def zac(p:Tab)(f:FuncId)(args:List Value)(h:AHeap):Option OpR:=
 match p.funcs.get f with
 |some fn=>match fn.body with
  |some _=>some (.call f args h)
  |none=>none
 |none=>none
def aCall(p:Tab)(h:AHeap)(e:Ev)(c:Call)(ty:TypeId):Option OpR:=
 match evAll e c.args.toList with
 |none=>none
 |some args=>
  match c.callee with
  |.value g=>
   match e g with
   |some (.func fn first captured)=>
    match fn with
    |.func k=>zac p k (first.toList++args++captured.toList) h
    |.yield l=>match first.toList,captured.toList with
     | [],[]=>match h.objs.get l with
      |some (.loop al)=>match Nat.beq args.length al.params.size with
       |true=>some (.yield l args h)
       |false=>none
      |_=>none
     |_,_=>none
    |_=>none
   |_=>none
  |.invoke _ _=>none
  |.builtin b=>
   match b,args with
   |.append,[s,x]=>match c.argTypes[0]?,c.argTypes[1]?,Nat.beq c.argTypes.size 2 with
    |some sT,some xT,true=>zU (oAppend p h sT xT s x)
    |_,_,_=>none
   |.len,[x]=>match c.argTypes[0]? with
    |some t=>zU (oLen p h t x)
    |_=>none
   |.min,args=>zU (zpb p h .min c.argTypes ty (c.args.map fun|.const _=>true|_=>false) args)
   |.max,args=>zU (zpb p h .max c.argTypes ty (c.args.map fun|.const _=>true|_=>false) args)
   |.cap,args=>zU (zpb p h .cap c.argTypes ty (c.args.map fun|.const _=>true|_=>false) args)
   |.recover,[]=>some (.recover h)
   |_,_=>none
def aop(p:Tab)(h:AHeap)(e:Ev)(o:Oper):Option OpR:=
 match o.op with
 |.move x|.assign x=>match e x with|some v=>some (.val v h)|none=>none
 |.pick c a b=>match e c,e a,e b with
  |some (.bool true),some v,some _=>some (.val v h)
  |some (.bool false),some _,some v=>some (.val v h)
  |_,_,_=>none
 |.alloc t=>zU (oAlloc p h t)
 |.box _ x=>match e x with|some v=>zU (oBox h v)|none=>none
 |.build t parts=>match evParts e parts.toList with|some ps=>zU (oBuild p h t ps)|none=>none
 |.buildSlice t n parts=>match evParts e parts.toList with|some ps=>zU (oBuildSlice p h t n ps)|none=>none
 |.load t a=>match e a with|some v=>zU (oLoad p h t v)|none=>none
 |.store t a x=>match e a,e x with|some u,some v=>zU (oStore p h t u v)|_,_=>none
 |.nilCheck x=>match e x with
  |some (.pointer (some a))=>some (.val (.pointer (some a)) h)
  |some (.func (.func k) a c)=>some (.val (.func (.func k) a c) h)
  |_=>none
 |.binOp op t x y _=>match e x,e y with|some a,some b=>zU (oBin p h op t x y a b)|_,_=>none
 |.unOp op _ x=>match e x with|some a=>zU (oUn p h op a)|none=>none
 |.convert s t x=>match e x with|some a=>zU (oConv p h s t a)|none=>none
 |.makeFunc fn first captured=>match evAll e first.toList,evAll e captured.toList with|some a,some c=>zU (oMakeFunc h fn a c)|_,_=>none
 |.makeMap _ none=>zU (oMakeMap h)
 |.slice t x lo hi mx=>match e x,evO e lo,evO e hi,evO e mx with|some x,some lo,some hi,some mx=>zU (oSlice p h t x lo hi mx)|_,_,_,_=>none
 |.fieldAddr s x i=>match e x with|some v=>zU (oFieldAddr p h s v i)|none=>none
 |.field t x i=>match e x with|some v=>zU (oField p h t v i)|none=>none
 |.indexAddr t x i=>match e x,e i with|some u,some v=>zU (oIndexAddr p h t u v)|_,_=>none
 |.index t x i=>match e x,e i with|some u,some v=>zU (oIndex p h t u v)|_,_=>none
 |.lookup t x k ok=>match e x,e k with|some u,some v=>zU (oLookup p h t u v ok)|_,_=>none
 |.mapUpdate t m k v|.insert t m k v=>match e m,e k,e v with|some m,some k,some v=>zU (oMapUpdate p h t m k v)|_,_,_=>none
 |.extract x i=>match e x with|some v=>zU (oExtract h v i)|none=>none
 |.call c=>aCall p h e c o.type
 |.defer c=>
  match c.callee,evAll e c.args.toList with
  |.value g,some args=>match e g with
   |some (.func (.func k) first captured)=>some (.defer ⟨.fn (.func k) captured,(first.toList++args).toArray⟩ h)
   |_=>none
  |_,_=>none
 |_=>none
end
section
def AF.ev(f:AF):Ev:=Cx.ev f.tmps
def zta(f:AF)(o:Oper)(v:Value)(todo:List AI):Option AF:=
 match o.dst with
 |some d=>match Nat.blt d f.nt with
  |true=>some {f with tmps:=f.tmps.set d v,todo}
  |false=>none
 |none=>some {f with todo}
def exitToA(id:Nat):List AI→Option (List AI)
 |.inBlock i::k=>match Nat.beq i id with|true=>some k|false=>exitToA id k
 |_::k=>exitToA id k
 | []=>none
def gotoInA(l:Nat):List AI→Option (List AI)
 |.inScope body::k=>
  match findLabel body l with
  |some rest=>some (.code rest::.inScope body::k)
  |none=>gotoInA l k
 |_::k=>gotoInA l k
 | []=>none
def zX(ops:Array Oper)(f:AF)(o:Oper):Bool:=
 match o.guard with
 |none=>true
 |some (j,want)=>
  match ops[j]? with
  |some q=>match q.dst with
   |some d=>match f.tmps.get d with
    |some (.bool b)=>b==want
    |_=>false
   |none=>false
  |none=>false
def finishA(f:AF)(v:Value):Option AF:=
 match f.todo with
 |.reg ops i (o::rest)::k=>zta f o v (.reg ops (Nat.succ i) rest::k)
 |.inRF l::k=>some {f with todo:=.endRF l::k}
 |_=>none
def zIa(p:Tab)(k:FuncId)(args:List Value)(deferred:Bool):Option AF:=
 match p.funcs.get k with
 |some fn=>match fn.body with
  |some c=>match Nat.ble args.length fn.ntmps with
   |true=>some {fn:=k,nt:=fn.ntmps,tmps:=args.zipIdx.foldl (fun t x=>t.set x.2 x.1) .e,todo:=[.code c],defers:=[],ret:=false,deferred,round:=none}
   |false=>none
  |none=>none
 |none=>none
def loadResult(p:Tab)(h:AHeap)(t:TypeId)(a:Value):Option Value:=match oLoad p h t a with|some (v,_)=>some v|none=>none
def resultsList(p:Tab)(f:AF)(h:AHeap):List ResultVar→Option (List Value)
 | []=>some []
 |.tmp t::rs=>match resultsList p f h rs with|some l=>some ((f.tmps.get t).getD undef::l)|none=>none
 |.cell a t::rs=>match loadResult p h t ((f.tmps.get a).getD undef),resultsList p f h rs with|some v,some l=>some (v::l)|_,_=>none
def zTb(p:Tab)(f:AF)(h:AHeap):Option Value:=
 match p.funcs.get f.fn with
 |some fn=>match resultsList p f h fn.results.toList with
  |some [v]=>some v
  |some vs=>some (.tuple vs.toArray)
  |none=>none
 |none=>none
def popA(s:S)(v:Value):R:=
 match s.cs with
 | []=>.done v s.h
 |c::cs=>
  match s.fr.deferred with
  |true=>match c.ret with
   |true=>.next {s with fr:=c,cs}
   |false=>.stuck
  |false=>match c.ret,finishA c v with
   |false,some c=>.next {s with fr:=c,cs}
   |_,_=>.stuck
def jumpState:Option Code→LoopState
 |none=>.ready
 |some _=>.done
def jumpNone:Option Code→Bool
 |none=>true
 |some _=>false
def zZb(s:S)(jump:Option Code):R:=
 match s.fr.round with
 |none=>match jump with
  |none=>.next {s with fr:={s.fr with ret:=true}}
  |some .ret=>.next {s with fr:={s.fr with ret:=true}}
  |_=>.stuck
 |some l=>
  match s.h.objs.get l,s.h.owns l with
  |some (.loop r),true=>
   popA {s with h:=s.h.put l (.loop {r with state:=jumpState jump,pending:=jump})} (.bool (jumpNone jump))
  |_,_=>.stuck
def setParams(nt:Nat):List Tmp→List Value→T Value→Option (T Value)
 | [],[],m=>some m
 |t::ts,v::vs,m=>match Nat.blt t nt with
  |true=>setParams nt ts vs (m.set t v)
  |false=>none
 |_,_,_=>none
def zYb(p:Tab)(s:S)(g:Operand)(params:Array Tmp)(assign body:Code)(k:List AI)(h:AHeap)(defers:Nat)(mark:List Deferred):R:=
 let f:=s.fr
 let l:=h.next
 match f.ev g with
 |some (.func (.func fn) first captured)=>
  let h:=h.alloc (.loop {state:=.ready,pending:=none,fn:=f.fn,nt:=f.nt,tmps:=f.tmps,params,assign,body,defers})
  match zac p fn (first.toList++[.func (.yield l) #[] #[]]++captured.toList) h with
  |some (.call fn args h)=>match zIa p fn args false with
   |some fr=>.next {fr,cs:={f with todo:=.inRF l::k,defers:=mark++f.defers}::s.cs,h}
   |none=>.stuck
  |_=>.stuck
 |_=>.stuck
def opA(p:Tab)(s:S)(ops:Array Oper)(i:Nat)(o:Oper)(rest:List Oper)(k:List AI):R:=
 let f:=s.fr
 match aop p s.h f.ev o with
 |some (.val v h)=>match zta f o v (.reg ops (Nat.succ i) rest::k) with
  |some fr=>.next {s with fr,h}
  |none=>.stuck
 |some (.call g args h)=>match zIa p g args false with
  |some fr=>.next {fr,cs:=f::s.cs,h}
  |none=>.stuck
 |some (.yield l args h)=>match h.objs.get l with
  |some (.loop r)=>match setParams r.nt r.params.toList args r.tmps with
   |some t=>.next {fr:={fn:=r.fn,nt:=r.nt,tmps:=t,todo:=[.code r.assign,.beginRound,.code r.body],defers:=[],ret:=false,deferred:=false,round:=some l},cs:=f::s.cs,h}
   |none=>.stuck
  |_=>.stuck
 |some (.defer d h)=>match f.round,zta {f with defers:=d::f.defers} o undef (.reg ops (Nat.succ i) rest::k) with
  |none,some fr=>.next {s with fr,h}
  |_,_=>.stuck
 |some (.recover h)=>match f.round,f.deferred,s.cs with
  |none,true,c::_=>match c.ret with
   |true=>match zta f o .nilIface (.reg ops (Nat.succ i) rest::k) with
    |some fr=>.next {s with fr,h}
    |none=>.stuck
   |false=>.stuck
  |_,_,_=>.stuck
 |none=>.stop s
def retA(p:Tab)(s:S):R:=
 let f:=s.fr
 match f.defers with
 |d::ds=>
  match d.target with
  |.collected b=>
   match s.h.objs.get b,s.h.owns b with
   |some (.deferred (some calls)),true=>.next {s with fr:={f with defers:=calls++ds},h:=s.h.put b (.deferred none)}
   |_,_=>.stuck
  |.fn (.func g) captured=>
   match zac p g (d.args.toList++captured.toList) s.h with
   |some (.call g args h)=>match zIa p g args true with
    |some fr=>.next {fr,cs:={f with defers:=ds}::s.cs,h}
    |none=>.stuck
   |_=>.stuck
  |_=>.stuck
 | []=>match zTb p f s.h with
  |some v=>popA s v
  |none=>.stuck
def step(p:Tab)(s:S):R:=
 let f:=s.fr
 match f.ret with
 |true=>retA p s
 |false=>
  match f.todo with
  | []=>zZb s none
  |i::k=>
   let to (todo:List AI):R:=.next {s with fr:={f with todo}}
   match i with
   |.code c=>
    match c with
    |.ret=>zZb s (some .ret)
    |.skip|.label _=>to k
    |.seq a b=>to (.code a::.code b::k)
    |.cond c thn els=>match f.ev c with
     |some (.bool true)=>to (.code thn::k)
     |some (.bool false)=>to (.code els::k)
     |_=>.stuck
    |.block id body=>to (.code body::.inBlock id::k)
    |.loop body=>to (.code body::.inLoop body::k)
    |.scope body=>to (.code body::.inScope body::k)
    |.exit id=>match exitToA id k with
     |some k=>to k
     |none=>zZb s (some (.exit id))
    |.goto l=>match gotoInA l k with
     |some k=>to k
     |none=>zZb s (some (.goto l))
    |.region _ ops draw=>match draw with
     |false=>to (.reg ops 0 ops.toList::k)
     |true=>.stuck
    |.rangeFunc g params assign body=>
     match f.round with
     |some l=>match s.h.objs.get l with
      |some (.loop r)=>zYb p s g params assign body k s.h r.defers []
      |_=>.stuck
     |none=>zYb p s g params assign body k (s.h.alloc (.deferred (some []))) s.h.next [⟨.collected s.h.next,#[]⟩]
    |.refuse _=>.stuck
   |.inBlock _|.inScope _=>to k
   |.inLoop body=>to (.code body::.inLoop body::k)
   |.reg ops i rest=>
    match rest with
    | []=>to k
    |o::rest=>
     match zX ops f o with
     |false=>match zta f o undef (.reg ops (Nat.succ i) rest::k) with
      |some fr=>.next {s with fr}
      |none=>.stuck
     |true=>opA p s ops i o rest k
   |.inRF _=>.stuck
   |.beginRound=>
    match f.round with
    |some l=>match s.h.objs.get l,s.h.owns l with
     |some (.loop r),true=>match r.state with
      |.ready=>.next {s with fr:={f with todo:=k},h:=s.h.put l (.loop {r with state:=.busy})}
      |_=>.stuck
     |_,_=>.stuck
    |none=>.stuck
   |.endRF l=>
    match s.h.objs.get l,s.h.owns l with
    |some (.loop r),true=>match r.state with
     |.busy=>.stuck
     |_=>.next {s with fr:={f with todo:=(match r.pending with|some c=>.code c::k|none=>k)},h:=s.h.put l (.loop {r with state:=.exhausted})}
    |_,_=>.stuck
def run(p:Tab):Nat→S→R
 |0,s=>.next s
 |n+1,s=>
  match step p s with
  |.next s=>run p n s
  |r=>r
end
end Go.Cx
