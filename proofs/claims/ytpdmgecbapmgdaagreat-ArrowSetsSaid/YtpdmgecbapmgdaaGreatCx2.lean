/- Ground of proofs about package arrow: it says nothing by itself, without a condition. -/
import Derived.Test.YtpdmgecbapmgdaaGreatCx1
import Derived.Conc.Own
set_option linter.unusedSimpArgs false
set_option linter.unusedVariables false
namespace Go.Cx
section
variable {p:Tab}{f:Inj}{Mi Sh:Loc→Prop}{h h':AHeap}{w:World}
inductive VORel(f:Inj):Option Value→Option Value→Prop where
 |none:VORel f none none
 |some {v v':Value} (h:VRel f v v'):VORel f (some v) (some v')
theorem natOf_rel{v v':Value}{n:Nat}(hv:VRel f v v')(hn:natOf v=some n):∃ k,v'=.int k (Int.ofNat n):=by
 cases hv with
 |int k m=>
  cases m with
  |ofNat m=>simp[natOf] at hn;subst hn;exact⟨k,rfl⟩
  |negSucc m=>simp[natOf] at hn
 |_=>simp[natOf] at hn
theorem zl(P:Program)(w:World){k:IntKind}{n y:Nat}(h:n≤y)(c:BoundsCode):(Instr.sliceBound (.int k (Int.ofNat n)) y c).run P w=.ok n w∧∀ es,(Instr.sliceBound (.int k (Int.ofNat n)) y c).events P w es=es:=by
 have:(0:Int)≤Int.ofNat n∧Int.ofNat n≤(y:Int):=⟨Int.natCast_nonneg n,by show(n:Int)≤(y:Int);exact_mod_cast h⟩;constructor
 ·simp[Instr.sliceBound,asIntOf,h]
 ·intro es;simp[Instr.sliceBound,asIntOf,h]
theorem zQa{lo lo':Option Value}{d n:Nat}(hl:VORel f lo lo')(hn:bound d lo=some n):(lo'=none∧lo=none∧n=d)∨∃ k,lo'=some (.int k (Int.ofNat n))∧lo.isSome=true:=by
 cases hl with
 |none=>simp[bound] at hn;exact .inl ⟨rfl,rfl,hn.symm⟩
 |some hv=>obtain⟨k,rfl⟩:=natOf_rel hv hn;exact .inr ⟨k,rfl,rfl⟩
theorem sliceBounds_run(P:Program)(w:World){isS:Bool}{len cap l u m:Nat}{lo hi mx lo' hi' mx':Option Value}(hl:VORel f lo lo')(hh:VORel f hi hi')(hm:VORel f mx mx')(el:bound 0 lo=some l)(eh:bound len hi=some u)(em:bound cap mx=some m)
  {cap' m':Nat} (hm':m'=if mx.isSome then m else cap') (h1:l≤u) (h2:u≤m) (h3:m≤cap) (hcc:cap≤cap') (h4:mx=none∨hi.isSome=true) :
  (Instr.sliceBounds isS len cap' lo' hi' mx').run P w=.ok (l,u,m') w∧∀ es,(Instr.sliceBounds isS len cap' lo' hi' mx').events P w es=es:=by
 have key:∀(M:Nat),u≤M→∀ c c':BoundsCode,(Instr.sliceBounds isS len cap' lo' hi' mx').run P w=.ok (l,u,m') w→True:=fun _ _ _ _ _=>trivial
 rcases zQa hm em with⟨rfl,rfl,rfl⟩|⟨km,rfl,hms⟩
 ·simp only[Option.isSome_none,Bool.false_eq_true,if_false] at hm';subst hm';rcases zQa hh eh with⟨rfl,rfl,rfl⟩|⟨kh,rfl,hhs⟩
  ·rcases zQa hl el with⟨rfl,rfl,rfl⟩|⟨kl,rfl,hls⟩
   ·constructor
    ·simp[Instr.sliceBounds]
    ·intro es;simp[Instr.sliceBounds]
   ·constructor
    ·simp only[Instr.sliceBounds,Sem.run_bind,Sem.run_pure,Result.andThen_ok,(zl P w h1 _).1]
    ·intro es;simp only[Instr.sliceBounds,Sem.events_bind,Sem.run_pure,Sem.events_pure,Result.evThen_ok,(zl P w h1 _).1,(zl P w h1 _).2]
  ·rcases zQa hl el with⟨rfl,rfl,rfl⟩|⟨kl,rfl,hls⟩
   ·constructor
    ·simp only[Instr.sliceBounds,Sem.run_bind,Sem.run_pure,Result.andThen_ok,(zl P w (Nat.le_trans (Nat.le_trans h2 h3) hcc) _).1]
    ·intro es;simp only[Instr.sliceBounds,Sem.events_bind,Sem.run_pure,Sem.events_pure,Result.evThen_ok,(zl P w (Nat.le_trans (Nat.le_trans h2 h3) hcc) _).1,(zl P w (Nat.le_trans (Nat.le_trans h2 h3) hcc) _).2]
   ·constructor
    ·simp only[Instr.sliceBounds,Sem.run_bind,Sem.run_pure,Result.andThen_ok,(zl P w (Nat.le_trans (Nat.le_trans h2 h3) hcc) _).1,(zl P w h1 _).1]
    ·intro es;simp only[Instr.sliceBounds,Sem.events_bind,Sem.run_pure,Sem.events_pure,Result.evThen_ok,(zl P w (Nat.le_trans (Nat.le_trans h2 h3) hcc) _).1,(zl P w (Nat.le_trans (Nat.le_trans h2 h3) hcc) _).2,(zl P w h1 _).1,(zl P w h1 _).2]
 ·rw[if_pos hms] at hm';subst hm';have hh4:hi.isSome=true:=h4.resolve_left (by intro e;subst e;cases hms);rcases zQa hh eh with⟨rfl,rfl,rfl⟩|⟨kh,rfl,hhs⟩
  ·cases hh4
  ·rcases zQa hl el with⟨rfl,rfl,rfl⟩|⟨kl,rfl,hls⟩
   ·constructor
    ·simp only[Instr.sliceBounds,Sem.run_bind,Sem.run_pure,Result.andThen_ok,(zl P w (Nat.le_trans h3 hcc) _).1,(zl P w h2 _).1]
    ·intro es;simp only[Instr.sliceBounds,Sem.events_bind,Sem.run_pure,Sem.events_pure,Result.evThen_ok,(zl P w (Nat.le_trans h3 hcc) _).1,(zl P w (Nat.le_trans h3 hcc) _).2,(zl P w h2 _).1,(zl P w h2 _).2]
   ·constructor
    ·simp only[Instr.sliceBounds,Sem.run_bind,Sem.run_pure,Result.andThen_ok,(zl P w (Nat.le_trans h3 hcc) _).1,(zl P w h2 _).1,(zl P w h1 _).1]
    ·intro es;simp only[Instr.sliceBounds,Sem.events_bind,Sem.run_pure,Sem.events_pure,Result.evThen_ok,(zl P w (Nat.le_trans h3 hcc) _).1,(zl P w (Nat.le_trans h3 hcc) _).2,(zl P w h2 _).1,(zl P w h2 _).2,(zl P w h1 _).1,(zl P w h1 _).2]
theorem vorel_closed{v v':Option Value}(h:VORel f v v')(hc:cloO v=true):v'=v:=by
 cases h with
 |none=>rfl
 |some h=>rw[h.eq_of_closed (show closed zY _=true from hc)]
theorem slOff_eq(m l off s:Nat):slOff m l off s=if m=l then off else off+l*s:=by
 unfold slOff;by_cases h:m=l
 ·rw[T.beq_true h,if_pos h]
 ·rw[T.beq_false h,if_neg h];rfl
theorem sliceClosed_sound(hr:HRel f (fun l=>Mi l∨Sh l) Mi h w){t:TypeId}{x x' v:Value}{lo hi mx lo' hi' mx':Option Value}(hx:VRel f x x')(hl:VORel f lo lo')(hh:VORel f hi hi')(hm:VORel f mx mx')
  (ho:zFa p h t x lo hi mx=some (v,h')):After p.prog f Mi Sh h w (Instr.sliceAt t x' lo' hi' mx') v h':=by
 unfold zFa at ho;split at ho
 ·next e1=>
  simp only[Bool.and_eq_true] at e1;obtain rfl:=hx.eq_of_closed e1.1.1.1;obtain rfl:=vorel_closed hl e1.1.1.2;obtain rfl:=vorel_closed hh e1.1.2;obtain rfl:=vorel_closed hm e1.2;split at ho
  ·next r e3=>
   cases e4:closed zY r with
   |false=>rw[e4] at ho;cases ho
   |true=>rw[e4] at ho;cases ho;exact zr hr (fun es=>zdb e3 w es) (zB _ _ e4)
  ·cases ho
 ·cases ho
theorem slice_sound(hp:TabOk p)(hr:HRel f (fun l=>Mi l∨Sh l) Mi h w){t:TypeId}{x x' v:Value}{lo hi mx lo' hi' mx':Option Value}(hx:VRel f x x')(hl:VORel f lo lo')(hh:VORel f hi hi')(hm:VORel f mx mx')
  (ho:oSlice p h t x lo hi mx=some (v,h')):After p.prog f Mi Sh h w (Instr.sliceAt t x' lo' hi' mx') v h':=by
 have closedCase:=fun(ho:zFa p h t x lo hi mx=some (v,h'))=>sliceClosed_sound hr hx hl hh hm ho
 cases hx with
 |slice hb hcc he hu=>
  rename_i b off len cap cap' y;simp only[oSlice] at ho;split at ho
  ·next e un e1 e2=>
   split at ho
   ·next s l u m e3 el eh em=>
    split at ho
    ·next hq=>
     cases ho;simp only[Bool.and_eq_true,Bool.or_eq_true] at hq;obtain⟨⟨⟨⟨⟨q1,q2⟩,q3⟩,q4⟩,q5⟩,q6⟩:=hq;have q1:=Nat.le_of_ble_eq_true q1;have q2:=Nat.le_of_ble_eq_true q2;have q3:=Nat.le_of_ble_eq_true q3
     have hyu:y.unit=un:=by
      obtain⟨o,k1,k2⟩:=hr.obj b y hb;unfold unitOf at e2;rw[k1] at e2;cases o with
      |cells c un' r ba mm=>cases e2;exact k2.1
      |map es=>cases e2
      |loop es=>cases e2
      |deferred es=>cases e2
     generalize hm':(if mx.isSome then m else cap')=m';have hmm:m≤m':=by
      rw[←hm'];split
      ·exact Nat.le_refl _
      ·omega
     have hmc:m'≤cap':=by
      rw[←hm'];split
      ·omega
      ·exact Nat.le_refl _
     obtain⟨r1,r2⟩:=sliceBounds_run p.prog w (isS:=true) hl hh hm el eh em hm'.symm q1 q2 q3 hcc (by
      rcases q6 with q|q
      ·left;simpa using q
      ·exact .inr q)
     have hexact:un=0→m'=m:=by
      intro h0;have:=he (by omega);rw[←hm'];split
      ·rfl
      ·next hn=>
       have:mx=none:=by simpa using hn
       subst this;simp[bound] at em;omega
     have hlm:(m'=l)=(m=l):=by
      apply propext;by_cases h0:un=0
      ·rw[hexact h0]
      ·rcases q5 with(q|q)|q
       ·exact absurd (Nat.eq_of_beq_eq_true q) h0
       ·rw[←hm',if_pos q]
       ·have q:l<m:=Nat.lt_of_succ_le (by simpa[Nat.blt] using q);constructor<;>intro<;>omega
     refine zr hr (v':=.slice (some ⟨y.blk,y.off+(if m=l then off else off+l*s),none⟩) (u-l) (m'-l)) (fun es=>⟨?_,?_⟩) ?_
     ·simp only[Instr.sliceAt,Instr.slice,Sem.run_bind,zb hp w e1,Result.andThen_ok,r1,zh hp w e3,Sem.run_pure];by_cases hml:m=l
      ·simp[hlm,hml]
      ·simp[hlm,hml,add_plain,Nat.add_assoc]
     ·simp only[Instr.sliceAt,Instr.slice,Sem.events_bind,Sem.run_bind,zb hp w e1,events_underlying,Result.andThen_ok,Result.evThen_ok,r1,r2,zh hp w e3,events_sizeOf,Sem.events_pure]
     ·rw[slOff_eq];refine .slice hb (by show m-l≤m'-l;omega) (fun h0=>by rw[hexact (by omega)];rfl) (fun h0=>?_);have:=hu h0;have hus:y.unit=s:=by
       rcases q4 with q|q
       ·exact absurd (Nat.eq_of_beq_eq_true q) (by omega)
       ·have:=Nat.eq_of_beq_eq_true q;omega
      have hle:l*y.unit+(m'-l)*y.unit≤cap'*y.unit:=by rw[←Nat.add_mul];exact Nat.mul_le_mul_right _ (by omega)
      split
      ·have:(m'-l)*y.unit≤cap'*y.unit:=Nat.mul_le_mul_right _ (by omega);omega
      ·have h2:y.off+off+cap'*s≤y.room:=by rw[←hus];exact hu h0
       rw[hus] at hle ⊢;omega
    ·cases ho
   ·cases ho
  ·cases ho
 |ptr hb=>exact closedCase (by simpa[oSlice] using ho)
 |bool b=>exact closedCase (by simpa[oSlice] using ho)
 |int k n=>exact closedCase (by simpa[oSlice] using ho)
 |string s=>exact closedCase (by simpa[oSlice] using ho)
 |ptrNil=>exact closedCase (by simpa[oSlice] using ho)
 |sliceNil n c=>exact closedCase (by simpa[oSlice] using ho)
 |mapNil=>exact closedCase (by simpa[oSlice] using ho)
 |map hb=>exact closedCase (by simpa[oSlice] using ho)
 |func a b c=>exact closedCase (by simpa[oSlice] using ho)
 |yield a=>exact closedCase (by simpa[oSlice] using ho)
 |nilFunc=>exact closedCase (by simpa[oSlice] using ho)
 |nilIface=>exact closedCase (by simpa[oSlice] using ho)
 |iface t a=>exact closedCase (by simpa[oSlice] using ho)
 |agg a=>exact closedCase (by simpa[oSlice] using ho)
 |tuple a=>exact closedCase (by simpa[oSlice] using ho)
theorem zXb{place:Nat→Option (Nat×Nat)}:∀{parts parts':List (Nat×Value)} {cs cs' r:Array Value},List.length parts=List.length parts'→(∀(i:Nat) (a a':Nat×Value),parts[i]? = some a→parts'[i]? = some a'→a.1=a'.1∧VRel f a.2 a'.2) →
  VsRel f cs.toList cs'.toList→Instr.fill place cs parts=some r→∃ r',Instr.fill place cs' parts'=some r'∧VsRel f r.toList r'.toList
 | [],[],cs,cs',r,_,_,hc,ho=>by simp only[Instr.fill,Option.some.injEq] at ho ⊢;subst ho;exact⟨_,rfl,hc⟩
 | (i,v)::ps,(i',v')::ps',cs,cs',r,hl,hp,hc,ho=>by
  obtain⟨e1,e2⟩:=hp 0 _ _ rfl rfl;simp only at e1 e2;subst e1;simp only[Instr.fill] at ho ⊢;cases ep:place i with
  |none=>rw[ep] at ho;cases ho
  |some os=>
   obtain⟨off,size⟩:=os;rw[ep] at ho;simp only at ho ⊢;have hvc:=e2.cells;have h1:v'.cells.size=v.cells.size:=by simpa using hvc.length.symm
   have h2:cs'.size=cs.size:=by simpa using hc.length.symm
   rw[h1,h2];split at ho
   ·cases ho
   ·next hcond=>
    rw[if_neg hcond];refine zXb (by simpa using hl) (fun j a a' ha ha'=>hp (j+1) a a' (by simpa using ha) (by simpa using ha')) ?_ ho
    have fold:∀(l l':List Value) (k:Nat) (c c':Array Value),VsRel f l l'→VsRel f c.toList c'.toList →
      VsRel f ((l.zipIdx k).foldl (fun cs x=>cs.setIfInBounds (off+x.2) x.1) c).toList ((l'.zipIdx k).foldl (fun cs x=>cs.setIfInBounds (off+x.2) x.1) c').toList:=by
     intro l
     induction l with
     |nil=>intro l' k c c' hl hc;cases hl;exact hc
     |cons a l ih=>
      intro l' k c c' hl hc;cases hl with
      |cons h t=>simp only[List.zipIdx_cons,List.foldl_cons];refine ih _ _ _ _ t ?_;simpa using hc.set h (off+k)
    have:=fold v.cells.toList v'.cells.toList 0 cs cs' hvc hc;simpa[Array.foldl_toList,←Array.toList_zipIdx] using this
 | [],_::_,_,_,_,hl,_,_,_=>by simp at hl
 |_::_,[],_,_,_,hl,_,_,_=>by simp at hl
end
section
variable {p:Tab}{f:Inj}{Mi Sh:Loc→Prop}{h h':AHeap}{w:World}
def PartsRel(f:Inj)(l l':List (Nat×Value)):Prop:=l.length=l'.length∧∀(i:Nat) (a a':Nat×Value),l[i]? = some a→l'[i]? = some a'→a.1=a'.1∧VRel f a.2 a'.2
theorem mapM_pure{α β:Type}{P:Program}{w:World}{g:α→Sem β}{k:α→Option β}(hg:∀ a b,k a=some b→∀ es,(g a).run P w=.ok b w∧(g a).events P w es=es) :
  ∀(l:List α) (r:List β),l.mapM k=some r→∀ es,(l.mapM g).run P w=.ok r w∧(l.mapM g).events P w es=es
 | [],r,h,es=>by simp at h;subst h;exact⟨rfl,rfl⟩
 |a::l,r,h,es=>by
  rw[List.mapM_cons] at h ⊢;cases ek:k a with
  |none=>rw[ek] at h;cases h
  |some b=>
   rw[ek] at h;cases el:l.mapM k with
   |none=>rw[el] at h;cases h
   |some r'=>rw[el] at h;cases h;obtain⟨h1,h2⟩:=hg a b ek es;obtain⟨g1,g2⟩:=mapM_pure hg l r' el es;exact⟨by simp[h1,g1],by simp[h1,h2,g1,g2]⟩
theorem build_sound(hp:TabOk p)(hr:HRel f (fun l=>Mi l∨Sh l) Mi h w){t:TypeId}{ps:List (Nat×Value)}{ps':Array (Nat×Value)}{v:Value}(hps:PartsRel f ps ps'.toList)(ho:oBuild p h t ps=some (v,h')) :
  After p.prog f Mi Sh h w (Instr.build t ps') v h':=by
 unfold oBuild at ho;split at ho
 ·next z fs e1 e2=>
  split at ho
  ·next places e3=>
   split at ho
   ·next cells e4=>
    cases ho;have hz:=(zB (f:=f) _ _ (zaa e1).1).cells;obtain⟨cells',k1,k2⟩:=zXb hps.1 hps.2 hz e4;have hmap:=fun es=>mapM_pure (P:=p.prog) (w:=w) (g:=fun fd:Field=>(do pure (fd.offset,←sizeOf fd.type):Sem (Nat×Nat))) (k:=fun fd=>match p.size fd.type with|some s=>some (fd.offset,s)|none=>none) (fun a b hb es=>by
     cases ea:p.size a.type with
     |none=>rw[ea] at hb;cases hb
     |some s=>rw[ea] at hb;cases hb;exact⟨by simp[zh hp w ea],by simp[zh hp w ea]⟩) fs.toList places e3 es
    have hmapA:∀ es,(fs.mapM (fun fd:Field=>(do pure (fd.offset,←sizeOf fd.type):Sem (Nat×Nat)))).run p.prog w=.ok places.toArray w∧(fs.mapM (fun fd:Field=>(do pure (fd.offset,←sizeOf fd.type):Sem (Nat×Nat)))).events p.prog w es=es:=by
     intro es;have:(fs.mapM (fun fd:Field=>(do pure (fd.offset,←sizeOf fd.type):Sem (Nat×Nat))))=Functor.map List.toArray (fs.toList.mapM (fun fd:Field=>(do pure (fd.offset,←sizeOf fd.type):Sem (Nat×Nat)))):=by rw[←Array.toArray_toList (xs:=fs),List.mapM_toArray]
     rw[this];exact⟨by simp only[Sem.run_map,(hmap es).1,Result.andThen_ok],by simp only[Sem.events_map,(hmap es).2]⟩
    refine zr hr (v':=.agg cells') (fun es=>⟨?_,?_⟩) (.agg k2)
    ·simp only[Instr.build,Sem.run_bind,zk hp w e1,Result.andThen_ok,zb hp w e2,(hmapA es).1];simp[k1]
    ·simp only[Instr.build,Sem.events_bind,Sem.run_bind,zk hp w e1,events_zeroValue,Result.andThen_ok,Result.evThen_ok,zb hp w e2,events_underlying,(hmapA es).1,(hmapA es).2];simp[k1]
   ·cases ho
  ·cases ho
 ·next z n e e1 e2=>
  split at ho
  ·next s e3=>
   split at ho
   ·next cells e4=>
    cases ho;have hz:=(zB (f:=f) _ _ (zaa e1).1).cells;obtain⟨cells',k1,k2⟩:=zXb hps.1 hps.2 hz e4;refine zr hr (v':=.agg cells') (fun es=>⟨?_,?_⟩) (.agg k2)
    ·simp only[Instr.build,Sem.run_bind,zk hp w e1,Result.andThen_ok,zb hp w e2,zh hp w e3];simp[k1]
    ·simp only[Instr.build,Sem.events_bind,Sem.run_bind,zk hp w e1,events_zeroValue,Result.andThen_ok,Result.evThen_ok,zb hp w e2,events_underlying,zh hp w e3,events_sizeOf];simp[k1]
   ·cases ho
  ·cases ho
 ·cases ho
theorem closed_cells{z:Value}(h:closed zY z=true):∀ i:Nat,VRel f (z.cells[i]!) (z.cells[i]!):=by
 intro i;have hc:=(zB (f:=f) _ _ h).cells;by_cases hi:i<z.cells.size
 ·have e:z.cells.toList[i]? = some z.cells[i]!:=by simp[hi]
  obtain⟨v',h1,h2⟩:=hc.get i e;rw[e] at h1;cases h1;exact h2
 ·have:z.cells[i]! = default:=by simp[hi]
  rw[this];exact .bool false
theorem buildSlice_sound(hp:TabOk p)(hr:HRel f (fun l=>Mi l∨Sh l) Mi h w){t:TypeId}{len:Nat}{ps:List (Nat×Value)}{ps':Array (Nat×Value)}{v:Value}(hps:PartsRel f ps ps'.toList)(ho:oBuildSlice p h t len ps=some (v,h')) :
  After p.prog f Mi Sh h w (Instr.buildSlice t len ps') v h':=by
 unfold oBuildSlice at ho;split at ho
 ·next e e1=>
  split at ho
  ·next s z e2 e3=>
   split at ho
   ·next hle=>
    have hle:len*s≤16777216:=Nat.le_of_ble_eq_true hle;split at ho
    ·next cells e4=>
     cases ho;have hz:=(zaa e3).1;have hfill:VsRel f (if len*s=0 then #[] else(Array.range (len*s)).map (z.cells[· % z.cells.size]!)).toList (if len*s=0 then #[] else(Array.range (len*s)).map (z.cells[· % z.cells.size]!)).toList:=by
      refine VsRel.of_get rfl fun i v v' a b=>?_
      rw[a] at b;cases b;by_cases h0:len*s=0
      ·rw[if_pos h0] at a;simp at a
      ·rw[if_neg h0] at a;simp only[Array.toList_map,List.getElem?_map,Option.map_eq_some_iff] at a;obtain⟨j,_,rfl⟩:=a;exact closed_cells hz _
     obtain⟨cells',k1,k2⟩:=zXb hps.1 hps.2 hfill e4;obtain⟨w',r1,r2,r3,r4⟩:=newRow_sound hr p.prog e k2 0;have hbig:¬(len*s>2 ^ 24):=by
      have:(2:Nat) ^ 24=16777216:=by decide
      omega
     have hbig':¬(16777216<len*s):=by omega
     have hr0:∀ g:Nat→Value,(Array.range 0).map g=#[]:=fun g=>Array.eq_empty_of_size_eq_zero (by simp)
     refine⟨.slice (some ⟨w.heap.size,0,none⟩) len len,w',_,_,?_,zQb hr _,.slice (Inj.put_same _ _ _) (Nat.le_refl _) (fun _=>rfl) (fun h0=>absurd rfl h0),?_,r4,.row hr _ _ _⟩
     ·by_cases h0:len*s=0
      ·rw[if_pos h0] at k1;simp only[Instr.buildSlice,Sem.run_bind,zb hp w e1,Result.andThen_ok,zh hp w e2,hbig,if_false,h0,if_true,Sem.run_pure];simp only[hr0,k1];simp[r1]
      ·rw[if_neg h0] at k1;simp only[Instr.buildSlice,Sem.run_bind,zb hp w e1,Result.andThen_ok,zh hp w e2,hbig,if_false,h0,zk hp w e3,Sem.run_pure];simp[k1,r1,h0]
     ·have:(Instr.buildSlice t len ps').events p.prog w #[]=#[]:=by
       by_cases h0:len*s=0
       ·rw[if_pos h0] at k1;simp only[Instr.buildSlice,Sem.events_bind,Sem.run_bind,zb hp w e1,events_underlying,Result.andThen_ok,Result.evThen_ok,zh hp w e2,events_sizeOf,hbig,if_false,h0,if_true,Sem.run_pure];simp only[hr0,k1];simp[r1,r2]
       ·rw[if_neg h0] at k1;simp only[Instr.buildSlice,Sem.events_bind,Sem.run_bind,zb hp w e1,events_underlying,Result.andThen_ok,Result.evThen_ok,zh hp w e2,events_sizeOf,hbig,if_false,h0,zk hp w e3,events_zeroValue,Sem.run_pure];simp[k1,r1,r2,h0]
      rw[this];exact r3
    ·cases ho
   ·cases ho
  ·cases ho
 ·cases ho
theorem len_sound(hp:TabOk p)(hr:HRel f (fun l=>Mi l∨Sh l) Mi h w){t ty:TypeId}{ts:Array TypeId}{args:Array Value}{x x' v:Value}(ht:ts[0]? = some t)(hx:VRel f x x')(ha:args[0]? = some x')(ho:oLen p h t x=some (v,h')) :
  After p.prog f Mi Sh h w (Builtin.len_ ts ty args) v h':=by
 unfold oLen at ho;split at ho
 ·next s e1=>cases ho;cases hx;exact zr hr (v':=.int .i64 s.size) (fun es=>⟨by simp[Builtin.len_,ht,ha,zb hp w e1,goInt],by simp[Builtin.len_,ht,ha,zb hp w e1,goInt]⟩) (.int _ _)
 ·next e a n c e1=>
  cases ho;cases hx with
  |sliceNil=>exact zr hr (v':=.int .i64 n) (fun es=>⟨by simp[Builtin.len_,ht,ha,zb hp w e1,goInt],by simp[Builtin.len_,ht,ha,zb hp w e1,goInt]⟩) (.int _ _)
  |slice hb hc he hu=>exact zr hr (v':=.int .i64 n) (fun es=>⟨by simp[Builtin.len_,ht,ha,zb hp w e1,goInt],by simp[Builtin.len_,ht,ha,zb hp w e1,goInt]⟩) (.int _ _)
 ·next n e e1=>cases ho;exact zr hr (v':=.int .i64 n) (fun es=>⟨by simp[Builtin.len_,ht,ha,zb hp w e1,goInt],by simp[Builtin.len_,ht,ha,zb hp w e1,goInt]⟩) (.int _ _)
 ·cases ho
end
section
variable {p:Tab}{f:Inj}{K Mi Sh:Loc→Prop}{h h':AHeap}{w:World}
theorem putObj_rel(hr:HRel f K Mi h w){r:Nat}{x:Base}{o o1:AObj}{O O':Obj}{w':World}(hrx:f r=some x)(hro:h.objs.get r=some o)(hsh:zoa o o1)(hnc:∀ c un ro ba m,o≠.cells c un ro ba m)
  (hw:w'.heap=w.heap.setIfInBounds x.blk O') (hO:w.heap[x.blk]? = some O) (ho1:∀ w₂:World,w₂.heap[x.blk]? = some O'→ORel f K x o1 w₂) :
  HRel f K Mi (h.put r o1) w':=by
 have hlt:x.blk<w.heap.size:=(Array.getElem?_eq_some_iff.1 hO).1;have hnew:w'.heap[x.blk]? = some O':=by rw[hw];simp[hlt]
 have hoth:∀ k,k≠x.blk→w'.heap[k]? = w.heap[k]?:=fun k hk=>by rw[hw,Array.getElem?_setIfInBounds_ne (Ne.symm hk)]
 have shaped:znb h.objs (h.objs.set r o1):=by
  intro b;by_cases hb:b=r
  ·subst hb;rw[T.get_set_same];exact⟨fun e=>(by rw[hro] at e;cases e),fun o' e=>by rw[hro] at e;cases e;exact⟨_,rfl,hsh⟩⟩
  ·rw[T.get_set_ne _ _ hb];exact⟨fun e=>e,fun o' e=>⟨o',e,.refl _⟩⟩
 have hroot:rootOf r o=r:=by
  cases o with
  |cells c un ro ba m=>exact absurd rfl (hnc _ _ _ _ _)
  |_=>rfl
 refine⟨znb.wf hr.wf shaped,fun b y eb=>?_,hr.mine,hr.part,fun i i' y y' o o' ei ei' eo eo' hne=>?_,fun i i' y y' o o' ei ei' eo eo' he hy=>?_,hr.home⟩
 ·by_cases hb:b=r
  ·subst hb;rw[hrx] at eb;cases eb;exact⟨o1,T.get_set_same _ _ _,ho1 _ hnew⟩
  ·obtain⟨o',g1,g2⟩:=hr.obj b y eb;refine⟨o',(T.get_set_ne h.objs o1 hb).trans g1,?_⟩;have hroot':rootOf b o'≠r:=by
    cases o' with
    |cells c un ro ba m=>intro e;simp only[rootOf] at e;subst e;obtain⟨_,_,c1,x1,m1,hh⟩:=hr.wf.mem b _ _ _ _ _ g1;rw[hro] at hh;cases hh;exact hnc _ _ _ _ _ rfl
    |_=>exact hb
   have hblk:y.blk≠x.blk:=hr.apart b r y x _ _ eb hrx g1 hro (by rw[hroot];exact hroot');refine g2.env (K':=K) (fun o eo=>?_) fun _ h=>h
   have:=(hoth _ hblk).trans eo;cases o<;>simp only[]<;>first|exact⟨_,this,rfl,fun _ _=>rfl⟩|exact fun _=>this
 ·obtain⟨o0,e1,e2⟩:=shaped.back eo;obtain⟨o2,e3,e4⟩:=shaped.back eo';rw[e2.root,e4.root] at hne;exact hr.apart i i' y y' o0 o2 ei ei' e1 e3 hne
 ·obtain⟨o0,e1,e2⟩:=shaped.back eo;obtain⟨o2,e3,e4⟩:=shaped.back eo';rw[e2.root,e4.root] at he;rw[e2.base,e4.base];exact hr.coord i i' y y' o0 o2 ei ei' e1 e3 he hy
theorem env_putObj{r:Nat}{O O':Obj}{w':World}(hw:w'={w with heap:=w.heap.setIfInBounds r O'})(hO:w.heap[r]? = some O)(hnc:∀ c e fr,O≠.cells c e fr)(hm:Mi (.obj r)):Env (fun l=>¬ Mi l) w w':=by
 subst hw;refine⟨by simp,rfl,rfl,rfl,fun k o eo=>?_⟩;by_cases hk:k=r
 ·subst hk;rw[hO] at eo;cases eo;cases O with
  |cells c e fr=>exact absurd rfl (hnc _ _ _)
  |_=>exact fun h=>absurd hm h
 ·have:(w.heap.setIfInBounds r O')[k]? = some o:=by rw[Array.getElem?_setIfInBounds_ne (Ne.symm hk)];exact eo
  cases o<;>simp only[]<;>first|exact⟨_,this,rfl,fun _ _=>rfl⟩|exact fun _=>this
theorem Old.put{r:Nat}{x:Base}{o1:AObj}(hrx:f r=some x):Old f h f (h.put r o1):=by
 refine⟨Nat.le_refl _,fun b e _=>⟨e,?_⟩,rfl,rfl,rfl⟩;have:b≠r:=fun hb=>by subst hb;rw[hrx] at e;cases e
 exact T.get_set_ne _ _ this
theorem ba_eq{a b:ByteArray}(h:(a==b)=true):a=b:=by
 cases a with|mk a=>cases b with|mk b=>
 have:(a==b)=true:=h;have:=eq_of_beq this;rw[this]
theorem ba_refl(a:ByteArray):(a==a)=true:=by
 cases a with|mk a=>
 show(a==a)=true;simp
theorem zHa{t:TypeId}{k:Value}(hk:zqb p t k=true):∃ d,p.desc t=some d∧((∃ i j n,d=.int i∧k=.int j n)∨(∃ s,d=.string∧k=.string s)∨(∃ b,d=.bool∧k=.bool b)):=by
 unfold zqb at hk;split at hk
 ·next i j n e=>exact⟨_,e,.inl ⟨_,_,_,rfl,rfl⟩⟩
 ·next s e=>exact⟨_,e,.inr (.inl ⟨_,rfl,rfl⟩)⟩
 ·next b e=>exact⟨_,e,.inr (.inr ⟨_,rfl,rfl⟩)⟩
 ·cases hk
theorem keyKind_closed{t:TypeId}{k:Value}(hk:zqb p t k=true):closed zY k=true:=by
 obtain⟨d,_,h|h|h⟩:=zHa hk
 ·obtain⟨_,_,_,_,rfl⟩:=h;rfl
 ·obtain⟨_,_,rfl⟩:=h;rfl
 ·obtain⟨_,_,rfl⟩:=h;rfl
def Found(f:Inj)(d:TypeDesc)(k:Value)(es':List MapEntry)(i:Nat):Option Value→Prop
 |none=>Instr.findNow d k es' i=some none
 |some v=>∃ j v',Instr.findNow d k es' i=some (some (i+j,v'))∧VRel f v v'∧∃ e,es'[j]? = some e∧e.val=v'∧e.key=k
theorem findNow_rel{d:TypeDesc}{k:Value}(hd:(∃ i j n,d=.int i∧k=.int j n)∨(∃ s,d=.string∧k=.string s)∨(∃ b,d=.bool∧k=.bool b)) :
  ∀{es:List (Value×Value)} {es':List MapEntry} (i:Nat),MRel f es es'→∀{r:Option Value},lookupKey k es=some r →
   Found f d k es' i r
 | [],_,i,.nil,r,h=>by simp[lookupKey] at h;subst h;rfl
 | (a,v)::es,e::es',i,.cons hk hv t,r,h=>by
  have step:∀{b:Bool},Instr.sameNow d k e.key=some b→(lookupKey k ((a,v)::es)=if b then some (some v) else lookupKey k es)→(b=true→e.key=k) →
    Found f d k (e::es') i r:=by
   intro b hb hl hkey;rw[h] at hl;cases b with
   |true=>simp only[if_true,Option.some.injEq] at hl;subst hl;exact⟨0,e.val,by simp[Instr.findNow,hb],hv,e,rfl,rfl,hkey rfl⟩
   |false=>
    simp only[Bool.false_eq_true,if_false] at hl;have:=findNow_rel hd (i+1) t hl.symm;cases r with
    |none=>have this:Instr.findNow d k es' (i+1)=some none:=this;show Instr.findNow d k (e::es') i=some none;simp[Instr.findNow,hb,this]
    |some v0=>obtain⟨j,v',h1,h2,e0,h3,h4,h5⟩:=this;exact⟨j+1,v',by simp[Instr.findNow,hb,h1];omega,h2,e0,by simpa using h3,h4,h5⟩
  rcases hd with⟨i0,j0,n0,rfl,rfl⟩|⟨s0,rfl,rfl⟩|⟨b0,rfl,rfl⟩
  ·cases a with
   |int j m=>
    cases e with
    |mk key val born=>
     cases hk;simp only[lookupKey] at h;by_cases hj:j=j0
     ·subst hj;by_cases hm:n0=m
      ·subst hm;exact step (b:=true) (by simp[Instr.sameNow]) (by simp[lookupKey]) (fun _=>rfl)
      ·exact step (b:=false) (by simp[Instr.sameNow,hm]) (by simp[lookupKey,hm]) (fun h=>by cases h)
     ·simp[hj] at h
   |_=>simp[lookupKey] at h
  ·cases a with
   |string s=>
    cases e with
    |mk key val born=>
     cases hk;cases hb:(s0==s) with
     |true=>exact step (b:=true) (by simp[Instr.sameNow,hb]) (by simp[lookupKey,hb]) (fun _=>by have:=ba_eq hb;rw[this])
     |false=>exact step (b:=false) (by simp[Instr.sameNow,hb]) (by simp[lookupKey,hb]) (fun h=>by cases h)
   |_=>simp[lookupKey] at h
  ·cases a with
   |bool s=>
    cases e with
    |mk key val born=>
     cases hk;cases hb:(b0==s) with
     |true=>exact step (b:=true) (by simp[Instr.sameNow,hb]) (by simp[lookupKey,hb]) (fun _=>by have:=eq_of_beq hb;rw[this])
     |false=>exact step (b:=false) (by simp[Instr.sameNow,hb]) (by simp[lookupKey,hb]) (fun h=>by cases h)
   |_=>simp[lookupKey] at h
theorem checkKey_run(hp:TabOk p){t:TypeId}{k:Value}(hk:zqb p t k=true)(b:Bool)(n:Nat)(w:World)(es:Array Event):(Instr.checkKey b (n+1) t k).run p.prog w=.ok () w∧(Instr.checkKey b (n+1) t k).events p.prog w es=es:=by
 obtain⟨d,hd,h|h|h⟩:=zHa hk
 ·obtain⟨i,j,n',rfl,rfl⟩:=h;exact⟨by simp[Instr.checkKey,zb hp w hd],by simp[Instr.checkKey,zb hp w hd]⟩
 ·obtain⟨s,rfl,rfl⟩:=h;exact⟨by simp[Instr.checkKey,zb hp w hd],by simp[Instr.checkKey,zb hp w hd]⟩
 ·obtain⟨s,rfl,rfl⟩:=h;exact⟨by simp[Instr.checkKey,zb hp w hd],by simp[Instr.checkKey,zb hp w hd]⟩
theorem findKey_run(hp:TabOk p){t:TypeId}{k:Value}(hk:zqb p t k=true){es:List (Value×Value)}{es':List MapEntry}(hm:MRel f es es'){r:Option Value}(hl:lookupKey k es=some r) :
  ∃ r':Option (Nat×Value),(∀(w:World) (ev:Array Event),(Instr.findKey t k es').run p.prog w=.ok r' w∧(Instr.findKey t k es').events p.prog w ev=ev) ∧
   ((r=none∧r'=none)∨∃ v j v',r=some v∧r'=some (j,v')∧VRel f v v'∧∃ e,es'[j]? = some e∧e.val=v'∧e.key=k):=by
 obtain⟨d,hd,h⟩:=zHa hk;have:=findNow_rel (f:=f) h 0 hm hl;cases r with
 |none=>have this:Instr.findNow d k es' 0=some none:=this;exact⟨none,fun w ev=>⟨by simp[Instr.findKey,zb hp w hd,this],by simp[Instr.findKey,zb hp w hd,this]⟩,.inl ⟨rfl,rfl⟩⟩
 |some v=>obtain⟨j,v',h1,h2,h3⟩:=this;rw[Nat.zero_add] at h1;exact⟨some (j,v'),fun w ev=>⟨by simp[Instr.findKey,zb hp w hd,h1],by simp[Instr.findKey,zb hp w hd,h1]⟩,.inr ⟨v,j,v',rfl,rfl,h2,h3⟩⟩
theorem getObj_map(P:Program){r:Nat}{es:Array MapEntry}{c:Nat}(hh:w.heap[r]? = some (.map es c)):(getObj r).run P w=.ok (.map es c) w∧∀ ev,(getObj r).events P w ev=ev.push ⟨.obj r,false,false⟩:=by
 constructor
 ·simp[getObj,Sem.run,hh]
 ·intro ev;simp[getObj,Sem.events,Sem.runT,hh,Obj.isChan,-Sem.runT_eq]
theorem setObj_map(P:Program){r:Nat}{es:Array MapEntry}{c:Nat}{o:Obj}(hh:w.heap[r]? = some (.map es c))(ho:o.isChan=false):(setObj r o).run P w=.ok () {w with heap:=w.heap.setIfInBounds r o}∧∀ ev,(setObj r o).events P w ev=ev.push ⟨.obj r,true,false⟩:=by
 constructor
 ·simp[setObj,Sem.run,hh]
 ·intro ev;simp[setObj,Sem.events,Sem.runT,hh,ho,-Sem.runT_eq]
theorem sameBits_refl{t:TypeId}{k:Value}(hk:zqb p t k=true)(n:Nat):Instr.sameBits n k k=true:=by
 obtain⟨d,hd,h|h|h⟩:=zHa hk
 ·obtain⟨i,j,n',rfl,rfl⟩:=h;cases n<;>simp[Instr.sameBits]
 ·obtain⟨s,rfl,rfl⟩:=h;cases n<;>simp[Instr.sameBits,ba_refl]
 ·obtain⟨s,rfl,rfl⟩:=h;cases n<;>simp[Instr.sameBits]
theorem lookup_tail(hp:TabOk p){kt et:TypeId}{k v:Value}{ok:Bool}{es:List (Value×Value)}{es':Array MapEntry}(hk:zqb p kt k=true)(hm:MRel f es es'.toList)
  (ho:lookVal p et ok k es=some v) :
  ∃ v',VRel f v v'∧∃ r':Option (Nat×Value),(∀(w:World) (ev:Array Event),(Instr.findKey kt k es'.toList).run p.prog w=.ok r' w∧(Instr.findKey kt k es'.toList).events p.prog w ev=ev) ∧
   ((∃ j u,r'=some (j,u)∧v'=if ok then .tuple #[u,.bool true] else u)∨(r'=none∧∃ z,p.zero et=some z∧v'=if ok then .tuple #[z,.bool false] else z)):=by
 unfold lookVal at ho;split at ho
 ·next v0 e4=>
  obtain⟨r',fk,hf⟩:=findKey_run hp hk hm e4;rcases hf with⟨h1,_⟩|⟨v1,j,u,h1,h2,h3,_⟩
  ·cases h1
  ·cases h1;cases ho;refine⟨_,?_,r',fk,.inl ⟨j,u,h2,rfl⟩⟩;cases ok with
   |true=>exact .tuple (.cons h3 (.cons (.bool true) .nil))
   |false=>exact h3
 ·next e4=>
  obtain⟨r',fk,hf⟩:=findKey_run hp hk hm e4;rcases hf with⟨_,h2⟩|⟨v1,j,u,h1,h2,h3,_⟩
  ·cases ez:p.zero et with
   |none=>rw[ez] at ho;cases ho
   |some z=>
    rw[ez] at ho;cases ho;have hz:=zB (f:=f) _ _ (zaa ez).1;refine⟨_,?_,r',fk,.inr ⟨h2,z,rfl,rfl⟩⟩;cases ok with
    |true=>exact .tuple (.cons hz (.cons (.bool false) .nil))
    |false=>exact hz
  ·cases h1
 ·cases ho
theorem lookup_sound(hp:TabOk p)(hr:HRel f (fun l=>Mi l∨Sh l) Mi h w){t:TypeId}{m m' k k' v:Value}{ok:Bool}(hm:VRel f m m')(hk:VRel f k k')(ho:oLookup p h t m k ok=some (v,h')) :
  After p.prog f Mi Sh h w (Instr.lookup t m' k' ok) v h':=by
 unfold oLookup at ho;split at ho
 ·next kt et e1=>
  split at ho
  ·next es e2 e3=>
   obtain rfl:=hk.eq_of_closed (keyKind_closed e2);cases hv:lookVal p et ok k' es with
   |none=>rw[hv] at ho;cases ho
   |some v0=>
   rw[hv] at ho;cases ho;have ck1:=fun(b:Bool)=>(checkKey_run hp e2 b 9999 w #[]).1
   have ck2:=fun(b:Bool) (es:Array Event)=>(checkKey_run hp e2 b 9999 w es).2
   cases hm with
   |mapNil=>
    simp only[entriesOf,Option.some.injEq] at e3;subst e3;obtain⟨v',h1,r',fk,hf⟩:=lookup_tail hp e2 (es':=#[]) .nil hv;have fk1:=fun(w:World)=>(fk w #[]).1
    have fk2:=fun(w:World) (ev:Array Event)=>(fk w ev).2
    refine zr hr (v':=v') (fun es=>?_) h1;clear fk;rcases hf with⟨j,u,rfl,rfl⟩|⟨rfl,z,hz,rfl⟩
    ·constructor
     ·simp[Instr.lookup,zb hp w e1,ck1,fk1]
     ·simp[Instr.lookup,zb hp w e1,ck1,ck2,fk1,fk2]
    ·constructor
     ·simp[Instr.lookup,zb hp w e1,ck1,fk1,zk hp w hz]
     ·simp[Instr.lookup,zb hp w e1,ck1,ck2,fk1,fk2,zk hp w hz]
   |map hb=>
    rename_i r x;obtain⟨o,o1,o2⟩:=hr.obj r x hb;simp only[entriesOf,o1] at e3;cases o with
    |map es0=>
     simp only[Option.some.injEq] at e3;subst e3;obtain⟨_,hK,es',c,k1,k2⟩:=o2;obtain⟨g1,g2⟩:=getObj_map p.prog k1;obtain⟨v',h1,r',fk,hf⟩:=lookup_tail hp e2 k2 hv;have fk1:=fun(w:World)=>(fk w #[]).1
     have fk2:=fun(w:World) (ev:Array Event)=>(fk w ev).2
     have evs:(Instr.lookup t (.map (some x.blk)) k' ok).run p.prog w=.ok v' w∧(Instr.lookup t (.map (some x.blk)) k' ok).events p.prog w #[]=#[⟨.obj x.blk,false,false⟩]:=by
      clear fk;rcases hf with⟨j,u,rfl,rfl⟩|⟨rfl,z,hz,rfl⟩
      ·constructor
       ·simp[Instr.lookup,zb hp w e1,g1,ck1,fk1]
       ·simp[Instr.lookup,zb hp w e1,g1,g2,ck1,ck2,fk1,fk2]
      ·constructor
       ·simp[Instr.lookup,zb hp w e1,g1,ck1,fk1,zk hp w hz]
       ·simp[Instr.lookup,zb hp w e1,g1,g2,ck1,ck2,fk1,fk2,zk hp w hz]
     refine⟨v',w,f,Mi,evs.1,f.le_refl,h1,?_,hr,.refl _ _⟩;rw[evs.2];refine Did.still fun e he=>?_
     simp at he;subst he;exact .inr ⟨rfl,hK.elim .inl fun h=>.inr ⟨rfl,h⟩⟩
    |_=>simp at e3
   |_=>simp[entriesOf] at e3
  ·cases ho
 ·cases ho
end
end Go.Cx
section
namespace Go.Cx
variable {p:Tab}{f:Inj}{K Mi Sh:Loc→Prop}{h h':AHeap}{w:World}
def plainObj:AObj→Bool
 |.cells ..=>false
 |_=>true
theorem wf_obj(hw:WF h){o:AObj}(ho:plainObj o=true):WF (h.alloc o):=by
 have hn:h.objs.get h.next=none:=by
  cases e:h.objs.get h.next with
  |none=>rfl
  |some o=>have:=hw.lt _ _ e;omega
 refine⟨fun b o' e=>?_,fun b c x r ba m e=>?_,fun r m hmem=>?_⟩
 ·simp only[AHeap.alloc,T.get_set] at e ⊢;split at e
  ·next hb=>subst hb;omega
  ·have:=hw.lt b o' e;omega
 ·simp only[AHeap.alloc] at e ⊢;rw[T.get_set] at e;split at e
  ·cases e;cases ho
  ·next hb=>
   obtain⟨h1,h2,c',x',m',h3⟩:=hw.mem b c x r ba m e;have hr:r≠h.next:=fun hr=>by rw[hr,hn] at h3;cases h3
   refine⟨?_,h2,c',x',m',by rw[T.get_set_ne _ _ hr];exact h3⟩;simp only[members,T.get_set_ne _ _ hr];exact h1
 ·simp only[AHeap.alloc] at hmem ⊢;by_cases hr:r=h.next
  ·subst hr;simp only[members,T.get_set_same] at hmem;cases o<;>first|(cases ho;done)|simp at hmem
  ·simp only[members,T.get_set_ne _ _ hr] at hmem;obtain⟨c,x,ba,mem,h1⟩:=hw.kin r m hmem;have hmn:m≠h.next:=fun e=>by rw[e,hn] at h1;cases h1
   exact⟨c,x,ba,mem,by rw[T.get_set_ne _ _ hmn];exact h1⟩
theorem obj_rel(hr:HRel f K Mi h w){o:AObj}{O:Obj}(ho:plainObj o=true)
  (hz:ORel (f.put h.next ⟨w.heap.size,0,0,0⟩) (fun l=>K l∨NewIn w.heap.size (w.heap.size+1) l) ⟨w.heap.size,0,0,0⟩ o (zF w O)) :
  HRel (f.put h.next ⟨w.heap.size,0,0,0⟩) (fun l=>K l∨NewIn w.heap.size (w.heap.size+1) l) (fun l=>Mi l∨NewIn w.heap.size (w.heap.size+1) l) (h.alloc o) (zF w O):=by
 have hnx:f h.next=none:=hr.next_none (Nat.le_refl _);have hle:f.le (f.put h.next ⟨w.heap.size,0,0,0⟩):=Inj.le_put hnx;have old:∀ b x,f.put h.next ⟨w.heap.size,0,0,0⟩ b=some x→b≠h.next→f b=some x:=fun b x e hb=>by rwa [Inj.put_ne _ _ hb] at e
 have getn:(h.alloc o).objs.get h.next=some o:=T.get_set_same _ _ _;have geto:∀ b,b≠h.next→(h.alloc o).objs.get b=h.objs.get b:=fun b hb=>T.get_set_ne _ _ hb
 have ltb:∀ b x,f b=some x→x.blk<w.heap.size:=fun b x e=>let⟨o,_,e2⟩:=hr.obj b x e;e2.lt
 refine⟨wf_obj hr.wf ho,fun b x eb=>?_,fun b x eb hl l hlb=>?_,fun b x i eb hi=>?_,fun b b' x x' o1 o2 eb eb' eo eo' hne=>?_,fun b b' x x' o1 o2 eb eb' eo eo' he hx=>?_,fun b x eb=>?_⟩
 ·by_cases hb:b=h.next
  ·subst hb;rw[Inj.put_same] at eb;cases eb;exact⟨o,getn,hz⟩
  ·obtain⟨o,g1,g2⟩:=hr.obj b x (old b x eb hb);exact⟨o,by rw[geto b hb];exact g1,(g2.env (K':=K) (sameOn_pushed _ _ _ _) fun _ h=>h).mono hle fun _ h=>.inl h⟩
 ·by_cases hb:b=h.next
  ·subst hb;rw[Inj.put_same] at eb;cases eb;exact .inr ⟨w.heap.size,hlb,Nat.le_refl _,Nat.lt_succ_self _⟩
  ·exact .inl (hr.mine b x (old b x eb hb) hl l hlb)
 ·by_cases hb:b=h.next
  ·subst hb;rw[Inj.put_same] at eb;cases eb;exact .inr ⟨w.heap.size,rfl,Nat.le_refl _,Nat.lt_succ_self _⟩
  ·exact .inl (hr.part b x i (old b x eb hb) hi)
 ·by_cases hb:b=h.next
  ·subst hb;rw[Inj.put_same] at eb;cases eb;by_cases hb':b'=h.next
   ·subst hb';rw[eo] at eo';cases eo';exact absurd rfl hne
   ·have:=ltb b' x' (old b' x' eb' hb');show w.heap.size≠x'.blk;omega
  ·have:=ltb b x (old b x eb hb);by_cases hb':b'=h.next
   ·subst hb';rw[Inj.put_same] at eb';cases eb';show x.blk≠w.heap.size;omega
   ·rw[geto _ hb] at eo;rw[geto _ hb'] at eo';exact hr.apart b b' x x' o1 o2 (old b x eb hb) (old b' x' eb' hb') eo eo' hne
 ·by_cases hb:b=h.next
  ·subst hb;rw[Inj.put_same] at eb;cases eb;by_cases hb':b'=h.next
   ·subst hb';rw[Inj.put_same] at eb';cases eb';rw[eo] at eo';cases eo';rfl
   ·have:=ltb b' x' (old b' x' eb' hb');exact absurd hx (by show w.heap.size≠x'.blk;omega)
  ·have:=ltb b x (old b x eb hb);by_cases hb':b'=h.next
   ·subst hb';rw[Inj.put_same] at eb';cases eb';exact absurd hx (by show x.blk≠w.heap.size;omega)
   ·rw[geto _ hb] at eo;rw[geto _ hb'] at eo';exact hr.coord b b' x x' o1 o2 (old b x eb hb) (old b' x' eb' hb') eo eo' he hx
 ·by_cases hb:b=h.next
  ·subst hb;rw[Inj.put_same] at eb;cases eb;exact .inr ⟨w.heap.size,rfl,Nat.le_refl _,Nat.lt_succ_self _⟩
  ·exact .inl (hr.home b x (old b x eb hb))
theorem Old.obj(hr:HRel f K Mi h w)(o:AObj)(x:Base):Old f h (f.put h.next x) (h.alloc o):=by
 refine⟨Nat.le_succ _,fun b e hl=>?_,rfl,rfl,rfl⟩;obtain⟨c,y,hb⟩:=hl;have hne:b≠h.next:=by have:=hr.wf.lt b _ hb;omega
 exact⟨by rw[Inj.put_ne _ _ hne];exact e,T.get_set_ne _ _ hne⟩
theorem shuffle{Mi Sh N:Loc→Prop}:∀ l,((Mi l∨Sh l)∨N l)→((Mi l∨N l)∨Sh l):=fun l h=>by
 rcases h with(h|h)|h
 ·exact .inl (.inl h)
 ·exact .inr h
 ·exact .inl (.inr h)
theorem newObj_sound(hr:HRel f (fun l=>Mi l∨Sh l) Mi h w){o:AObj}{O:Obj}(ho:plainObj o=true)
  (hz:ORel (f.put h.next ⟨w.heap.size,0,0,0⟩) (fun l=>(Mi l∨Sh l)∨NewIn w.heap.size (w.heap.size+1) l) ⟨w.heap.size,0,0,0⟩ o (zF w O)) :
  Did Mi Sh w (zF w O) #[] (fun l=>Mi l∨NewIn w.heap.size (w.heap.size+1) l) ∧
   HRel (f.put h.next ⟨w.heap.size,0,0,0⟩) (fun l=>(Mi l∨NewIn w.heap.size (w.heap.size+1) l)∨Sh l) (fun l=>Mi l∨NewIn w.heap.size (w.heap.size+1) l) (h.alloc o) (zF w O):=
 ⟨did_pushed _ _ _ _,(obj_rel hr ho hz).grow shuffle fun _ h=>h⟩
theorem makeMap_sound(hr:HRel f (fun l=>Mi l∨Sh l) Mi h w){t:TypeId}{v:Value}(ho:oMakeMap h=some (v,h')):After p.prog f Mi Sh h w (Instr.makeMap t none) v h':=by
 cases ho;obtain⟨h1,h2⟩:=newObj_sound (O:=.map #[] 0) hr (o:=.map []) rfl ⟨rfl,.inr ⟨w.heap.size,rfl,Nat.le_refl _,Nat.lt_succ_self _⟩,#[],0,zOa w _,.nil⟩;refine⟨.map (some w.heap.size),_,_,_,rfl,zQb hr _,?_,?_,h2,.obj hr _ _⟩
 ·exact .map (x:=⟨w.heap.size,0,0,0⟩) (Inj.put_same _ _ _)
 ·exact h1
theorem putKey_rel{d:TypeDesc}{k v v':Value}(hkk:VRel f k k)(hv:VRel f v v')(hd:(∃ i j n,d=.int i∧k=.int j n)∨(∃ s,d=.string∧k=.string s)∨(∃ b,d=.bool∧k=.bool b)) :
  ∀{es:List (Value×Value)} {es':List MapEntry} (i:Nat),MRel f es es'→∀{r:Option Value},lookupKey k es=some r →
   (r=none∧Instr.findNow d k es' i=some none∧∀ n,MRel f (putKey k v es) (es'++[⟨k,v',n⟩])) ∨
   (∃ j u,r≠none∧Instr.findNow d k es' i=some (some (i+j,u))∧(∃ e,es'[j]? = some e∧e.key=k)∧MRel f (putKey k v es) (es'.modify j fun e=>{e with key:=k,val:=v'}))
 | [],_,i,.nil,r,h=>by simp[lookupKey] at h;subst h;exact .inl ⟨rfl,rfl,fun n=>.cons hkk hv .nil⟩
 | (a,u)::es,e::es',i,.cons hk hu t,r,h=>by
  have hit:Instr.sameNow d k e.key=some true→lookupKey k [(a,u)]=some (some u)→e.key=k→r≠none →
    (r=none∧Instr.findNow d k (e::es') i=some none∧∀ n,MRel f (putKey k v ((a,u)::es)) (e::es'++[⟨k,v',n⟩])) ∨
    (∃ j u',r≠none∧Instr.findNow d k (e::es') i=some (some (i+j,u'))∧(∃ e0,(e::es')[j]? = some e0∧e0.key=k)∧MRel f (putKey k v ((a,u)::es)) ((e::es').modify j fun e=>{e with key:=k,val:=v'})):=by
   intro hb h1 h2 h3;refine .inr ⟨0,e.val,h3,by simp[Instr.findNow,hb],⟨e,rfl,h2⟩,?_⟩;simp only[putKey,h1,List.modify_zero_cons];exact .cons hkk hv t
  have miss:Instr.sameNow d k e.key=some false→lookupKey k [(a,u)]=some none→lookupKey k es=some r →
    (r=none∧Instr.findNow d k (e::es') i=some none∧∀ n,MRel f (putKey k v ((a,u)::es)) (e::es'++[⟨k,v',n⟩])) ∨
    (∃ j u',r≠none∧Instr.findNow d k (e::es') i=some (some (i+j,u'))∧(∃ e0,(e::es')[j]? = some e0∧e0.key=k)∧MRel f (putKey k v ((a,u)::es)) ((e::es').modify j fun e=>{e with key:=k,val:=v'})):=by
   intro hb h1 h2;rcases putKey_rel hkk hv hd (i+1) t h2 with⟨g1,g2,g3⟩|⟨j,u',g1,g2,⟨e0,g3,g4⟩,g5⟩
   ·refine .inl ⟨g1,by simp[Instr.findNow,hb,g2],fun n=>?_⟩;simp only[putKey,h1];exact .cons hk hu (g3 n)
   ·refine .inr ⟨j+1,u',g1,by simp[Instr.findNow,hb,g2];omega,⟨e0,by simpa using g3,g4⟩,?_⟩;simp only[putKey,h1,List.modify_succ_cons];exact .cons hk hu g5
  rcases hd with⟨i0,j0,n0,rfl,rfl⟩|⟨s0,rfl,rfl⟩|⟨b0,rfl,rfl⟩
  ·cases a with
   |int j m=>
    cases e with
    |mk key val born=>
     cases hk;simp only[lookupKey] at h;by_cases hj:j=j0
     ·subst hj;by_cases hm:n0=m
      ·subst hm;refine hit (by simp[Instr.sameNow]) (by simp[lookupKey]) rfl ?_;intro e;subst e;simp at h
      ·exact miss (by simp[Instr.sameNow,hm]) (by simp[lookupKey,hm]) (by simpa[hm] using h)
     ·simp[hj] at h
   |_=>simp[lookupKey] at h
  ·cases a with
   |string s=>
    cases e with
    |mk key val born=>
     cases hk;simp only[lookupKey] at h;cases hb:(s0==s) with
     |true=>rw[hb] at h;refine hit (by simp[Instr.sameNow,hb]) (by simp[lookupKey,hb]) (by have:=ba_eq hb;rw[this]) ?_;intro e;subst e;simp at h
     |false=>rw[hb] at h;exact miss (by simp[Instr.sameNow,hb]) (by simp[lookupKey,hb]) (by simpa using h)
   |_=>simp[lookupKey] at h
  ·cases a with
   |bool s=>
    cases e with
    |mk key val born=>
     cases hk;simp only[lookupKey] at h;cases hb:(b0==s) with
     |true=>rw[hb] at h;refine hit (by simp[Instr.sameNow,hb]) (by simp[lookupKey,hb]) (by have:=eq_of_beq hb;rw[this]) ?_;intro e;subst e;simp at h
     |false=>rw[hb] at h;exact miss (by simp[Instr.sameNow,hb]) (by simp[lookupKey,hb]) (by simpa using h)
   |_=>simp[lookupKey] at h
end Go.Cx
namespace Go.Cx
variable {p:Tab}{f:Inj}{K Mi Sh:Loc→Prop}{h h':AHeap}{w:World}
theorem mapUpdate_sound(hp:TabOk p)(hr:HRel f (fun l=>Mi l∨Sh l) Mi h w){t:TypeId}{m m' k k' u u' v:Value}(hm:VRel f m m')(hk:VRel f k k')(hu:VRel f u u')(ho:oMapUpdate p h t m k u=some (v,h')) :
  v=undef∧∃ w',(Instr.mapUpdate t m' k' u').run p.prog w=.ok () w'∧Did Mi Sh w w' ((Instr.mapUpdate t m' k' u').events p.prog w #[]) Mi∧HRel f (fun l=>Mi l∨Sh l) Mi h' w'∧Old f h f h':=by
 unfold oMapUpdate at ho;split at ho
 ·next kt et r e1=>
  split at ho
  ·next es e2 e3 e4=>
   have hlo:h.owns r=true:=e4;obtain rfl:=hk.eq_of_closed (keyKind_closed e2);cases hl:lookupKey k' es with
   |none=>rw[hl] at ho;cases ho
   |some res=>
    rw[hl] at ho;cases ho;refine⟨rfl,?_⟩;cases hm with
    |map hb=>
     rename_i x;obtain⟨o,o1,o2⟩:=hr.obj r x hb;rw[e3] at o1;cases o1;obtain⟨hx0,hK,es',c,k1,k2⟩:=o2;have hMi:Mi (.obj x.blk):=hr.mine r x hb hlo _ rfl;obtain⟨d,hd,hdd⟩:=zHa e2;obtain⟨g1,g2⟩:=getObj_map p.prog k1;have ck1:=fun(b:Bool)=>(checkKey_run hp e2 b 9999 w #[]).1
     have ck2:=fun(b:Bool) (es:Array Event)=>(checkKey_run hp e2 b 9999 w es).2
     have hud:=zb hp w hd;rcases putKey_rel (zB _ _ (keyKind_closed e2)) hu hdd 0 k2 hl with⟨q1,q2,q3⟩|⟨j,u0,q1,q2,⟨e0,q3,q4⟩,q5⟩
     ·obtain⟨s1,s2⟩:=setObj_map p.prog (o:=.map (es'.push ⟨k',u',c⟩) (c+1)) k1 rfl;have run:(Instr.mapUpdate t (.map (some x.blk)) k' u').run p.prog w=.ok () {w with heap:=w.heap.setIfInBounds x.blk (.map (es'.push ⟨k',u',c⟩) (c+1))}:=by simp[Instr.mapUpdate,zb hp w e1,g1,ck1,Instr.findKey,hud,q2,s1]
      have evs:(Instr.mapUpdate t (.map (some x.blk)) k' u').events p.prog w #[]=#[⟨.obj x.blk,false,false⟩,⟨.obj x.blk,true,false⟩]:=by simp[Instr.mapUpdate,zb hp w e1,g1,g2,ck1,ck2,Instr.findKey,hud,q2,s1,s2]
      refine⟨_,run,⟨env_putObj rfl k1 (fun _ _ _ h=>by cases h) hMi,fun l=>?_,fun ev hev=>?_⟩,?_,.put hb⟩
      ·simp only[Array.size_setIfInBounds];exact⟨.inl,fun h=>h.elim id fun⟨b,_,h1,h2⟩=>absurd h2 (Nat.not_lt.2 h1)⟩
      ·rw[evs] at hev;simp at hev;rcases hev with rfl|rfl<;>exact .inr ⟨rfl,.inl hMi⟩
      ·refine putObj_rel hr hb e3 ⟨_,rfl⟩ (fun _ _ _ _ _ h=>by cases h) rfl k1 fun w₂ h₂=>⟨hx0,hK,_,_,h₂,?_⟩
       simpa using q3 c
     ·have hst:Instr.sameBits 10000 e0.key k'=true:=by rw[q4];exact sameBits_refl e2 _
      have hkey:∀(ev:Array Event),(Instr.keyThatStays ((es'[j]?.map (·.key)).getD k') k').run p.prog w=.ok k' w∧(Instr.keyThatStays ((es'[j]?.map (·.key)).getD k') k').events p.prog w ev=ev:=by
       intro ev;have:es'[j]? = some e0:=by simpa using q3
       rw[this];simp only[Option.map_some,Option.getD_some];exact⟨by simp[Instr.keyThatStays,hst],by simp[Instr.keyThatStays,hst]⟩
      have hkey1:=(hkey #[]).1;have hkey2:=fun ev=>(hkey ev).2
      obtain⟨s1,s2⟩:=setObj_map p.prog (o:=.map (es'.modify j fun e=>{e with key:=k',val:=u'}) c) k1 rfl;rw[Nat.zero_add] at q2;have run:(Instr.mapUpdate t (.map (some x.blk)) k' u').run p.prog w=.ok () {w with heap:=w.heap.setIfInBounds x.blk (.map (es'.modify j fun e=>{e with key:=k',val:=u'}) c)}:=by simp[Instr.mapUpdate,zb hp w e1,g1,ck1,Instr.findKey,hud,q2,hkey1,s1]
      have evs:(Instr.mapUpdate t (.map (some x.blk)) k' u').events p.prog w #[]=#[⟨.obj x.blk,false,false⟩,⟨.obj x.blk,true,false⟩]:=by simp[Instr.mapUpdate,zb hp w e1,g1,g2,ck1,ck2,Instr.findKey,hud,q2,hkey1,hkey2,s1,s2]
      refine⟨_,run,⟨env_putObj rfl k1 (fun _ _ _ h=>by cases h) hMi,fun l=>?_,fun ev hev=>?_⟩,?_,.put hb⟩
      ·simp only[Array.size_setIfInBounds];exact⟨.inl,fun h=>h.elim id fun⟨b,_,h1,h2⟩=>absurd h2 (Nat.not_lt.2 h1)⟩
      ·rw[evs] at hev;simp at hev;rcases hev with rfl|rfl<;>exact .inr ⟨rfl,.inl hMi⟩
      ·refine putObj_rel hr hb e3 ⟨_,rfl⟩ (fun _ _ _ _ _ h=>by cases h) rfl k1 fun w₂ h₂=>⟨hx0,hK,_,_,h₂,?_⟩
       simpa[Array.toList_modify] using q5
  ·cases ho
 ·cases ho
end Go.Cx
end
namespace Go.Cx
section
variable {p:Tab}{f:Inj}{Mi Sh:Loc→Prop}{h h':AHeap}{w:World}
def OpR.heap:OpR→AHeap
 |.val _ h|.call _ _ h|.yield _ _ h|.defer _ h|.recover h=>h
inductive NRel(f:Inj):OpR→Next→Prop where
 |val {v v':Value} {h:AHeap} (hv:VRel f v v'):NRel f (.val v h) (.value v')
 |skip {h:AHeap}:NRel f (.val undef h) .skip
 |call {k:FuncId} {args:List Value} {args':Array Value} {h:AHeap} (ha:VsRel f args args'.toList):NRel f (.call k args h) (.enter k args')
 |yield {l:Nat} {x:Base} {args:List Value} {args':Array Value} {h:AHeap} {al:ALoop} {l':Loop} (hl:f l=some x) (ha:VsRel f args args'.toList) (ho:h.objs.get l=some (.loop al)) (hr:LRel f al l') (hn:args'.size=al.params.size) :
   NRel f (.yield l args h) (.round x.blk l'.fn ((l'.params.zip args').foldl (fun tmps (t,a)=>tmps.setIfInBounds t a) l'.tmps) l'.assign l'.body)
 |defer {d d':Deferred} {h:AHeap} (hd:DRel f d d'):NRel f (.defer d h) (.defer d')
 |recover {h:AHeap}:NRel f (.recover h) .recover
def zec(P:Program)(f:Inj)(Mi Sh:Loc→Prop)(h:AHeap)(w:World)(s:Sem Next)(r:OpR):Prop:=
 ∃ r' w' f' Mi',s.run P w=.ok r' w'∧f.le f'∧NRel f' r r'∧Did Mi Sh w w' (s.events P w #[]) Mi'∧HRel f' (fun l=>Mi' l∨Sh l) Mi' r.heap w'∧Old f h f' r.heap
theorem zx{s:Sem Value}{v:Value}(ha:After p.prog f Mi Sh h w s v h'):zec p.prog f Mi Sh h w (do pure (.value (←s))) (.val v h'):=by obtain⟨v',w',f',Mi',h1,h2,h3,h4,h5,h6⟩:=ha;exact⟨.value v',w',f',Mi',by simp[h1],h2,.val h3,by simpa[h1] using h4,h5,h6⟩
theorem zN(hr:HRel f (fun l=>Mi l∨Sh l) Mi h w){s:Sem Next}{r':Next}{r:OpR}(hs:s.run p.prog w=.ok r' w∧s.events p.prog w #[]=#[])(hn:NRel f r r')(hh:r.heap=h):zec p.prog f Mi Sh h w s r:=
 ⟨r',w,f,Mi,hs.1,f.le_refl,hn,by rw[hs.2];exact .quiet,by rw[hh];exact hr,by rw[hh];exact .refl _ _⟩
theorem zIb{e:Ev}{ρ:Operand→Value}(he:∀ x v,e x=some v→VRel f v (ρ x)):∀{xs:List Operand} {vs:List Value},evAll e xs=some vs→VsRel f vs (xs.map ρ)
 | [],vs,h=>by simp[evAll] at h;subst h;exact .nil
 |x::xs,vs,h=>by
  simp only[evAll] at h;split at h
  ·next v l e1 e2=>cases h;exact .cons (he x v e1) (zIb he e2)
  ·cases h
theorem evParts_rel{e:Ev}{ρ:Operand→Value}(he:∀ x v,e x=some v→VRel f v (ρ x)):∀{xs:List (Nat×Operand)} {vs:List (Nat×Value)},evParts e xs=some vs→PartsRel f vs (xs.map fun(i,x)=>(i,ρ x))
 | [],vs,h=>by simp[evParts] at h;subst h;exact⟨rfl,fun i a a' e=>by simp at e⟩
 |(i,x)::xs,vs,h=>by
  simp only[evParts] at h;split at h
  ·next v l e1 e2=>
   cases h;obtain⟨h1,h2⟩:=evParts_rel he e2;refine⟨by simpa using h1,fun j a a' ha ha'=>?_⟩;cases j with
   |zero=>simp at ha ha';subst ha;subst ha';exact⟨rfl,he x v e1⟩
   |succ j=>exact h2 j a a' (by simpa using ha) (by simpa using ha')
  ·cases h
theorem evO_rel{e:Ev}{ρ:Operand→Value}(he:∀ x v,e x=some v→VRel f v (ρ x)){x:Option Operand}{v:Option Value}(h:evO e x=some v):VORel f v (x.map ρ):=by
 cases x with
 |none=>simp[evO] at h;subst h;exact .none
 |some x=>
  simp only[evO] at h;split at h
  ·next v' e1=>cases h;exact .some (he x _ e1)
  ·cases h
theorem zo{o:Out}{r:OpR}(h:zU o=some r):∃ v h',o=some (v,h')∧r=.val v h':=by
 unfold zU at h;split at h
 ·next v h'=>cases h;exact⟨v,h',rfl,rfl⟩
 ·cases h
theorem builtin_sound(hr:HRel f (fun l=>Mi l∨Sh l) Mi h w){b:Builtin}{ts:Array TypeId}{ty:TypeId}{cs:Array Bool}{args:List Value}{args':Array Value}{v:Value}(ha:VsRel f args args'.toList)(ho:zpb p h b ts ty cs args=some (v,h')) :
  zec p.prog f Mi Sh h w (builtin b ts ty cs args') (.val v h'):=by
 unfold zpb at ho;split at ho
 ·next e1=>
  have:args'=args.toArray:=by have:=ha.eq_of_closed e1;rw[←this]
  subst this;split at ho
  ·next r e3=>
   cases e4:closed zY r with
   |false=>rw[e4] at ho;cases ho
   |true=>rw[e4] at ho;cases ho;obtain⟨k1,k2⟩:=zdb e3 w #[];exact zN hr ⟨k1,k2⟩ (.val (zB _ _ e4)) rfl
  ·cases ho
 ·cases ho
theorem callFn_sound(hp:TabOk p)(hr:HRel f (fun l=>Mi l∨Sh l) Mi h w){k:FuncId}{args:List Value}{args':Array Value}{r:OpR}(ha:VsRel f args args'.toList)(ho:zac p k args h=some r):zec p.prog f Mi Sh h w (callFunc k args') r:=by
 unfold zac at ho;cases e1:p.funcs.get k with
 |none=>rw[e1] at ho;cases ho
 |some fn=>
  rw[e1] at ho;simp only[] at ho;cases e2:fn.body with
  |none=>rw[e2] at ho;cases ho
  |some c=>rw[e2] at ho;cases ho;have h1:=hp.funcs k fn e1;have h2:=hp.num k fn e1;exact zN hr (r':=.enter k args') ⟨by simp[callFunc,h1,h2,e2],by simp[callFunc,h1,h2,e2]⟩ (.call ha) rfl
theorem yield_sound(hr:HRel f (fun l=>Mi l∨Sh l) Mi h w){l:Nat}{x:Base}{al:ALoop}{args:List Value}{args':Array Value}(hl:f l=some x)(ha:VsRel f args args'.toList)(ho:h.objs.get l=some (.loop al))(hn:args.length=al.params.size) :
  zec p.prog f Mi Sh h w (Instr.yield x.blk args') (.yield l args h):=by
 obtain⟨o,o1,o2⟩:=hr.obj l x hl;rw[ho] at o1;cases o1;obtain⟨hx0,hK,l',k1,k2⟩:=o2;have hn':args'.size=al.params.size:=by have:=ha.length;simp at this;omega
 have hn2:¬(args'.size≠l'.params.size):=by rw[k2.params];simpa using hn'
 have g1:(Instr.getLoop x.blk).run p.prog w=.ok l' w:=by simp[Instr.getLoop,getObj,Sem.run,k1]
 have g2:∀ ev,(Instr.getLoop x.blk).events p.prog w ev=ev.push ⟨.obj x.blk,false,false⟩:=by
  intro ev;have e1:(getObj x.blk).run p.prog w=.ok (.loop l') w:=by simp[getObj,Sem.run,k1]
  have e2:(getObj x.blk).events p.prog w ev=ev.push ⟨.obj x.blk,false,false⟩:=by simp[getObj,Sem.events,Sem.runT,k1,Obj.isChan,-Sem.runT_eq]
  simp[Instr.getLoop,e1,e2]
 refine⟨_,w,f,Mi,by simp[Instr.yield,g1,hn2],f.le_refl,.yield hl ha ho k2 hn',?_,hr,.refl _ _⟩;have:(Instr.yield x.blk args').events p.prog w #[]=#[⟨.obj x.blk,false,false⟩]:=by simp[Instr.yield,g1,g2,hn2]
 rw[this];refine Did.still fun e he=>?_
 simp at he;subst he;exact .inr ⟨rfl,hK.elim .inl fun h=>.inr ⟨rfl,h⟩⟩
theorem call_sound(hp:TabOk p)(hr:HRel f (fun l=>Mi l∨Sh l) Mi h w){e:Ev}{ρ:Operand→Value}(he:∀ x v,e x=some v→VRel f v (ρ x)){c:Call}{ty:TypeId}{r:OpR}(ho:aCall p h e c ty=some r) :
  zec p.prog f Mi Sh h w (do let d ←resolve ρ c ty;invoke d.target d.args) r:=by
 obtain⟨callee,args,argTypes⟩:=c;unfold aCall at ho;simp only[] at ho;split at ho
 ·cases ho
 ·next as eas=>
  have har:=zIb he eas;have har':VsRel f as (args.map ρ).toList:=by simpa using har
  split at ho
  ·
   next g=>
   split at ho
   ·next fn first captured eg=>
    have hg:=he g _ eg;split at ho
    ·next k=>
     generalize hgv:ρ g=gv at hg;cases hg with
     |func hfn h1 h2=>
      rename_i a' c';have hargs:VsRel f (first.toList++as++captured.toList) ((a'++args.map ρ)++c').toList:=by simpa using(h1.append har').append h2
      have:=callFn_sound (w:=w) hp hr hargs ho;simpa[resolve,Deferred.ofValue,invoke,hgv] using this
    ·next l=>
     split at ho
     ·next e1 e2=>
      generalize hgv:ρ g=gv at hg;cases hg with
      |func hfn h1 h2=>cases hfn
      |yield hl=>
       rename_i x;split at ho
       ·next al e3=>
        split at ho
        ·next e4=>cases ho;have:=yield_sound (p:=p) (w:=w) hr hl har' e3 (Nat.eq_of_beq_eq_true e4);simpa[resolve,Deferred.ofValue,invoke,hgv] using this
        ·cases ho
       ·cases ho
     ·cases ho
    ·cases ho
   ·cases ho
  ·cases ho
  ·
   next b=>
   have hres:∀(b:Builtin),(do let d ←resolve ρ {callee:=.builtin b,args:=args,argTypes:=argTypes} ty;invoke d.target d.args:Sem Next) =
     builtin b argTypes ty (args.map fun|.const _=>true|_=>false) (args.map ρ):=fun b=>rfl
   split at ho
   ·next s x=>
    split at ho
    ·next sT xT e1 e2 e3=>
     obtain⟨v,h1,ho1,rfl⟩:=zo ho;generalize hL:(args.map ρ).toList=L at har';cases har' with
     |cons hs t=>
     cases t with
     |cons hx t2=>
     cases t2;rename_i s' x';have hA:args.map ρ=#[s',x']:=Array.toList_inj.1 hL;have hT:argTypes=#[sT,xT]:=by
      obtain⟨l⟩:=argTypes;have e3:=Nat.eq_of_beq_eq_true e3
      match l,e1,e2,e3 with
      | [a,b],e1,e2,_=>simp at e1 e2;rw[e1,e2]
     have:=append_sound (w:=w) (ty:=ty) hp hr hs hx ho1;rw[hres,hA,hT];exact zx this
    ·cases ho
   ·next x=>
    split at ho
    ·next t e1=>
     obtain⟨v,h1,ho1,rfl⟩:=zo ho;generalize hL:(args.map ρ).toList=L at har';cases har' with
     |cons hs t=>
     cases t;rename_i s';have hA:args.map ρ=#[s']:=Array.toList_inj.1 hL;rw[hres,hA];exact zx (len_sound hp hr e1 hs rfl ho1)
    ·cases ho
   ·obtain⟨v,h1,ho1,rfl⟩:=zo ho;rw[hres];exact builtin_sound hr har' ho1
   ·obtain⟨v,h1,ho1,rfl⟩:=zo ho;rw[hres];exact builtin_sound hr har' ho1
   ·obtain⟨v,h1,ho1,rfl⟩:=zo ho;rw[hres];exact builtin_sound hr har' ho1
   ·cases ho;exact zN hr (r':=.recover) ⟨by simp[resolve,invoke,builtin],by simp[resolve,invoke,builtin]⟩ .recover rfl
   ·cases ho
end
section
variable {p:Tab}{f:Inj}{Mi Sh:Loc→Prop}{h h':AHeap}{w:World}
theorem afterN_unit{s:Sem Unit}(ha:∃ w',s.run p.prog w=.ok () w'∧Did Mi Sh w w' (s.events p.prog w #[]) Mi∧HRel f (fun l=>Mi l∨Sh l) Mi h' w'∧Old f h f h'):zec p.prog f Mi Sh h w (do s;pure .skip) (.val undef h'):=by obtain⟨w',h1,h2,h3,h4⟩:=ha;exact⟨.skip,w',f,Mi,by simp[h1],f.le_refl,.skip,by simpa[h1] using h2,h3,h4⟩
theorem aop_sound(hp:TabOk p)(hr:HRel f (fun l=>Mi l∨Sh l) Mi h w){e:Ev}{ρ:Operand→Value}(he:∀ x v,e x=some v→VRel f v (ρ x)){o:Oper}{r:OpR}(ho:aop p h e o=some r) :
  zec p.prog f Mi Sh h w (execOp ρ o) r:=by
 obtain⟨dst,op,type,pos,after,guard⟩:=o;unfold aop at ho;simp only[] at ho;cases op with
 |move x=>
  simp only[] at ho;split at ho
  ·next v e1=>cases ho;exact zN hr (r':=.value (ρ x)) ⟨rfl,rfl⟩ (.val (he _ _ e1)) rfl
  ·cases ho
 |assign x=>
  simp only[] at ho;split at ho
  ·next v e1=>cases ho;exact zN hr (r':=.value (ρ x)) ⟨rfl,rfl⟩ (.val (he _ _ e1)) rfl
  ·cases ho
 |pick c a b=>
  simp only[] at ho;split at ho
  ·next v v2 e1 e2 e3=>cases ho;have hc:=he _ _ e1;generalize hcv:ρ c=cv at hc;cases hc;exact zN hr (r':=.value (ρ a)) ⟨by simp[execOp,hcv,asBool],by simp[execOp,hcv,asBool]⟩ (.val (he _ _ e2)) rfl
  ·next v v2 e1 e2 e3=>cases ho;have hc:=he _ _ e1;generalize hcv:ρ c=cv at hc;cases hc;exact zN hr (r':=.value (ρ b)) ⟨by simp[execOp,hcv,asBool],by simp[execOp,hcv,asBool]⟩ (.val (he _ _ e3)) rfl
  ·cases ho
 |alloc t=>obtain⟨v,h1,ho1,rfl⟩:=zo ho;exact zx (alloc_sound hp hr ho1)
 |box t x=>
  simp only[] at ho;split at ho
  ·next v e1=>obtain⟨v',h1,ho1,rfl⟩:=zo ho;exact zx (box_sound hr (he _ _ e1) ho1)
  ·cases ho
 |build t parts=>
  simp only[] at ho;split at ho
  ·next ps e1=>obtain⟨v',h1,ho1,rfl⟩:=zo ho;have:=evParts_rel he e1;exact zx (build_sound hp hr (by simpa using this) ho1)
  ·cases ho
 |buildSlice t n parts=>
  simp only[] at ho;split at ho
  ·next ps e1=>obtain⟨v',h1,ho1,rfl⟩:=zo ho;have:=evParts_rel he e1;exact zx (buildSlice_sound hp hr (by simpa using this) ho1)
  ·cases ho
 |load t a=>
  simp only[] at ho;split at ho
  ·next v e1=>obtain⟨v',h1,ho1,rfl⟩:=zo ho;exact zx (loadAt_sound hp hr (he _ _ e1) ho1)
  ·cases ho
 |store t a x=>
  simp only[] at ho;split at ho
  ·next u v e1 e2=>obtain⟨v',h1,ho1,rfl⟩:=zo ho;obtain⟨rfl,k⟩:=storeAt_sound hp hr (he _ _ e1) (he _ _ e2) ho1;exact afterN_unit k
  ·cases ho
 |nilCheck x=>
  simp only[] at ho;split at ho
  ·next a e1=>
   cases ho;have hx:=he _ _ e1;generalize hxv:ρ x=xv at hx;cases hx with
   |ptr hb=>exact zN hr (r':=.value _) ⟨by simp[execOp,hxv],by simp[execOp,hxv]⟩ (.val (.ptr hb)) rfl
  ·next k a c e1=>
   cases ho;have hx:=he _ _ e1;generalize hxv:ρ x=xv at hx;cases hx with
   |func hfn h1 h2=>exact zN hr (r':=.value _) ⟨by simp[execOp,hxv],by simp[execOp,hxv]⟩ (.val (.func hfn h1 h2)) rfl
  ·cases ho
 |binOp op t x y yt=>
  simp only[] at ho;split at ho
  ·next u v e1 e2=>obtain⟨v',h1,ho1,rfl⟩:=zo ho;exact zx (bin_sound hr hp (he _ _ e1) (he _ _ e2) ho1)
  ·cases ho
 |unOp op t x=>
  simp only[] at ho;split at ho
  ·next u e1=>obtain⟨v',h1,ho1,rfl⟩:=zo ho;exact zx (un_sound hr (he _ _ e1) ho1)
  ·cases ho
 |convert s t x=>
  simp only[] at ho;split at ho
  ·next u e1=>obtain⟨v',h1,ho1,rfl⟩:=zo ho;exact zx (conv_sound hr (he _ _ e1) ho1)
  ·cases ho
 |makeFunc fn first captured=>
  simp only[] at ho;split at ho
  ·next a c e1 e2=>obtain⟨v',h1,ho1,rfl⟩:=zo ho;exact zx (makeFunc_sound hr (by simpa using zIb he e1) (by simpa using zIb he e2) ho1)
  ·cases ho
 |makeMap t rv=>
  cases rv with
  |none=>simp only[] at ho;obtain⟨v',h1,ho1,rfl⟩:=zo ho;exact zx (makeMap_sound hr ho1)
  |some x=>simp at ho
 |slice t x lo hi mx=>
  simp only[] at ho;split at ho
  ·next a b c d e1 e2 e3 e4=>obtain⟨v',h1,ho1,rfl⟩:=zo ho;exact zx (slice_sound hp hr (he _ _ e1) (evO_rel he e2) (evO_rel he e3) (evO_rel he e4) ho1)
  ·cases ho
 |fieldAddr s x i=>
  simp only[] at ho;split at ho
  ·next u e1=>obtain⟨v',h1,ho1,rfl⟩:=zo ho;exact zx (fieldAt_sound hp hr (he _ _ e1) ho1)
  ·cases ho
 |field t x i=>
  simp only[] at ho;split at ho
  ·next u e1=>obtain⟨v',h1,ho1,rfl⟩:=zo ho;exact zx (field_sound hp hr (he _ _ e1) ho1)
  ·cases ho
 |indexAddr t x i=>
  simp only[] at ho;split at ho
  ·next u v e1 e2=>obtain⟨v',h1,ho1,rfl⟩:=zo ho;exact zx (indexAt_sound hp hr (he _ _ e1) (he _ _ e2) ho1)
  ·cases ho
 |index t x i=>
  simp only[] at ho;split at ho
  ·next u v e1 e2=>obtain⟨v',h1,ho1,rfl⟩:=zo ho;exact zx (index_sound hp hr (he _ _ e1) (he _ _ e2) ho1)
  ·cases ho
 |lookup t x k ok=>
  simp only[] at ho;split at ho
  ·next u v e1 e2=>obtain⟨v',h1,ho1,rfl⟩:=zo ho;exact zx (lookup_sound hp hr (he _ _ e1) (he _ _ e2) ho1)
  ·cases ho
 |mapUpdate t m k v=>
  simp only[] at ho;split at ho
  ·next a b c e1 e2 e3=>obtain⟨v',h1,ho1,rfl⟩:=zo ho;obtain⟨rfl,q⟩:=mapUpdate_sound hp hr (he _ _ e1) (he _ _ e2) (he _ _ e3) ho1;exact afterN_unit q
  ·cases ho
 |insert t m k v=>
  simp only[] at ho;split at ho
  ·next a b c e1 e2 e3=>obtain⟨v',h1,ho1,rfl⟩:=zo ho;obtain⟨rfl,q⟩:=mapUpdate_sound hp hr (he _ _ e1) (he _ _ e2) (he _ _ e3) ho1;exact afterN_unit q
  ·cases ho
 |extract x i=>
  simp only[] at ho;split at ho
  ·next u e1=>obtain⟨v',h1,ho1,rfl⟩:=zo ho;exact zx (extract_sound hr (he _ _ e1) ho1)
  ·cases ho
 |call c=>exact call_sound hp hr he ho
 |defer c=>
  obtain⟨callee,args,argTypes⟩:=c;simp only[] at ho;split at ho
  ·next g as e2=>
   split at ho
   ·next k first captured eg=>
    cases ho;have hg:=he g _ eg;generalize hgv:ρ g=gv at hg;cases hg with
    |func hfn h1 h2=>
     rename_i a' c';have har:VsRel f as (args.map ρ).toList:=by simpa using zIb he e2
     refine zN hr (r':=.defer ⟨.fn (.func k) c',a'++args.map ρ⟩) ⟨?_,?_⟩ (.defer (.fn hfn h2 ?_)) rfl
     ·subst_vars;simp_all [execOp,resolve,Deferred.ofValue]
     ·subst_vars;simp_all [execOp,resolve,Deferred.ofValue]
     ·simpa using h1.append har
   ·cases ho
  ·cases ho
 |_=>simp at ho
end
section
open Go.Conc (G)
inductive IRel(f:Inj):AI→Item→Prop where
 |code (c:Code):IRel f (.code c) (.code c)
 |inBlock (id:Nat):IRel f (.inBlock id) (.inBlock id)
 |inLoop (c:Code):IRel f (.inLoop c) (.inLoop c)
 |inScope (c:Code):IRel f (.inScope c) (.inScope c)
 |reg {ops:Array Oper} {i:Nat} {rest:List Oper} (h:rest=ops.toList.drop i):IRel f (.reg ops i rest) (.inRegion ops (List.range' i rest.length))
 |inRF {l:Nat} {x:Base} (h:f l=some x):IRel f (.inRF l) (.inRangeFunc x.blk)
 |endRF {l:Nat} {x:Base} (h:f l=some x):IRel f (.endRF l) (.endRangeFunc x.blk)
 |beginRound:IRel f .beginRound .beginRound
inductive IsRel(f:Inj):List AI→List Item→Prop where
 |nil:IsRel f [] []
 |cons {a:AI} {b:Item} {l:List AI} {l':List Item} (h:IRel f a b) (t:IsRel f l l'):IsRel f (a::l) (b::l')
inductive RoRel(f:Inj):Option Nat→Option Nat→Prop where
 |none:RoRel f none none
 |some {l:Nat} {x:Base} (h:f l=some x):RoRel f (some l) (some x.blk)
def realF(a:AF)(tmps:Array Value)(todo:List Item)(defers:List Deferred)(round:Option Nat):Frame:=
 {fn:=a.fn,tmps,todo,defers,mode:=if a.ret then .returning else .run,kind:=if a.deferred then .deferred else .normal,roundOf:=round}
structure FRel(f:Inj)(a:AF)(fr:Frame):Prop where
 ex:∃ tmps todo defers round,fr=realF a tmps todo defers round∧tmps.size=a.nt∧TRel f a.tmps tmps∧IsRel f a.todo todo∧DsRel f a.defers defers∧RoRel f a.round round
inductive FsRel(f:Inj):List AF→List Frame→Prop where
 |nil:FsRel f [] []
 |cons {a:AF} {b:Frame} {l:List AF} {l':List Frame} (h:FRel f a b) (t:FsRel f l l'):FsRel f (a::l) (b::l')
theorem IRel.mono{f g:Inj}(hfg:f.le g):∀{a b},IRel f a b→IRel g a b
 |_,_,.code c=>.code c
 |_,_,.inBlock id=>.inBlock id
 |_,_,.inLoop c=>.inLoop c
 |_,_,.inScope c=>.inScope c
 |_,_,.reg h=>.reg h
 |_,_,.inRF h=>.inRF (hfg _ _ h)
 |_,_,.endRF h=>.endRF (hfg _ _ h)
 |_,_,.beginRound=>.beginRound
theorem IsRel.mono{f g:Inj}(hfg:f.le g):∀{a b},IsRel f a b→IsRel g a b
 |_,_,.nil=>.nil
 |_,_,.cons h t=>.cons (h.mono hfg) (t.mono hfg)
theorem RoRel.mono{f g:Inj}(hfg:f.le g):∀{a b},RoRel f a b→RoRel g a b
 |_,_,.none=>.none
 |_,_,.some h=>.some (hfg _ _ h)
theorem FRel.mono{f g:Inj}(hfg:f.le g){a:AF}{b:Frame}(h:FRel f a b):FRel g a b:=by obtain⟨tmps,todo,defers,round,h1,h2,h3,h4,h5,h6⟩:=h.ex;exact⟨tmps,todo,defers,round,h1,h2,h3.mono hfg,h4.mono hfg,h5.mono hfg,h6.mono hfg⟩
theorem FsRel.mono{f g:Inj}(hfg:f.le g):∀{a b},FsRel f a b→FsRel g a b
 |_,_,.nil=>.nil
 |_,_,.cons h t=>.cons (h.mono hfg) (t.mono hfg)
structure SRel(f:Inj)(Mi Sh:Loc→Prop)(bot:List Frame)(s:S)(g:Goroutine)(w:World):Prop where
 fr:∃ fr cs,g=G fr (cs++bot)∧FRel f s.fr fr∧FsRel f s.cs cs
 heap:HRel f (fun l=>Mi l∨Sh l) Mi s.h w
theorem SRel.env{f:Inj}{Mi Sh:Loc→Prop}{bot:List Frame}{s:S}{g:Goroutine}{w w':World}(h:SRel f Mi Sh bot s g w)(he:Env (fun l=>Mi l∨Sh l) w w'):SRel f Mi Sh bot s g w':=⟨h.fr,h.heap.env he⟩
theorem fold_sub{α:Type}{g:α×Array Event→Event→α×Array Event}(hg:∀ x a,(g x a).2=x.2∨(g x a).2=x.2.push a)(e:Event):∀(l:List Event) (x:α×Array Event),e∈(l.foldl g x).2→e∈x.2∨e∈l
 | [],x,h=>.inl h
 |a::l,x,h=>by
  simp only[List.foldl_cons] at h;rcases fold_sub hg e l _ h with h|h
  ·rcases hg x a with h'|h'
   ·rw[h'] at h;exact .inl h
   ·rw[h',Array.mem_push] at h;rcases h with h|rfl
    ·exact .inl h
    ·exact .inr List.mem_cons_self
  ·exact .inr (List.mem_cons_of_mem _ h)
theorem seen_sub{p:Program}{fn:FuncId}{es:Array Event}:∀ e∈seen p fn es,e∈es:=by
 intro e he;unfold seen at he;simp only[←Array.foldl_toList] at he;refine(fold_sub (fun x a=>?_) e _ _ he).elim (fun h=>absurd h (by simp)) (fun h=>by simpa using h)
 ·obtain⟨q,kept⟩:=x;simp only[];split
  ·exact .inl rfl
  ·split
   ·exact .inl rfl
   ·exact .inr rfl
theorem Did.seen{Mi Mi' Sh:Loc→Prop}{w w':World}{es:Array Event}(h:Did Mi Sh w w' es Mi')(p:Program)(fn:FuncId):Did Mi Sh w w' (seen p fn es) Mi':=⟨h.env,h.mine,fun e he=>h.evs e (seen_sub e he)⟩
theorem TRel.ev{f:Inj}{t:T Value}{a:Array Value}(h:TRel f t a){fr:Frame}(hfr:fr.tmps=a):∀ x v,Cx.ev t x=some v→VRel f v (fr.eval x):=by
 intro x v e;cases x with
 |tmp i=>
  simp only[Cx.ev,Option.some.injEq] at e;have:=h i;rw[Frame.eval,hfr];cases et:t.get i with
  |none=>rw[et] at e this;subst e;exact this
  |some u=>rw[et] at e this;subst e;exact this
 |const v'=>
  simp only[Cx.ev] at e;cases ec:closed zY v' with
  |false=>rw[ec] at e;cases e
  |true=>rw[ec] at e;cases e;exact zB _ _ ec
 |global g=>cases e
 |func g=>cases e;exact .func rfl .nil .nil
theorem TRel.set{f:Inj}{t:T Value}{a:Array Value}{v v':Value}(h:TRel f t a)(hv:VRel f v v'){d:Nat}(hd:d<a.size):TRel f (t.set d v) (a.setIfInBounds d v'):=by
 intro i;by_cases hi:i=d
 ·subst hi;rw[T.get_set_same];simp[Array.getD,hd];exact hv
 ·rw[T.get_set_ne _ _ hi];have:=h i;have e:(a.setIfInBounds d v').getD i undef=a.getD i undef:=by rw[Array.getD_eq_getD_getElem?,Array.getD_eq_getD_getElem?,Array.getElem?_setIfInBounds_ne (Ne.symm hi)]
  rw[e];exact this
end
section
open Go.Conc (G)
variable {p:Tab}{f:Inj}{Mi Sh:Loc→Prop}{bot:List Frame}{main:Bool}
def Adv(P:Program)(main:Bool)(f:Inj)(Mi Sh:Loc→Prop)(bot:List Frame)(h:AHeap)(g:Goroutine)(w:World)(s':S):Prop:=
 ∃ g' w' es Mi' f',stepG P main g w=.go g' w' es∧f.le f'∧Did Mi Sh w w' es Mi'∧SRel f' Mi' Sh bot s' g' w'∧Old f h f' s'.h
theorem adv_still{h:AHeap}{g g':Goroutine}{w:World}{s':S}{es:Array Event}(hs:stepG p.prog main g w=.go g' w es)(he:es=#[])(hr:SRel f Mi Sh bot s' g' w)(hh:s'.h=h):Adv p.prog main f Mi Sh bot h g w s':=
 ⟨g',w,es,Mi,f,hs,f.le_refl,by rw[he];exact .quiet,hr,by rw[hh];exact .refl _ _⟩
theorem exitTo_rel{id:Nat}:∀{l:List AI} {l':List Item},IsRel f l l'→(∀ k,exitToA id l=some k→∃ k',exitTo id l'=some k'∧IsRel f k k')∧(exitToA id l=none→exitTo id l'=none)
 | [],_,.nil=>⟨fun k h=>by simp[exitToA] at h,fun _=>rfl⟩
 |_::_,_,.cons h t=>by
  have ih:=exitTo_rel (id:=id) t;cases h with
  |inBlock i=>
   simp only[exitToA,exitTo];by_cases hi:i=id
   ·rw[T.beq_true hi];simp only[hi,beq_self_eq_true,if_true];exact⟨fun k e=>by cases e;exact⟨_,rfl,t⟩,fun e=>by cases e⟩
   ·rw[T.beq_false hi];have:(i==id)=false:=by simpa using hi
    simp only[this,Bool.false_eq_true,if_false];exact ih
  |_=>simpa only[exitToA,exitTo] using ih
theorem gotoIn_rel{l:Nat}:∀{a:List AI} {b:List Item},IsRel f a b→(∀ k,gotoInA l a=some k→∃ k',gotoIn l b=some k'∧IsRel f k k')∧(gotoInA l a=none→gotoIn l b=none)
 | [],_,.nil=>⟨fun k h=>by simp[gotoInA] at h,fun _=>rfl⟩
 |_::_,_,.cons h t=>by
  have ih:=gotoIn_rel (l:=l) t;cases h with
  |inScope c=>
   simp only[gotoInA,gotoIn];cases findLabel c l with
   |none=>exact ih
   |some r=>exact⟨fun k e=>by cases e;exact⟨_,rfl,.cons (.code _) (.cons (.inScope _) t)⟩,fun e=>by cases e⟩
  |_=>simpa only[gotoInA,gotoIn] using ih
theorem SRel.out{s:S}{g:Goroutine}{w:World}(h:SRel f Mi Sh bot s g w):∃ tmps todo defers round cs,g=G (realF s.fr tmps todo defers round) (cs++bot)∧tmps.size=s.fr.nt∧TRel f s.fr.tmps tmps∧IsRel f s.fr.todo todo∧DsRel f s.fr.defers defers∧RoRel f s.fr.round round∧FsRel f s.cs cs∧HRel f (fun l=>Mi l∨Sh l) Mi s.h w:=by obtain⟨fr,cs,h1,h2,h3⟩:=h.fr;obtain⟨tmps,todo,defers,round,k1,k2,k3,k4,k5,k6⟩:=h2.ex;subst k1;exact⟨tmps,todo,defers,round,cs,h1,k2,k3,k4,k5,k6,h3,h.heap⟩
section
variable {fr:AF}{cs':List AF}{h:AHeap}{w:World}{tmps:Array Value}{todo:List Item}{defers:List Deferred}{round:Option Nat}{cs:List Frame}
theorem adv_to(hret:fr.ret=false)(hsz:tmps.size=fr.nt)(ht:TRel f fr.tmps tmps)(hd:DsRel f fr.defers defers)(hro:RoRel f fr.round round)(hcs:FsRel f cs' cs)(hr:HRel f (fun l=>Mi l∨Sh l) Mi h w){k:List AI}{k':List Item}(hk:IsRel f k k')
  (hs:stepG p.prog main (G (realF fr tmps todo defers round) (cs++bot)) w=.go (G (realF {fr with todo:=k} tmps k' defers round) (cs++bot)) w #[]) :
  Adv p.prog main f Mi Sh bot h (G (realF fr tmps todo defers round) (cs++bot)) w {fr:={fr with todo:=k},cs:=cs',h}:=
 adv_still hs rfl ⟨⟨_,_,rfl,⟨_,_,_,_,rfl,hsz,ht,hk,hd,hro⟩,hcs⟩,hr⟩ rfl
end
theorem zna{ops:Array Oper}{i:Nat}{o:Oper}{rest:List Oper}(h:o::rest=ops.toList.drop i):ops[i]? = some o∧rest=ops.toList.drop (i+1):=by
 constructor
 ·have:(ops.toList.drop i)[0]? = some o:=by rw[←h];rfl
  rw[List.getElem?_drop] at this;simpa using this
 ·have:(ops.toList.drop i).drop 1=rest:=by rw[←h];rfl
  rw[List.drop_drop] at this;exact this.symm
def putDst(d:Option Tmp)(tmps:Array Value)(v:Value):Array Value:=
 match d with
 |some d=>tmps.setIfInBounds d v
 |none=>tmps
theorem zCa{fr fr':AF}{o:Oper}{v v':Value}{k:List AI}{k':List Item}{tmps:Array Value}{defers:List Deferred}{round:Option Nat}(hs:zta fr o v k=some fr')(hv:VRel f v v')
  (hsz:tmps.size=fr.nt) (ht:TRel f fr.tmps tmps) (hk:IsRel f k k') (hd:DsRel f fr.defers defers) (hro:RoRel f fr.round round) :
  FRel f fr' (realF fr (putDst o.dst tmps v') k' defers round)∧fr'.ret=fr.ret∧fr'.deferred=fr.deferred∧fr'.round=fr.round:=by
 unfold zta at hs;cases ed:o.dst with
 |none=>rw[ed] at hs;cases hs;exact⟨⟨_,_,_,_,rfl,hsz,ht,hk,hd,hro⟩,rfl,rfl,rfl⟩
 |some d=>
  rw[ed] at hs;simp only[] at hs;cases eb:Nat.blt d fr.nt with
  |false=>rw[eb] at hs;cases hs
  |true=>
   rw[eb] at hs;cases hs;have hlt:d<tmps.size:=by rw[hsz];exact Nat.lt_of_succ_le (by simpa[Nat.blt] using eb)
   exact⟨⟨_,_,_,_,rfl,by simpa[putDst] using hsz,ht.set hv hlt,hk,hd,hro⟩,rfl,rfl,rfl⟩
theorem finish_rel{c c':AF}{fr:Frame}{v v':Value}(h:FRel f c fr)(hv:VRel f v v')(hf:finishA c v=some c'):FRel f c' (fr.finish v')∧c'.ret=c.ret:=by
 obtain⟨tmps,todo,defers,round,rfl,hsz,ht,hk,hd,hro⟩:=h.ex;unfold finishA at hf;split at hf
 ·next ops i o rest k e=>
  rw[e] at hk;cases hk with
  |cons h1 h2=>
   cases h1 with
   |reg hdrop=>
    rename_i k';obtain⟨e1,e2⟩:=zna hdrop;obtain⟨k1,k2,_⟩:=zCa hf hv hsz ht (k':=.inRegion ops (List.range' (i+1) rest.length)::_) (.cons (.reg e2) h2) hd hro;refine⟨?_,k2⟩;have:(realF c tmps (.inRegion ops (List.range' i (o::rest).length)::k') defers round).finish v'=realF c (putDst o.dst tmps v') (.inRegion ops (List.range' (i+1) rest.length)::k') defers round:=by simp only[List.length_cons,List.range'_succ,Frame.finish,realF,e1,Option.bind_some];unfold putDst;cases o.dst<;>rfl
    rw[this];exact k1
 ·next l k e=>
  cases hf;rw[e] at hk;cases hk with
  |cons h1 h2=>
   cases h1 with
   |inRF hl=>exact⟨⟨_,_,_,_,rfl,hsz,ht,.cons (.endRF hl) h2,hd,hro⟩,rfl⟩
 ·cases hf
theorem pop_rel{s s':S}{v v':Value}{fr:Frame}{cs:List Frame}{w:World}(hp:popA s v=.next s')(hv:VRel f v v')(hcs:FsRel f s.cs cs)(hr:HRel f (fun l=>Mi l∨Sh l) Mi s.h w)(hkind:fr.kind=if s.fr.deferred then .deferred else .normal) :
  ∃ g',doReturn p.prog main fr (cs++bot) none v' w=.go g' w #[]∧SRel f Mi Sh bot s' g' w∧s'.h=s.h:=by
 obtain⟨sfr,scs,sh⟩:=s;unfold popA at hp;simp only[] at hp hcs hkind hr;cases hcs with
 |nil=>cases hp
 |cons hc t=>
  rename_i c cf l l';simp only[] at hp;cases ed:sfr.deferred with
  |true=>
   rw[ed] at hp hkind;simp only[] at hp;cases er:c.ret with
   |false=>rw[er] at hp;cases hp
   |true=>rw[er] at hp;cases hp;obtain⟨tmps,todo,defers,round,rfl,hrest⟩:=hc.ex;refine⟨G (realF c tmps todo defers round) (l'++bot),?_,⟨⟨_,_,rfl,⟨_,_,_,_,rfl,hrest⟩,t⟩,hr⟩,rfl⟩;simp[doReturn,hkind,realF,er,G]
  |false=>
   rw[ed] at hp hkind;simp only[] at hp;cases er:c.ret with
   |true=>rw[er] at hp;cases hp
   |false=>
    rw[er] at hp;cases ef:finishA c v with
    |none=>rw[ef] at hp;cases hp
    |some c'=>rw[ef] at hp;cases hp;obtain⟨k1,k2⟩:=finish_rel hc hv ef;refine⟨G (cf.finish v') (l'++bot),?_,⟨⟨_,_,rfl,k1,t⟩,hr⟩,rfl⟩;simp[doReturn,hkind,G]
end
section
open Go.Conc (G)
variable {p:Tab}{f:Inj}{Mi Sh:Loc→Prop}{bot:List Frame}{main:Bool}{h:AHeap}{w:World}
theorem getObj_any(P:Program){r:Nat}{o:Obj}(hh:w.heap[r]? = some o)(hc:∀ c e fr,o≠.cells c e fr)(hn:o.isChan=false):(getObj r).run P w=.ok o w∧∀ ev,(getObj r).events P w ev=ev.push ⟨.obj r,false,false⟩:=by
 constructor
 ·cases o<;>first|exact absurd rfl (hc _ _ _)|simp[getObj,Sem.run,hh]
 ·intro ev;cases o<;>first|exact absurd rfl (hc _ _ _)|simp[getObj,Sem.events,Sem.runT,hh,hn,-Sem.runT_eq]
theorem setObj_any(P:Program){r:Nat}{o o':Obj}(hh:w.heap[r]? = some o)(hc:∀ c e fr,o≠.cells c e fr)(hn:o'.isChan=false):(setObj r o').run P w=.ok () {w with heap:=w.heap.setIfInBounds r o'}∧∀ ev,(setObj r o').events P w ev=ev.push ⟨.obj r,true,false⟩:=by
 constructor
 ·cases o<;>first|exact absurd rfl (hc _ _ _)|simp[setObj,Sem.run,hh]
 ·intro ev;cases o<;>first|exact absurd rfl (hc _ _ _)|simp[setObj,Sem.events,Sem.runT,hh,hn,-Sem.runT_eq]
theorem setLoop_sound(hr:HRel f (fun l=>Mi l∨Sh l) Mi h w){l:Nat}{x:Base}{al al':ALoop}(hl:f l=some x)(ho:h.objs.get l=some (.loop al))(hlo:h.owns l=true) :
  ∃ l',LRel f al l'∧(∀ P,(Instr.getLoop x.blk).run P w=.ok l' w∧∀ ev,(Instr.getLoop x.blk).events P w ev=ev.push ⟨.obj x.blk,false,false⟩) ∧
   ∀ l'':Loop,LRel f al' l''→∃ w',(∀ P,(setObj x.blk (.loop l'')).run P w=.ok () w'∧∀ ev,(setObj x.blk (.loop l'')).events P w ev=ev.push ⟨.obj x.blk,true,false⟩) ∧
    Did Mi Sh w w' #[⟨.obj x.blk,false,false⟩,⟨.obj x.blk,true,false⟩] Mi∧HRel f (fun l=>Mi l∨Sh l) Mi (h.put l (.loop al')) w'∧Old f h f (h.put l (.loop al')):=by
 obtain⟨o,o1,o2⟩:=hr.obj l x hl;rw[ho] at o1;cases o1;obtain⟨hx0,hK,l',k1,k2⟩:=o2;have hMi:Mi (.obj x.blk):=hr.mine l x hl hlo _ rfl;refine⟨l',k2,fun P=>?_,fun l'' hl''=>⟨{w with heap:=w.heap.setIfInBounds x.blk (.loop l'')},fun P=>setObj_any P k1 (fun _ _ _ h=>by cases h) rfl,⟨env_putObj rfl k1 (fun _ _ _ h=>by cases h) hMi,fun l=>?_,fun ev hev=>?_⟩,?_,.put hl⟩⟩
 ·obtain⟨g1,g2⟩:=getObj_any P k1 (fun _ _ _ h=>by cases h) rfl;exact⟨by simp[Instr.getLoop,g1],fun ev=>by simp[Instr.getLoop,g1,g2]⟩
 ·simp only[Array.size_setIfInBounds];exact⟨.inl,fun h=>h.elim id fun⟨b,_,h1,h2⟩=>absurd h2 (Nat.not_lt.2 h1)⟩
 ·simp at hev;rcases hev with rfl|rfl<;>exact .inr ⟨rfl,.inl hMi⟩
 ·exact putObj_rel hr hl ho ⟨_,rfl⟩ (fun _ _ _ _ _ h=>by cases h) rfl k1 fun w₂ h₂=>⟨hx0,hK,_,h₂,hl''⟩
theorem leave_sound{s s':S}{jump:Option Code}{tmps:Array Value}{todo:List Item}{defers:List Deferred}{round:Option Nat}{cs:List Frame}(hret:s.fr.ret=false)(hsz:tmps.size=s.fr.nt)(ht:TRel f s.fr.tmps tmps)(hk:IsRel f s.fr.todo todo)(hd:DsRel f s.fr.defers defers)
    (hro:RoRel f s.fr.round round) (hcs:FsRel f s.cs cs) (hr:HRel f (fun l=>Mi l∨Sh l) Mi s.h w) (hle:zZb s jump=.next s')
    (h0:round=none→(jump=none∨jump=some .ret)→stepG p.prog main (G (realF s.fr tmps todo defers round) (cs++bot)) w=.go (G {realF s.fr tmps todo defers round with mode:=.returning} (cs++bot)) w #[])
    (h1:∀ l,round=some l→∀ y w1 es,(Instr.endRound l jump).runT p.prog w #[]=(.ok y w1,es)→stepG p.prog main (G (realF s.fr tmps todo defers round) (cs++bot)) w =
       GStep.after (seen p.prog s.fr.fn es) (doReturn p.prog main (realF s.fr tmps todo defers round) (cs++bot) none y w1)) :
    Adv p.prog main f Mi Sh bot s.h (G (realF s.fr tmps todo defers round) (cs++bot)) w s':=by
  obtain⟨sfr,scs,sh⟩:=s;simp only[] at *;unfold zZb at hle;cases hro':sfr.round with
  |none=>
    rw[hro'] at hro hle;cases hro;simp only[] at hle;have hs':s'={fr:={sfr with ret:=true},cs:=scs,h:=sh}∧(jump=none∨jump=some .ret):=by
      split at hle
      · cases hle;exact⟨rfl,.inl rfl⟩
      · cases hle;exact⟨rfl,.inr rfl⟩
      · cases hle
    obtain⟨rfl,hj⟩:=hs';refine adv_still (h0 rfl hj) rfl ⟨⟨_,_,rfl,⟨_,_,_,_,?_,hsz,ht,hk,hd,by show RoRel f sfr.round none;rw[hro'];exact .none⟩,hcs⟩,hr⟩ rfl;simp[realF,hret]
  |some l=>
    rw[hro'] at hro hle;cases hro with
    |some hl=>
      rename_i x;simp only[] at hle;split at hle
      · next r e1 e2=>
        obtain⟨l',k1,k2,k3⟩:=setLoop_sound (al':={r with state:=jumpState jump,pending:=jump}) hr hl e1 e2;obtain⟨w',q1,q2,q3,q4⟩:=k3 {l' with state:=if jump.isNone then .ready else .done,pending:=jump} ⟨by cases jump<;>rfl,rfl,k1.fn,k1.size,k1.tmps,k1.params,k1.assign,k1.body,k1.defers⟩;have hv:VRel f (.bool (jumpNone jump)) (.bool jump.isNone):=by cases jump<;>exact .bool _
        obtain⟨g',d1,d2,d3⟩:=pop_rel (p:=p) (main:=main) (bot:=bot) (fr:=realF sfr tmps todo defers (some x.blk)) hle hv hcs q3 rfl;refine⟨g',w',_,Mi,f,?_,f.le_refl,q2.seen p.prog sfr.fn,d2,?_⟩
        · have er:(Instr.endRound x.blk jump).runT p.prog w #[]=(.ok (.bool jump.isNone) w',#[⟨.obj x.blk,false,false⟩,⟨.obj x.blk,true,false⟩]):=by rw[Sem.runT_eq];have a1:=(k2 p.prog).1;have a2:=(k2 p.prog).2;have b1:=(q1 p.prog).1;have b2:=(q1 p.prog).2;simp only[Instr.endRound,Sem.run_bind,Sem.events_bind,a1,a2,Result.andThen_ok,Result.evThen_ok,b1,b2,Sem.run_pure,Sem.events_pure];rfl
          rw[h1 _ rfl _ _ _ er];simp only[d1,GStep.after,Array.append_empty]
        · rw[d3];exact q4
      · cases hle
end
end Go.Cx
