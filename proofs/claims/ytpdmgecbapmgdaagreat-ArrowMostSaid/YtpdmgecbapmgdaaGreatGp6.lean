/- A part of the proof that ArrowMost returns true for every input: no further condition. -/
import Derived.Test.YtpdmgecbapmgdaaGreatGp5
import Derived.Test.YtpdmgecbapmgdaaGreatCx9
import Derived.Conc.Own4
import Derived.Test.YtpdmgecbapmgdaaGreatGp2
import Derived.Stop.RegionWithIn
set_option linter.unusedSimpArgs false
set_option linter.unusedVariables false
set_option maxHeartbeats 2000000
set_option maxRecDepth 100000
namespace Go.Proofs.YtpdmgecbapmgdaaGreat
section
open Go.RowKit
section
variable {F:Fence}{n:Nat}{P:Program}{Post:Act→World→Prop}{a:Act}{w:World}{b:Frame}{k:List Item}{cs:List Frame}
def zJb(Post:Act→World→Prop):Exit→Act→World→Prop
 |.normal,a,w=>Post a w
 |_,_,_=>False
abbrev Comes(F:Fence)(P:Program)(b:Frame)(cs:List Frame)(a:Act)(k:List Item)(w:World)(a':Act)(k':List Item)(w':World):Prop:=
 StepsIn (Machine.fenced P F) P (lone (b.atR a k) cs w) (lone (b.atR a' k') cs w')
theorem comes_code{c:Code}(h:c.wpIn F n P (zJb Post) a w)(hro:b.roundOf=F.round)(hb:F.fn b.fn)(hr:F.room (cs.length+1+n)) :
  ∃ a' w',Post a' w'∧Comes F P b cs a (.code c::k) w a' k w':=by
 obtain⟨e,a',w',hp,harr⟩:=h b k cs hro hb hr;cases e with
 |normal=>exact⟨a',w',hp,harr⟩
 |_=>exact hp.elim
theorem comes_seq{x y:Code}(hb:F.fn b.fn)(hr:F.room (cs.length+1+n)):Comes F P b cs a (.code (.seq x y)::k) w a (.code x::.code y::k) w:=
 .one (fenced_calm hb hr rfl) stepR_seq
theorem comes_cond{c:Operand}{x y:Code}{t:Bool}(hc:a.eval c=.bool t)(hb:F.fn b.fn)(hr:F.room (cs.length+1+n)):Comes F P b cs a (.code (.cond c x y)::k) w a (.code (if t then x else y)::k) w:=
 .one (fenced_calm hb hr rfl) (stepR_cond hc)
theorem comes_region{id:Nat}{ops:Array Oper}(hb:F.fn b.fn)(hr:F.room (cs.length+1+n)):Comes F P b cs a (.code (.region id ops false)::k) w a (.inRegion ops (List.range ops.size)::k) w:=
 .one (fenced_calm hb hr rfl) stepR_region
def reckons:Op→Bool
 |.move _|.assign _|.pick _ _ _|.binOp _ _ _ _ _|.load _ _|.fieldAddr _ _ _|.unOp _ _ _|.indexAddr _ _ _=>true
 |.call c=>match c.callee with
  |.builtin .len=>true
  |_=>false
 |_=>false
theorem reckons_about{o:Oper}(h:reckons o.op=true)(P:Program)(w:World)(ρ:Operand→Value):o.about P w ρ=none:=by
 unfold Oper.about;cases hop:o.op with
 |call c=>
  rw[hop] at h;simp only[reckons] at h;cases hc:c.callee with
  |builtin b=>simp[resolve,hc,Target.leads,Sem.run_pure]
  |invoke x y=>rw[hc] at h;cases h
  |value f=>rw[hc] at h;cases h
 |_=>simp_all [reckons]
theorem zDb{s:Sem Value}{P:Program}{w:World}:(∃ v w',(do let v ←s;pure (Next.value v):Sem Next).run P w=.ok (.value v) w')∨∃ x w',(do let v ←s;pure (Next.value v):Sem Next).run P w=.halt x w':=by
 rw[Sem.run_bind];cases s.run P w with
 |ok v w'=>exact .inl ⟨v,w',rfl⟩
 |halt x w'=>exact .inr ⟨x,w',rfl⟩
theorem yha{o:Oper}(h:reckons o.op=true)(P:Program)(w:World)(ρ:Operand→Value):(∃ v w',(execOp ρ o).run P w=.ok (.value v) w')∨∃ x w',(execOp ρ o).run P w=.halt x w':=by
 cases hop:o.op<;>simp only[hop,reckons] at h<;>try (cases h)
 all_goals unfold execOp;simp only[hop]
 case move x=>exact .inl ⟨_,_,rfl⟩
 case assign x=>exact .inl ⟨_,_,rfl⟩
 case pick c x y=>
  rw[Sem.run_bind];cases(asBool (ρ c)).run P w with
  |ok v w'=>exact .inl ⟨_,w',rfl⟩
  |halt x w'=>exact .inr ⟨x,w',rfl⟩
 case binOp op t x y u=>exact zDb
 case load t x=>exact zDb
 case fieldAddr t x f=>exact zDb
 case indexAddr t x i=>exact zDb
 case unOp o t x=>exact zDb
 case call c=>
  cases hc:c.callee with
  |builtin b=>
   rw[hc] at h;cases b with
   |len=>
    have e:(do let d ←resolve ρ c o.type;invoke d.target d.args:Sem Next)=(do let v ←Builtin.len_ c.argTypes o.type (c.args.map ρ);pure (Next.value v):Sem Next):=by simp[resolve,hc,invoke,builtin]
    rw[e];exact zDb
   |_=>cases h
  |invoke x y=>rw[hc] at h;cases h
  |value f=>rw[hc] at h;cases h
theorem comes_pre{ops:Array Oper}(l:List Oper):∀(i:Nat) (rest:List Nat) (a:Act) (w:World),(∀ j,j<l.length→ops[i+j]? = l[j]?)→(l.all fun o=>reckons o.op)=true →
  wpListIn F n P ops (zJb Post) l a w→b.roundOf=F.round→F.fn b.fn→F.room (cs.length+1+n) →
  ∃ a' w',Post a' w'∧Comes F P b cs a (.inRegion ops (List.range' i l.length++rest)::k) w a' (.inRegion ops rest::k) w':=by
 induction l with
 |nil=>exact fun i rest a w _ _ h _ _ _=>⟨a,w,h,.refl _⟩
 |cons o l ih=>
  intro i rest a w hops hall h hro hb hr;have ho:ops[i]? = some o:=by simpa using hops 0 (by simp)
  have hops':∀ j,j<l.length→ops[i+1+j]? = l[j]?:=fun j hj=>by have:=hops (j+1) (by simp;omega);simpa[Nat.add_assoc,Nat.add_comm 1 j] using this
  simp only[List.all_cons,Bool.and_eq_true] at hall;have hab:∀ f,o.about P w a.eval=some f→F.fn f:=fun f hf=>by rw[reckons_about hall.1] at hf;cases hf
  have h0:(lone (b.atR a (.inRegion ops (i::(List.range' (i+1) l.length++rest))::k)) cs w).fenced P F:=fenced_oper hb hr ho hab;have hfin:∀ v,(b.atR a (.inRegion ops (i::(List.range' (i+1) l.length++rest))::k)).finish v=b.atR (a.put o.dst v) (.inRegion ops (List.range' (i+1) l.length++rest)::k):=by intro v;rw[Frame.finish_atR,ho];rfl
  simp only[wpListIn] at h;rw[List.length_cons,List.range'_succ,List.cons_append];by_cases hw:Region.wanted o (yielded ops a.tmps)=true
  ·rw[if_pos hw] at h;have h2:=h.2;have hsem:o.semAt F.round a.eval=execOp a.eval o:=by
    refine Oper.semAt_eq _ _ _ fun c hc=>?_
    rw[hc] at hall;exact absurd hall.1 (by simp[reckons])
   rw[hsem] at h2;rcases yha hall.1 P w a.eval with⟨v,w1,hrun⟩|⟨x,w1,hrun⟩
   ·rw[hrun] at h2;obtain⟨a',w',hp,hs⟩:=ih (i+1) rest _ _ hops' hall.2 h2 hro hb hr;refine⟨a',w',hp,.head h0 (step_lone_go ?_) hs⟩;rw[stepGR_op (P:=P) ho hw,hro,hsem,←hfin];simp[stepG.apply,hrun]
   ·rw[hrun] at h2;cases x with
    |panic v=>exact h2.elim
    |_=>exact h2.elim
  ·rw[if_neg hw] at h;obtain⟨a',w',hp,hs⟩:=ih (i+1) rest _ _ hops' hall.2 h.2 hro hb hr;have hk:=stepR_op_skip (P:=P) (b:=b) (a:=a) (k:=k) (cs:=cs) (w:=w) (ops:=ops) (i:=i) (rest:=List.range' (i+1) l.length++rest) (by simp[ho];simpa using hw);simp only[ho,Option.bind_some] at hk;exact⟨a',w',hp,.head h0 hk hs⟩
end
end
section
open Go.RowKit Go.Cx Go.Conc
open Go.ConcR (DC0)
section
variable {F:Fence}{n:Nat}{P:Program}{b:Frame}{cs:List Frame}{S:Act→List Item→World→Prop}{a:Act}{w:World}{k:List Item}
def Reach(F:Fence)(P:Program)(b:Frame)(cs:List Frame)(S:Act→List Item→World→Prop)(a:Act)(k:List Item)(w:World):Prop:=
 ∃ a' k' w',S a' k' w'∧Comes F P b cs a k w a' k' w'
theorem Reach.here(h:S a k w):Reach F P b cs S a k w:=⟨a,k,w,h,.refl _⟩
theorem zK{x y:Code}(hb:F.fn b.fn)(hr:F.room (cs.length+1+n))(h:Reach F P b cs S a (.code x::.code y::k) w):Reach F P b cs S a (.code (.seq x y)::k) w:=by obtain⟨a',k',w',h1,h2⟩:=h;exact⟨a',k',w',h1,(comes_seq hb hr).trans h2⟩
theorem zO{c:Code}(hro:b.roundOf=F.round)(hb:F.fn b.fn)(hr:F.room (cs.length+1+n))
  (h:∀ R:Act→World→Prop,(∀ a' w',Reach F P b cs S a' k w'→R a' w')→c.wpIn F n P (zJb R) a w):Reach F P b cs S a (.code c::k) w:=by
 obtain⟨a1,w1,⟨a',k',w',h1,h2⟩,h3⟩:=comes_code (h (fun a' w'=>Reach F P b cs S a' k w') fun a' w' h=>h) hro hb hr;exact⟨a',k',w',h1,h3.trans h2⟩
theorem yc{c:Operand}{x y:Code}(t:Bool)(hc:a.eval c=.bool t)(hb:F.fn b.fn)(hr:F.room (cs.length+1+n))(h:Reach F P b cs S a (.code (if t then x else y)::k) w):Reach F P b cs S a (.code (.cond c x y)::k) w:=by obtain⟨a',k',w',h1,h2⟩:=h;exact⟨a',k',w',h1,(comes_cond hc hb hr).trans h2⟩
theorem yg(hb:F.fn b.fn)(hr:F.room (cs.length+1+n))(hro:b.roundOf=F.round)(h:Reach F P b cs S a k w):Reach F P b cs S a (.code .skip::k) w:=
 zO (n:=n) hro hb hr fun R hR=>by gi_wp2;exact hR _ _ h
theorem yh{id:Nat}{ops:Array Oper}(hb:F.fn b.fn)(hr:F.room (cs.length+1+n))(h:Reach F P b cs S a (.inRegion ops (List.range ops.size)::k) w):Reach F P b cs S a (.code (.region id ops false)::k) w:=by obtain⟨a',k',w',h1,h2⟩:=h;exact⟨a',k',w',h1,(comes_region hb hr).trans h2⟩
end
theorem put_same{a:Act}{d:Nat}{v:Value}(h:d<a.tmps.size):(a.put (some d) v).tmps.getD d undef=v:=by simp[Act.put,h]
theorem put_far{a:Act}{d e:Nat}{v:Value}(h:d≠e):(a.put (some d) v).tmps.getD e undef=a.tmps.getD e undef:=by simp[Act.put,h]
theorem put_size{a:Act}{d:Nat}{v:Value}:(a.put (some d) v).tmps.size=a.tmps.size:=by simp[Act.put]
theorem put_defers{a:Act}{d:Nat}{v:Value}:(a.put (some d) v).defers=a.defers:=rfl
abbrev lawFr(f:FuncId):Frame:={(default:Frame) with fn:=f,kind:=.normal,roundOf:=none}
structure EarlyAt(S:FuncId)(ops:Array Oper)(i j d r:Nat):Prop where
 o:∃ o,ops[i]? = some o∧o.op=.call {callee:=.value (.func S),args:=#[],argTypes:=#[]}∧o.guard=none∧o.dst=some d
 p:∃ o,ops[j]? = some o∧o.op=.assign (.tmp d)∧o.guard=none∧o.dst=some r
structure LateAt(S:FuncId)(ops:Array Oper)(i j1 j2 g c d e r:Nat):Prop where
 o:∃ o,ops[i]? = some o∧o.op=.call {callee:=.value (.func S),args:=#[],argTypes:=#[]}∧o.guard=some (g,true)∧o.dst=some d
 g:(ops[g]?).bind (·.dst)=some c
 p:∃ o,ops[j1]? = some o∧o.op=.pick (.tmp c) (.tmp d) (.const (.bool false))∧o.guard=none∧o.dst=some e
 q:∃ o,ops[j2]? = some o∧o.op=.assign (.tmp e)∧o.guard=none∧o.dst=some r
 ne:d≠c
inductive zLb(S:FuncId)(r z:Nat):Act→List Item→Prop where
 |early (a:Act) (k:List Item) (ops:Array Oper) (i j d:Nat) (h:EarlyAt S ops i j d r) (hdz:d<z) (hd:a.defers=[]) (hs:a.tmps.size=z):zLb S r z a (.inRegion ops [i,j]::.code .ret::k)
 |late (a:Act) (k:List Item) (ops:Array Oper) (i j1 j2 g c d e:Nat) (h:LateAt S ops i j1 j2 g c d e r) (hdz:d<z) (hez:e<z) (hd:a.defers=[]) (hs:a.tmps.size=z) (ht:a.tmps.getD c undef=.bool true) (hcz:c<z):zLb S r z a (.inRegion ops [i,j1,j2]::.code .ret::k)
section
variable {P:Program}{S f:FuncId}{r z:Nat}
theorem call_step{a:Act}{k:List Item}(hS:∃ fn,P.funcs[S]? = some fn∧(fn.name == "runtime.NumGoroutine")=false∧fn.body.isNone=false)(h:zLb S r z a k)(w:World) :
  stepG P true (G ((lawFr f).at a k) []) w=.go (G (Frame.enter P S #[] .normal) [(lawFr f).at a k]) w #[]:=by
 obtain⟨fn,hf,hn,hb⟩:=hS;cases h with
 |early k ops i j d h hdz hd hs=>
  obtain⟨o,ho,hop,hg,hdst⟩:=h.o;have hw:Region.wanted o (yielded ops a.tmps)=true:=by simp only[Region.wanted,hg]
  rw[stepG_enter ho hw (by intro h;cases h) (run_call_body hop hf hn hb)];have:listed P (lawFr f).fn a o w=#[]:=by unfold listed;rw[events_call_body hop hf hn hb];exact seen_none _ _
  rw[this];simp only[List.map_toArray,List.map_nil]
 |late k ops i j1 j2 g c d e h hdz hez hd hs ht hcz=>
  obtain⟨o,ho,hop,hg,hdst⟩:=h.o;have hw:Region.wanted o (yielded ops a.tmps)=true:=by
   simp only[Region.wanted,hg];have hgc:a.tmps[c]? = some (.bool true):=by rw[Array.getD_eq_getD_getElem?,Array.getElem?_eq_getElem (by omega)] at ht;rw[Array.getElem?_eq_getElem (by omega)];simpa using ht
   unfold yielded;rw[h.g];simp[hgc]
  rw[stepG_enter ho hw (by intro h;cases h) (run_call_body hop hf hn hb)];have:listed P (lawFr f).fn a o w=#[]:=by unfold listed;rw[events_call_body hop hf hn hb];exact seen_none _ _
  rw[this];simp only[List.map_toArray,List.map_nil]
theorem zGb{R:World→World→Prop}{Stop:Goroutine→World→Prop}{n:Nat}{g g':Goroutine}{w:World}(hs:g.status=.running)(h:∀ w1,stepG P true g w1=.go g' w1 #[])(hk:∀ w1,R w w1→Goes P true R DC0 Stop n g' w1) :
  Goes P true R DC0 Stop (n+1) g w:=Goes.step hs fun w1 h1=>by
 rw[h w1];exact⟨⟨rfl,rfl⟩,hk w1 h1⟩
theorem yZ{a:Act}{k:List Item}{ops:Array Oper}{i:Nat}{rest:List Nat}{o:Oper}{x:Operand}(ho:ops[i]? = some o)(hg:o.guard=none)(hop:o.op=.assign x)(w:World) :
  stepG P true (G ((lawFr f).at a (.inRegion ops (i::rest)::k)) []) w=.go (G ((lawFr f).at (a.put o.dst (a.eval x)) (.inRegion ops rest::k)) []) w #[]:=by
 have hr:(execOp a.eval o).run P w=.ok (.value (a.eval x)) w:=by unfold execOp;simp[hop]
 rw[stepG_value ho (by simp only[Region.wanted,hg]) (by intro h;cases h) hr];have:listed P (lawFr f).fn a o w=#[]:=by unfold listed;rw[show(execOp a.eval o).events P w #[]=#[] by unfold execOp;simp[hop]];exact seen_none _ _
 rw[this]
theorem step_pickG{a:Act}{k:List Item}{ops:Array Oper}{i:Nat}{rest:List Nat}{o:Oper}{c x y:Operand}(ho:ops[i]? = some o)(hg:o.guard=none)(hop:o.op=.pick c x y)(hc:a.eval c=.bool true)(w:World) :
  stepG P true (G ((lawFr f).at a (.inRegion ops (i::rest)::k)) []) w=.go (G ((lawFr f).at (a.put o.dst (a.eval x)) (.inRegion ops rest::k)) []) w #[]:=by
 have hr:(execOp a.eval o).run P w=.ok (.value (a.eval x)) w:=by unfold execOp;simp[hop,hc,asBool]
 rw[stepG_value ho (by simp only[Region.wanted,hg]) (by intro h;cases h) hr];have:listed P (lawFr f).fn a o w=#[]:=by unfold listed;rw[show(execOp a.eval o).events P w #[]=#[] by unfold execOp;simp[hop,hc,asBool]];exact seen_none _ _
 rw[this]
theorem step_doneG{F:FuncId→Prop}{fl:Func}(hF:zfa P F)(hin:F f)(hfl:P.funcs[f]? = some fl)(hres:fl.results=#[.tmp r]){a:Act}{k:List Item}(hd:a.defers=[])(h4:a.tmps.getD r undef=.bool true)(w:World) :
  stepG P true (G {(lawFr f).at a (.code .ret::k) with mode:=.returning} []) w=.ended (.done (.bool true)) w #[]:=by
 obtain⟨fn,c,hk⟩:=hF f hin;have hfn:fn=fl:=Option.some.inj (hk.at_.symm.trans hfl);have h1:(results fn a.tmps).run P w=.ok (.bool true) w:=by rw[results_tmp (t:=r) (by rw[hfn];exact hres) a.tmps P w,h4]
 have h2:(results fn a.tmps).events P w #[]=#[]:=events_results_tmp (t:=r) (by rw[hfn];exact hres) _ _;have e1:∀(fr:Frame) (z:World),fr.kind=.normal→fr.fn=f→doReturn P true fr [] none (.bool true) z=.ended (.done (.bool true)) z:=fun fr z h3 h4=>by simp[doReturn,h3,h4,hk.ini]
 simp only[G,stepG,unwind,Frame.at,hd,hk.at_,Sem.runT_eq,h1,h2];rw[e1 _ _ rfl rfl];simp[GStep.after,seen_none]
theorem yNa{F:FuncId→Prop}{fl:Func}(hF:zfa P F)(hin:F f)(hfl:P.funcs[f]? = some fl)(hres:fl.results=#[.tmp r]){a:Act}{k:List Item}{ops:Array Oper}{w w':World}(he:Env (OldL w) w w')(hd:a.defers=[])(h4:a.tmps.getD r undef=.bool true) :
  Goes P true (fun w0 w1=>Env (OldL w) w0 w1) DC0 (AtRet P (fun v w1=>v=.bool true∧Env (OldL w) w w1)) 2 (G ((lawFr f).at a (.inRegion ops []::.code .ret::k)) []) w':=by
 refine zGb rfl (fun w1=>stepG_region_end) fun w1 h1=>zGb rfl (fun w1=>stepG_ret') fun w2 h2=>Goes.stop fun w3 h3=>?_
 exact⟨rfl,_,step_doneG hF hin hfl hres hd h4 w3,rfl,((he.trans h1).trans h2).trans h3⟩
theorem after_callG{F:FuncId→Prop}{fl:Func}(hF:zfa P F)(hin:F f)(hfl:P.funcs[f]? = some fl)(hres:fl.results=#[.tmp r])(hrz:r<z){a:Act}{k:List Item}(h:zLb S r z a k){w w':World}(he:Env (OldL w) w w') :
  Goes P true (fun w0 w1=>Env (OldL w) w0 w1) DC0 (AtRet P (fun v w1=>v=.bool true∧Env (OldL w) w w1)) 4 (G (((lawFr f).at a k).finish (.bool true)) []) w':=by
 cases h with
 |early k ops i j d h hdz hd hs=>
  obtain⟨o,ho,hop,hg,hdst⟩:=h.o;obtain⟨o2,ho2,hop2,hg2,hdst2⟩:=h.p;rw[Frame.finish_at,ho];simp only[Option.bind_some,hdst];refine zGb (g':=G ((lawFr f).at ((a.put (some d) (.bool true)).put (some r) (.bool true)) (.inRegion ops []::.code .ret::k)) []) rfl (fun w1=>?_) fun w1 h1=>Goes.more (yNa hF hin hfl hres (a:=(a.put (some d) (.bool true)).put (some r) (.bool true)) (ops:=ops) (k:=k) (he.trans h1) (by rw[put_defers,put_defers,hd]) (put_same (by rw[put_size];omega)))
  have h:=yZ (P:=P) (f:=f) (a:=a.put (some d) (.bool true)) (k:=.code .ret::k) (ops:=ops) (i:=j) (rest:=[]) (x:=.tmp d) ho2 hg2 hop2 w1;rw[h,hdst2,show(a.put (some d) (.bool true)).eval (.tmp d)=.bool true from put_same (by omega)]
 |late k ops i j1 j2 g c d e h hdz hez hd hs ht hcz=>
  obtain⟨o,ho,hop,hg,hdst⟩:=h.o;obtain⟨o2,ho2,hop2,hg2,hdst2⟩:=h.p;obtain⟨o3,ho3,hop3,hg3,hdst3⟩:=h.q;rw[Frame.finish_at,ho];simp only[Option.bind_some,hdst];refine zGb (g':=G ((lawFr f).at ((a.put (some d) (.bool true)).put (some e) (.bool true)) (.inRegion ops [j2]::.code .ret::k)) []) rfl (fun w1=>?_) fun w1 h1=>?_
  ·have h:=step_pickG (P:=P) (f:=f) (a:=a.put (some d) (.bool true)) (k:=.code .ret::k) (ops:=ops) (i:=j1) (rest:=[j2]) (c:=.tmp c) (x:=.tmp d) (y:=.const (.bool false)) ho2 hg2 hop2 ((put_far h.ne).trans ht) w1;rw[h,hdst2,show(a.put (some d) (.bool true)).eval (.tmp d)=.bool true from put_same (by omega)]
  ·refine zGb (g':=G ((lawFr f).at (((a.put (some d) (.bool true)).put (some e) (.bool true)).put (some r) (.bool true)) (.inRegion ops []::.code .ret::k)) []) rfl (fun w2=>?_) fun w2 h2=>yNa hF hin hfl hres ((he.trans h1).trans h2) (by rw[put_defers,put_defers,put_defers,hd]) (put_same (by rw[put_size,put_size];omega))
   have h:=yZ (P:=P) (f:=f) (a:=(a.put (some d) (.bool true)).put (some e) (.bool true)) (k:=.code .ret::k) (ops:=ops) (i:=j2) (rest:=[]) (x:=.tmp e) ho3 hg3 hop3 w2;rw[h,hdst3,show((a.put (some d) (.bool true)).put (some e) (.bool true)).eval (.tmp e)=.bool true from put_same (by rw[put_size];omega)]
end
end
section
open Go.RowKit
theorem box_cells{W w:World}{rs rl rw many:Int}{A:Option Addr}{n c:Nat}(h:Below (W.heap.size+1) (W.alloc (.cells #[.int .i64 rs,.int .i64 rl,.int .i64 rw,.int .i64 many,.slice A n c] 26)) w) :
  w.cell? ⟨W.heap.size,0,none⟩=some (.int .i64 rs)∧w.cell? ⟨W.heap.size,1,none⟩=some (.int .i64 rl)∧w.cell? ⟨W.heap.size,2,none⟩=some (.int .i64 rw)∧w.cell? ⟨W.heap.size,3,none⟩=some (.int .i64 many)∧w.cell? ⟨W.heap.size,4,none⟩=some (.slice A n c):=by
 refine⟨?_,?_,?_,?_,?_⟩<;>(rw[h.cell (by simp)];go_simp)
def SaysMatched(p:Prop)(w:World)(e:Ending)(w':World):Prop:=∃ b:Bool,e=.returned (.bool b)∧(b=true↔p)∧Below w.heap.size w w'
theorem matched_any(rs rl rw many:Int)(A:Option Addr)(n c:Nat)(sh:Nat→Shaft)(LA:Option Addr)(m lc:Nat)(l:Nat→Nat)(PA:Option Addr)(pn pc:Nat)(p:Nat→Int)(W:World)(hc:n≤c)(hpc:pn≤pc)(hm:m≤9)(hmc:m≤lc)
  (hst:Hid (zxa rs rl rw many n sh)) (hsh:Hid (zA W A n sh)) (hl:Hid (∀ k,k<m→l k<n)) (hi:Hid (zca W LA m fun k=>(l k:Int))) (hp:Hid (ye W PA pn p)) :
  CallsIn Fc 0 Tryz.prog 35 #[zga rs rl rw many A n c,.slice LA m lc,.slice PA pn pc] W (SaysMatched (yHb rs rl rw (realZ sh pn p) l m) W):=by
 have hn:=hst.out.count;obtain⟨B,hB⟩:∃ B:Obj,B=.cells #[.int .i64 rs,.int .i64 rl,.int .i64 rw,.int .i64 many,.slice A n c] 26:=⟨_,rfl⟩;gi_enter Tryz.func35,Tryz.ntmps35;gi_wp2;rw[←hB]
 gi_loopw [7] (fun v wr=>∃ x:Nat,x≤3∧v=.int .i64 x∧Below (W.heap.size+1) (W.alloc B) wr∧∀ y,y<x→∀ i,i<m→∀ k,k<m→realZ sh pn p (l i) y-realZ sh pn p (l k) y≤allowOf rs rl rw y) (fun v _=>3-(intOf v).toNat)
 case atStart=>exact⟨0,by omega,rfl,Below.refl _ _,fun y h=>by omega⟩
 case round=>
  obtain⟨x,hx,rfl,hb,hall⟩:=hrel;have HB:=Lib.hid hb;have HALL:=Lib.hid hall;clear hb hall;by_cases hlt:x<3
  ·gi_wp2
   gi_loopw [8] (fun v wr=>∃ i:Nat,i≤m∧v=.int .i64 i∧Below (W.heap.size+1) (W.alloc B) wr∧∀ t,t<i→∀ k,k<m→realZ sh pn p (l t) x-realZ sh pn p (l k) x≤allowOf rs rl rw x) (fun v _=>m-(intOf v).toNat)
   case atStart=>exact⟨0,by omega,rfl,HB.out,fun t h=>by omega⟩
   case round=>
    obtain⟨i,hi',rfl,hb,hall⟩:=hrel;have HB:=Lib.hid hb;have HROW:=Lib.hid hall;clear hb hall;by_cases hli:i<m
    ·gi_wp2
     gi_loopw [9] (fun v wr=>∃ k:Nat,k≤m∧v=.int .i64 k∧Below (W.heap.size+1) (W.alloc B) wr∧∀ t,t<k→realZ sh pn p (l i) x-realZ sh pn p (l t) x≤allowOf rs rl rw x) (fun v _=>m-(intOf v).toNat)
     case atStart=>exact⟨0,by omega,rfl,HB.out,fun t h=>by omega⟩
     case round=>
      obtain⟨k,hk',rfl,hb,hall⟩:=hrel;have HB:=Lib.hid hb;have HCOL:=Lib.hid hall;clear hb hall;by_cases hlk:k<m
      ·obtain⟨b,o,rfl,hci⟩:=hi.out i hli;obtain⟨b',o',e',hck⟩:=hi.out k hlk;cases e';have hwr:∀ i k,i<m→k<m→IntKind.wrap .i64 (realZ sh pn p (l i) x-realZ sh pn p (l k) x)=realZ sh pn p (l i) x-realZ sh pn p (l k) x:=fun i k h1 h2=>by have a1:=(hst.out.each _ (hl.out i h1)).spans;have a2:=(hst.out.each _ (hl.out k h2)).spans;have b1:=yca (a1.up x hlt) (yG hp.out (3*l i+x)).1;have b2:=yca (a2.up x hlt) (yG hp.out (3*l k+x)).1;have c1:=a1.least x hlt;have c2:=a1.most x hlt;have c3:=a2.least x hlt;have c4:=a2.most x hlt;unfold realZ;simp[IntKind.wrap,IntKind.signed,IntKind.bits];omega
       gi_wp2;refine zL (D:=[(26,zga rs rl rw many A n c),(27,.slice (some ⟨b,o,none⟩) m lc),(28,.int .i64 i),(29,.pointer (some ⟨b,o+i,none⟩)),(30,.int .i64 (l i)),(31,.int .i64 x),(32,.slice PA pn pc),(33,.int .i64 (realZ sh pn p (l i) x)),(34,zga rs rl rw many A n c),(35,.slice (some ⟨b,o,none⟩) m lc),(36,.int .i64 k),(37,.pointer (some ⟨b,o+k,none⟩)),(38,.int .i64 (l k)),(39,.int .i64 x),(40,.slice PA pn pc),(41,.int .i64 (realZ sh pn p (l k) x)),(42,.int .i64 (realZ sh pn p (l i) x-realZ sh pn p (l k) x)),(43,.pointer (some ⟨W.heap.size,0,none⟩)),(44,.agg #[.int .i64 rs,.int .i64 rl,.int .i64 rw,.int .i64 many]),(45,.int .i64 x),(46,.int .i64 (allowOf rs rl rw x)),(47,.bool (decide (realZ sh pn p (l i) x-realZ sh pn p (l k) x>allowOf rs rl rw x)))])
        (I:=fun w=>Below (W.heap.size+1) (W.alloc B) w) (z:=48) (by kernel_rfl) (by kernel_rfl) (by kernel_rfl) (by kernel_rfl) (by kernel_rfl) rfl rfl HB.out.drew ?_ ?_
       ·intro j a w hj hd hz hold hf hI;rw[hB] at hI;obtain⟨c0,c1,c2,c3,c4⟩:=box_cells hI;have HIB:Hid (Below (W.heap.size+1) (W.alloc B) w):=Lib.hid (by rw[hB];exact hI);have HSZ:W.heap.size+1≤w.heap.size:=by have:=hI.size;simpa using this
        have hBW:Below W.heap.size W w:=((Below.refl W.heap.size W).alloc (Nat.le_refl _) _).trans (hI.mono (by omega));have d1:=Below.old hBW hci;have d2:=Below.old hBW hck;have HBW:=Lib.hid hBW;clear hI hBW;have w16:IntKind.wrap .i64 (realZ sh pn p (l i) x-realZ sh pn p (l k) x)=realZ sh pn p (l i) x-realZ sh pn p (l k) x:=hwr i k hli hlk;have s1:=zc hz (hold 1 (by kernel_rfl)) (by omega);have s2:=zc hz (hold 2 (by kernel_rfl)) (by omega);have s3:=zc hz (hold 3 (by kernel_rfl)) (by omega);have s7:=zc hz (hold 7 (by kernel_rfl)) (by omega);have s8:=zc hz (hold 8 (by kernel_rfl)) (by omega);have s9:=zc hz (hold 9 (by kernel_rfl)) (by omega);clear hold
        have hjs:j=0∨j=1∨j=2∨j=3∨j=4∨j=5∨j=6∨j=7∨j=8∨j=9∨j=10∨j=11∨j=12∨j=13∨j=14∨j=15∨j=16∨j=17∨j=18∨j=19∨j=20∨j=21:=by have:j<22:=hj;omega
        rcases hjs with rfl|rfl|rfl|rfl|rfl|rfl|rfl|rfl|rfl|rfl|rfl|rfl|rfl|rfl|rfl|rfl|rfl|rfl|rfl|rfl|rfl|rfl
        ·refine wpOpIn_step rfl fun K hK=>?_
         go_simp;exact hK _ _ ⟨_,_,rfl,rfl,rfl,HIB.out⟩
        ·refine wpOpIn_step rfl fun K hK=>?_
         go_simp;exact hK _ _ ⟨_,_,rfl,rfl,rfl,HIB.out⟩
        ·refine wpOpIn_step rfl fun K hK=>?_
         go_simp;exact hK _ _ ⟨_,_,rfl,rfl,rfl,HIB.out⟩
        ·have f27:=zc hz (hf 1 27 _ (by kernel_rfl) rfl) (by omega);have f28:=zc hz (hf 2 28 _ (by kernel_rfl) rfl) (by omega);refine wpOpIn_step rfl fun K hK=>?_
         go_simp;exact hK _ _ ⟨_,_,rfl,rfl,rfl,HIB.out⟩
        ·have f29:=zc hz (hf 3 29 _ (by kernel_rfl) rfl) (by omega);refine wpOpIn_step rfl fun K hK=>?_
         go_simp;exact hK _ _ ⟨_,_,rfl,rfl,rfl,HIB.out⟩
        ·refine wpOpIn_step rfl fun K hK=>?_
         go_simp;exact hK _ _ ⟨_,_,rfl,rfl,rfl,HIB.out⟩
        ·refine wpOpIn_step rfl fun K hK=>?_
         go_simp;exact hK _ _ ⟨_,_,rfl,rfl,rfl,HIB.out⟩
        ·have f26:=zc hz (hf 0 26 _ (by kernel_rfl) rfl) (by omega);have f30:=zc hz (hf 4 30 _ (by kernel_rfl) rfl) (by omega);have f31:=zc hz (hf 5 31 _ (by kernel_rfl) rfl) (by omega);have f32:=zc hz (hf 6 32 _ (by kernel_rfl) rfl) (by omega);refine wpOpIn_step rfl fun K hK=>?_
         go_simp;refine(ytb rs rl rw many A n c (l i) x sh PA pn pc p _ (hl.out i hli) hc hlt hpc hst (Lib.hid (hsh.out.below HBW.out)) (Lib.hid (hp.out.below HBW.out))).mono ?_;rintro e w' ⟨rfl,hb'⟩;exact hK _ _ ⟨_,_,rfl,rfl,rfl,HIB.out.trans (hb'.mono HSZ)⟩
        ·refine wpOpIn_step rfl fun K hK=>?_
         go_simp;exact hK _ _ ⟨_,_,rfl,rfl,rfl,HIB.out⟩
        ·refine wpOpIn_step rfl fun K hK=>?_
         go_simp;exact hK _ _ ⟨_,_,rfl,rfl,rfl,HIB.out⟩
        ·refine wpOpIn_step rfl fun K hK=>?_
         go_simp;exact hK _ _ ⟨_,_,rfl,rfl,rfl,HIB.out⟩
        ·have f35:=zc hz (hf 9 35 _ (by kernel_rfl) rfl) (by omega);have f36:=zc hz (hf 10 36 _ (by kernel_rfl) rfl) (by omega);refine wpOpIn_step rfl fun K hK=>?_
         go_simp;exact hK _ _ ⟨_,_,rfl,rfl,rfl,HIB.out⟩
        ·have f37:=zc hz (hf 11 37 _ (by kernel_rfl) rfl) (by omega);refine wpOpIn_step rfl fun K hK=>?_
         go_simp;exact hK _ _ ⟨_,_,rfl,rfl,rfl,HIB.out⟩
        ·refine wpOpIn_step rfl fun K hK=>?_
         go_simp;exact hK _ _ ⟨_,_,rfl,rfl,rfl,HIB.out⟩
        ·refine wpOpIn_step rfl fun K hK=>?_
         go_simp;exact hK _ _ ⟨_,_,rfl,rfl,rfl,HIB.out⟩
        ·have f34:=zc hz (hf 8 34 _ (by kernel_rfl) rfl) (by omega);have f38:=zc hz (hf 12 38 _ (by kernel_rfl) rfl) (by omega);have f39:=zc hz (hf 13 39 _ (by kernel_rfl) rfl) (by omega);have f40:=zc hz (hf 14 40 _ (by kernel_rfl) rfl) (by omega);refine wpOpIn_step rfl fun K hK=>?_
         go_simp;refine(ytb rs rl rw many A n c (l k) x sh PA pn pc p _ (hl.out k hlk) hc hlt hpc hst (Lib.hid (hsh.out.below HBW.out)) (Lib.hid (hp.out.below HBW.out))).mono ?_;rintro e w' ⟨rfl,hb'⟩;exact hK _ _ ⟨_,_,rfl,rfl,rfl,HIB.out.trans (hb'.mono HSZ)⟩
        ·have f33:=zc hz (hf 7 33 _ (by kernel_rfl) rfl) (by omega);have f41:=zc hz (hf 15 41 _ (by kernel_rfl) rfl) (by omega);refine wpOpIn_step rfl fun K hK=>?_
         go_simp;exact hK _ _ ⟨_,_,rfl,rfl,rfl,HIB.out⟩
        ·refine wpOpIn_step rfl fun K hK=>?_
         go_simp;exact hK _ _ ⟨_,_,rfl,rfl,rfl,HIB.out⟩
        ·have f43:=zc hz (hf 17 43 _ (by kernel_rfl) rfl) (by omega);refine wpOpIn_step rfl fun K hK=>?_
         go_simp;exact hK _ _ ⟨_,_,rfl,rfl,rfl,HIB.out⟩
        ·refine wpOpIn_step rfl fun K hK=>?_
         go_simp;exact hK _ _ ⟨_,_,rfl,rfl,rfl,HIB.out⟩
        ·have f44:=zc hz (hf 18 44 _ (by kernel_rfl) rfl) (by omega);have f45:=zc hz (hf 19 45 _ (by kernel_rfl) rfl) (by omega);refine wpOpIn_step rfl fun K hK=>?_
         go_simp;refine(Allowed_any rs rl rw many x hlt _).mono ?_;rintro e w' ⟨rfl,hb'⟩;exact hK _ _ ⟨_,_,rfl,rfl,rfl,HIB.out.trans (hb'.mono HSZ)⟩
        ·have f42:=zc hz (hf 16 42 _ (by kernel_rfl) rfl) (by omega);have f46:=zc hz (hf 20 46 _ (by kernel_rfl) rfl) (by omega);refine wpOpIn_step rfl fun K hK=>?_
         go_simp;exact hK _ _ ⟨_,_,rfl,rfl,rfl,HIB.out⟩
       ·intro w hI;have HI:=Lib.hid hI;clear hI;simp only[List.foldl_cons,List.foldl_nil,List.setIfInBounds_toArray,List.set_cons_succ,List.set_cons_zero];by_cases hgt:realZ sh pn p (l i) x-realZ sh pn p (l k) x>allowOf rs rl rw x
        ·simp only[hgt,decide_true];gi_wp2;go_ret;refine⟨false,rfl,⟨fun h=>(by cases h),fun h=>absurd (h x hlt i hli k hlk) (by omega)⟩,?_⟩;exact((Below.refl W.heap.size W).alloc (Nat.le_refl _) _).trans (HI.out.mono (by omega))
        ·simp only[hgt,decide_false];gi_wp2;go_roundw
         case rel=>exact⟨k+1,by omega,by go_num,(by first|exact HI.out|(rw[←hB];exact HI.out)),fun t ht=>by
          rcases Nat.lt_succ_iff_lt_or_eq.1 ht with ht|rfl
          ·exact HCOL.out t ht
          ·omega⟩
         case measure=>simp[intOf];omega
      ·gi_wp2;obtain rfl:k=m:=by omega
       go_roundw
       case rel=>exact⟨i+1,by omega,by go_num,HB.out,fun t ht=>by
        rcases Nat.lt_succ_iff_lt_or_eq.1 ht with ht|rfl
        ·exact HROW.out t ht
        ·exact HCOL.out⟩
       case measure=>simp[intOf];omega
    ·gi_wp2;obtain rfl:i=m:=by omega
     go_roundw
     case rel=>exact⟨x+1,by omega,by go_num,HB.out,fun y hy=>by
      rcases Nat.lt_succ_iff_lt_or_eq.1 hy with hy|rfl
      ·exact HALL.out y hy
      ·exact HROW.out⟩
     case measure=>simp[intOf];omega
  ·gi_wp2;obtain rfl:x=3:=by omega
   go_ret;exact⟨true,rfl,⟨fun _=>HALL.out,fun _=>rfl⟩,((Below.refl W.heap.size W).alloc (Nat.le_refl _) _).trans (HB.out.mono (by omega))⟩
end
section
open Go.RowKit
section
variable (sh:Nat→Shaft)(l:Nat→Nat)
end
end
section
open Go.RowKit
section
variable {F:Fence}{n:Nat}{P:Program}{ops:Array Oper}{Q:Exit→Act→World→Prop}
end
end
section
open Go.RowKit Go.Cx Go.Conc
end
section
open Go.RowKit Go.Cx Go.Conc
noncomputable def rgt':Code→Code
 |.seq _ b=>b
 |_=>.skip
end
section
open Go.RowKit
section
variable (rs rl rw many:Int)(n:Nat)(sh:Nat→Shaft)(k m x0 x1:Int)
end
section
variable {rs rl rw many:Int}{n:Nat}{sh:Nat→Shaft}{k m x0 x1:Int}
end
end
section
open Go.RowKit
section
variable (rs rl rw many:Int)(A:Option Addr)(n c:Nat)(k m x0 x1:Int)(F:Nat→Int)
end
end
section
open Go.RowKit
end
section
open Go.RowKit
end
section
open Go.RowKit
theorem yma{n m:Nat}:∀(d:Nat) (x:List Nat) (a:Nat) (z:List Nat),d≤n→(a::z).Pairwise (· < ·)→(∀ k,k∈a::z→k<n)→n-d≤a→(x++a::z).length=m→x++a::z∈loopE n m d x
 |0,x,a,z,hd,hp,hlt,ha,hm=>by have:=hlt a (List.mem_cons_self ..);omega
 |d+1,x,a,z,hd,hp,hlt,ha,hm=>by
  rw[loopE,List.mem_append];have han:=hlt a (List.mem_cons_self ..);rw[List.length_append,List.length_cons] at hm;by_cases e:a=n-(d+1)
  ·refine .inl ?_;rw[←e];cases z with
   |nil=>rw[if_pos (by simpa using hm)];exact List.mem_singleton.2 rfl
   |cons b z=>rw[if_neg (by simp at hm;omega)];have hab:a<b:=(List.pairwise_cons.1 hp).1 b (List.mem_cons_self ..);have h:=yma (n:=n) (m:=m) d (x++[a]) b z (by omega) (List.pairwise_cons.1 hp).2 (fun k hk=>hlt k (List.mem_cons_of_mem _ hk)) (by omega) (by simp at hm ⊢;omega);rw[List.append_assoc] at h;exact h
  ·exact .inr (yma d x a z (by omega) hp hlt (by omega) (by rw[List.length_append,List.length_cons];exact hm))
theorem extE_has{n m:Nat}{x:List Nat}(hp:x.Pairwise (· < ·))(hlt:∀ k,k∈x→k<n)(hm:x.length=m):x∈extE n m n []:=by
 unfold extE;cases x with
 |nil=>rw[if_pos (by simpa using hm)];exact List.mem_singleton.2 rfl
 |cons a z=>rw[if_neg (by simp at hm ⊢;omega)];exact yma n [] a z (Nat.le_refl _) hp hlt (by omega) hm
theorem yf{rs rl rw:Int}{sh:Nat→Shaft}{n m:Nat}{x:List Nat}:x∈setsX rs rl rw sh n m↔x.Pairwise (· < ·)∧(∀ k,k∈x→k<n)∧x.length=m∧zoc rs rl rw sh (fun k=>x.getD k 0) x.length=1:=by
 unfold setsX;rw[List.mem_filter];constructor
 ·rintro⟨h1,h2⟩;exact⟨yAb h1,ynb h1,ygb h1,by simpa using h2⟩
 ·rintro⟨h1,h2,h3,h4⟩;exact⟨extE_has h1 h2 h3,by simpa using h4⟩
end
section
open Go.RowKit
theorem inB_iff{n l h:Int}:inB n l h=true↔l≤n∧n≤h:=by simp[inB]
theorem yL{n:Int}(h0 : -1000000000≤n)(h1:n≤1000000000):IntKind.wrap .i64 n=n:=by simp[IntKind.wrap,IntKind.signed,IntKind.bits];omega
theorem yK(LA:Option Addr)(m lc:Nat)(l:Nat→Nat)(n:Nat)(W:World)(hm:m≤20)(hn:n≤20)(hc:m≤lc)(hi:Hid (zca W LA m fun k=>(l k:Int)))(hl:Hid (∀ i,i<m→l i<n))(ha:Hid (∀ i,i+1<m→l i<l (i+1))) :
  CallsIn Fc 0 Tryz.prog 43 #[.slice LA m lc,.int .i64 n] W (yya 0 W):=by
 gi_enter Tryz.func43,Tryz.ntmps43;gi_wp2
 gi_loopw [5] (fun x wr=>∃ j:Nat,j≤m∧x=.int .i64 j∧Below W.heap.size W wr) (fun x _=>m-(intOf x).toNat)
 case atStart=>exact⟨0,by omega,rfl,Below.refl _ _⟩
 case round=>
  obtain⟨j,hj,rfl,hbw⟩:=hrel;have HBW:=Lib.hid hbw;clear hbw;by_cases hlt:j<m
  ·obtain⟨b1,o1,rfl,q1⟩:=hi.out j hlt;have Q1:=Lib.hid (Below.old HBW.out q1);have q1:=Q1.out;have hlj:=hl.out j hlt;have hin:inB (l j:Int) 0 ((n:Int)-1)=true:=by rw[inB_iff];omega
   have HIN:=Lib.hid hin;clear hin hlj;by_cases h0:j=0
   ·have hz0:¬ 0<j:=by omega
    have HZ0:=Lib.hid hz0;clear hz0 h0
    gi_wp2_with (gi_at_call 62;refine(zYa _ _ _ _).mono ?_;rw[HIN.out];rintro e w' ⟨rfl,rfl⟩)
    refine zL (D:=[(20,.int .i64 (j:Int)),(21,.bool false),(22,.bool false),(23,undef),(24,undef),(25,undef),(26,undef),(27,undef),(28,undef),(29,undef),(30,undef),(31,undef),(32,undef),(33,.bool false)])
     (I:=fun w=>Below wr.heap.size wr w) (z:=34) (by kernel_rfl) (by kernel_rfl) (by kernel_rfl) (by kernel_rfl) (by kernel_rfl) rfl rfl (Below.refl _ _).drew ?_ ?_
    ·intro j a w hj hd hz hold hf hI;have HI:=Lib.hid hI;have g1:=HZ0.out;clear hI;have s0:=zc hz (hold 0 (by kernel_rfl)) (by omega);have s5:=zc hz (hold 5 (by kernel_rfl)) (by omega);clear hold;have hjs:j=0∨j=1∨j=2∨j=3∨j=4∨j=5∨j=6∨j=7∨j=8∨j=9∨j=10∨j=11∨j=12∨j=13:=by have:j<14:=hj;omega
     rcases hjs with rfl|rfl|rfl|rfl|rfl|rfl|rfl|rfl|rfl|rfl|rfl|rfl|rfl|rfl
     all_goals
      try have f20:=zc hz (hf 0 20 _ rfl rfl) (by omega)
      try have f21:=zc hz (hf 1 21 _ rfl rfl) (by omega)
      try have f22:=zc hz (hf 2 22 _ rfl rfl) (by omega)
      refine wpOpIn_step rfl fun K hK=>?_
      go_simp;exact hK _ _ ⟨_,_,rfl,rfl,rfl,HI.out⟩
    intro w5 hI;simp only[List.foldl_cons,List.foldl_nil,List.setIfInBounds_toArray,List.set_cons_succ,List.set_cons_zero];have HI:=Lib.hid hI;clear hI;gi_wp2;go_roundw
    case rel=>exact⟨j+1,by omega,by go_num,HBW.out.trans (HI.out.mono HBW.out.size)⟩
    case measure=>simp[intOf];omega
   ·obtain⟨jp,hjp⟩:∃ jp,j=jp+1:=⟨j-1,by omega⟩;obtain⟨b2,o2,e',q2⟩:=hi.out jp (by omega);cases e';have Q2:=Lib.hid (Below.old HBW.out q2);have hlt2:l jp<l j:=by rw[hjp];exact ha.out jp (by omega)
    have HAS:=Lib.hid (show¬(l j≤l jp) by omega);have HJ:=Lib.hid (And.intro (show(j:Int)-1=(jp:Int) by omega) (And.intro (show jp<m by omega) (And.intro (show(jp:Int)<(m:Int) by omega) (And.intro (show IntKind.wrap .i64 (jp:Int)=(jp:Int) from yL (by omega) (by omega)) (show 0<j by omega)))));clear q2 hlt2 hjp
    gi_wp2_with (gi_at_call 62;refine(zYa _ _ _ _).mono ?_;rw[HIN.out];rintro e w' ⟨rfl,rfl⟩)
    refine zL (D:=[(20,.int .i64 (j:Int)),(21,.bool true),(22,.bool true),(23,.slice (some ⟨b1,o1,none⟩) m lc),(24,.int .i64 (j:Int)),(25,.pointer (some ⟨b1,o1+j,none⟩)),(26,.int .i64 (l j:Nat)),(27,.slice (some ⟨b1,o1,none⟩) m lc),(28,.int .i64 (j:Int)),(29,.int .i64 (jp:Int)),(30,.pointer (some ⟨b1,o1+jp,none⟩)),(31,.int .i64 (l jp:Nat)),(32,.bool false),(33,.bool false)])
     (I:=fun w=>Below wr.heap.size wr w) (z:=34) (by kernel_rfl) (by kernel_rfl) (by kernel_rfl) (by kernel_rfl) (by kernel_rfl) rfl rfl (Below.refl _ _).drew ?_ ?_
    ·intro j a w hj hd hz hold hf hI;have HI:=Lib.hid hI;have q1:=Below.old hI Q1.out;have q2:=Below.old hI Q2.out;obtain⟨g1,g2,g3,g4,g5⟩:=HJ.out;have g6:=HAS.out;clear hI;have s0:=zc hz (hold 0 (by kernel_rfl)) (by omega);have s5:=zc hz (hold 5 (by kernel_rfl)) (by omega);clear hold;have hjs:j=0∨j=1∨j=2∨j=3∨j=4∨j=5∨j=6∨j=7∨j=8∨j=9∨j=10∨j=11∨j=12∨j=13:=by have:j<14:=hj;omega
     rcases hjs with rfl|rfl|rfl|rfl|rfl|rfl|rfl|rfl|rfl|rfl|rfl|rfl|rfl|rfl
     all_goals
      try have f20:=zc hz (hf 0 20 _ rfl rfl) (by omega)
      try have f21:=zc hz (hf 1 21 _ rfl rfl) (by omega)
      try have f22:=zc hz (hf 2 22 _ rfl rfl) (by omega)
      try have f23:=zc hz (hf 3 23 _ rfl rfl) (by omega)
      try have f24:=zc hz (hf 4 24 _ rfl rfl) (by omega)
      try have f25:=zc hz (hf 5 25 _ rfl rfl) (by omega)
      try have f28:=zc hz (hf 8 28 _ rfl rfl) (by omega)
      try have f27:=zc hz (hf 7 27 _ rfl rfl) (by omega)
      try have f29:=zc hz (hf 9 29 _ rfl rfl) (by omega)
      try have f30:=zc hz (hf 10 30 _ rfl rfl) (by omega)
      try have f26:=zc hz (hf 6 26 _ rfl rfl) (by omega)
      try have f31:=zc hz (hf 11 31 _ rfl rfl) (by omega)
      try have f32:=zc hz (hf 12 32 _ rfl rfl) (by omega)
      refine wpOpIn_step rfl fun K hK=>?_
      go_simp;exact hK _ _ ⟨_,_,rfl,rfl,rfl,HI.out⟩
    intro w5 hI;simp only[List.foldl_cons,List.foldl_nil,List.setIfInBounds_toArray,List.set_cons_succ,List.set_cons_zero];have HI:=Lib.hid hI;clear hI;gi_wp2;go_roundw
    case rel=>exact⟨j+1,by omega,by go_num,HBW.out.trans (HI.out.mono HBW.out.size)⟩
    case measure=>simp[intOf];omega
  ·obtain rfl:j=m:=by omega
   gi_wp2;go_ret;exact⟨rfl,HBW.out⟩
end
section
open Go.RowKit
theorem yyb{N:Nat}{f:List (List Nat)→List Nat→List (List Nat)}:∀(X B:List (List Nat)),(∀ B x,B.length≤N→(f B x).length≤N)→B.length≤N→(X.foldl f B).length≤N
 | [],_,_,h=>h
 |x::X,B,hf,h=>yyb X (f B x) hf (hf B x h)
theorem yQa{n N:Nat}{O:Nat→List (List Nat)}:∀(d:Nat) (T:Nat→Bool) (S B:List (List Nat)),S.length+d≤N→B.length≤N→(tryE n O d T S B).length≤N
 |0,T,S,B,hS,hB=>by
  simp only[tryE];split
  ·omega
  ·exact hB
 |d+1,T,S,B,hS,hB=>by
  simp only[tryE];refine yQa d _ S _ (by omega) ?_;split
  ·exact hB
  ·refine yyb _ _ (fun B x hB=>?_) hB;split
   ·exact yQa d _ _ B (by rw[List.length_append,List.length_singleton];omega) hB
   ·exact hB
theorem share_few(rs rl rw:Int)(sh:Nat→Shaft)(n m:Nat)(T:Nat→Bool):(zgc rs rl rw sh n m T).length≤n:=
 yQa n T [] [] (by simp) (by simp)
end
section
open Go.RowKit
def geL(E C:List (List Nat)):Prop:=C.length<E.length∨(C.length=E.length∧cmpLL E C≤0)
theorem cmpL_refl:∀ x:List Nat,cmpL x x=0
 | []=>rfl
 |a::x=>by simp[cmpL,cmpL_refl x]
theorem ysa:∀ x y:List Nat,cmpL x y=0→x=y
 | [],[],_=>rfl
 | [],_::_,h=>by simp[cmpL] at h
 |_::_,[],h=>by simp[cmpL] at h
 |a::x,b::y,h=>by
  simp only[cmpL] at h;split at h
  ·omega
  ·split at h
   ·omega
   ·obtain rfl:a=b:=by omega
    rw[ysa x y h]
theorem yta:∀ x y:List Nat,cmpL y x = - cmpL x y
 | [],[]=>rfl
 | [],_::_=>rfl
 |_::_,[]=>rfl
 |a::x,b::y=>by
  simp only[cmpL];by_cases h1:a<b
  ·rw[if_neg (by omega:¬ b<a),if_pos h1,if_pos h1];rfl
  ·by_cases h2:b<a
   ·rw[if_pos h2,if_neg h1,if_pos h2]
   ·rw[if_neg h2,if_neg h1,if_neg h1,if_neg h2,yta x y]
theorem yKa:∀ x y z:List Nat,cmpL x y≤0→cmpL y z≤0→cmpL x z≤0
 | [],_,[],_,_=>by simp[cmpL]
 | [],_,_::_,_,_=>by simp[cmpL]
 |_::_,[],_,h,_=>by simp[cmpL] at h
 |_::_,_::_,[],_,h=>by simp[cmpL] at h
 |a::x,b::y,c::z,h1,h2=>by
  simp only[cmpL] at h1 h2 ⊢;by_cases e1:a<b
  ·by_cases e2:c<b
   ·rw[if_neg (by omega),if_pos e2] at h2;omega
   ·rw[if_pos (by omega)];omega
  ·rw[if_neg e1] at h1;by_cases e3:b<a
   ·rw[if_pos e3] at h1;omega
   ·rw[if_neg e3] at h1;obtain rfl:a=b:=by omega
    by_cases e4:a<c
    ·rw[if_pos e4];omega
    ·rw[if_neg e4] at h2 ⊢;by_cases e5:c<a
     ·rw[if_pos e5] at h2;omega
     ·rw[if_neg e5] at h2 ⊢;exact yKa x y z h1 h2
theorem cmpL_less{x y z:List Nat}(h1:cmpL x y<0)(h2:cmpL y z≤0):cmpL x z<0:=by
 have h3:=yKa x y z (by omega) h2;by_cases e:cmpL x z=0
 ·rcases ysa _ _ e with rfl;rw[yta x y] at h2;omega
 ·omega
theorem cmpLL_refl:∀ x:List (List Nat),cmpLL x x=0
 | []=>rfl
 |a::x=>by simp[cmpLL,cmpL_refl,cmpLL_refl x]
theorem yMa:∀ x y:List (List Nat),cmpLL y x = - cmpLL x y
 | [],[]=>rfl
 | [],_::_=>rfl
 |_::_,[]=>rfl
 |a::x,b::y=>by
  simp only[cmpLL];rw[yta a b];by_cases h1:cmpL a b=0
  ·rw[if_neg (by omega),if_neg (by omega),yMa x y]
  ·rw[if_pos (by omega),if_pos (by omega)]
theorem yua:∀ x y z:List (List Nat),cmpLL x y≤0→cmpLL y z≤0→cmpLL x z≤0
 | [],_,[],_,_=>by simp[cmpLL]
 | [],_,_::_,_,_=>by simp[cmpLL]
 |_::_,[],_,h,_=>by simp[cmpLL] at h
 |_::_,_::_,[],_,h=>by simp[cmpLL] at h
 |a::x,b::y,c::z,h1,h2=>by
  simp only[cmpLL] at h1 h2 ⊢;by_cases e1:cmpL a b=0
  ·rw[if_neg (by omega)] at h1;rcases ysa _ _ e1 with rfl;by_cases e2:cmpL a c=0
   ·rw[if_neg (by omega)] at h2 ⊢;exact yua x y z h1 h2
   ·rw[if_pos e2] at h2 ⊢;exact h2
  ·rw[if_pos e1] at h1;have h3:cmpL b c≤0:=by
    by_cases e2:cmpL b c=0
    ·omega
    ·rw[if_pos e2] at h2;exact h2
   have:=cmpL_less (by omega:cmpL a b<0) h3;rw[if_pos (by omega)];omega
theorem yE(E:List (List Nat)):geL E E:=.inr ⟨rfl,by rw[cmpLL_refl];omega⟩
theorem yD{E C D:List (List Nat)}(h1:geL E C)(h2:geL C D):geL E D:=by
 rcases h1 with h1|⟨h1,h1'⟩
 ·rcases h2 with h2|⟨h2,h2'⟩
  ·exact .inl (by omega)
  ·exact .inl (by omega)
 ·rcases h2 with h2|⟨h2,h2'⟩
  ·exact .inl (by omega)
  ·exact .inr ⟨by omega,yua _ _ _ h1' h2'⟩
theorem geL_not{S B:List (List Nat)}(h:ztb S B=false):geL B S:=by
 unfold ztb at h;split at h
 ·next e=>have:=of_decide_eq_false h;refine .inr ⟨e,?_⟩;rw[yMa S B];omega
 ·have:=of_decide_eq_false h;exact .inl (by omega)
theorem geL_yes{S B:List (List Nat)}(h:ztb S B=true):geL S B:=by
 unfold ztb at h;split at h
 ·next e=>have:=of_decide_eq_true h;exact .inr ⟨e.symm,by omega⟩
 ·have:=of_decide_eq_true h;exact .inl (by omega)
theorem yJb(S B:List (List Nat)):geL (if ztb S B then S else B) S∧geL (if ztb S B then S else B) B:=by
 cases h:ztb S B with
 |true=>exact⟨yE _,geL_yes h⟩
 |false=>exact⟨geL_not h,yE _⟩
def Split(R:List (List Nat)):Prop:=R.Pairwise fun x y=>x.headD 0<y.headD 0∧∀ a,a∈x→a∉y
def FreeR(M:List (List Nat))(T:Nat→Bool)(R:List (List Nat)):Prop:=∀ x,x∈R→x∈M∧∀ a,a∈x→T a=false
structure yGb(n:Nat)(M:List (List Nat))(O:Nat→List (List Nat)):Prop where
 asc:∀ x,x∈M→x.Pairwise (· < ·)
 some:∀ x,x∈M→x≠[]
 less:∀ x,x∈M→∀ a,a∈x→a<n
 of:∀ s x,x∈O s↔x∈M∧s∈x
theorem updT_true{T:Nat→Bool}{s a:Nat}:updT T s a=true↔a=s∨T a=true:=by
 unfold updT;by_cases h:a=s
 ·simp[h]
 ·simp[h]
theorem withT_true:∀(x:List Nat) (T:Nat→Bool) (a:Nat),withT T x a=true↔T a=true∨a∈x
 | [],T,a=>by simp[withT]
 |s::r,T,a=>by
  simp only[withT];rw[withT_true r,updT_true,List.mem_cons];constructor
  ·rintro((h|h)|h)
   ·exact .inr (.inl h)
   ·exact .inl h
   ·exact .inr (.inr h)
  ·rintro(h|h|h)
   ·exact .inl (.inr h)
   ·exact .inl (.inl h)
   ·exact .inr h
theorem yS:∀(x:List Nat) (T:Nat→Bool),x.Pairwise (· < ·)→(freeT T x=true↔∀ a,a∈x→T a=false)
 | [],T,_=>by simp[freeT]
 |s::r,T,hp=>by
  simp only[freeT];have hp':=List.pairwise_cons.1 hp;cases h:T s with
  |true=>
   simp only[if_true];constructor
   ·intro e;cases e
   ·intro e;rw[e s (by simp)] at h;cases h
  |false=>
   simp only[Bool.false_eq_true,if_false];rw[yS r _ hp'.2];constructor
   ·intro e a ha;rcases List.mem_cons.1 ha with rfl|ha
    ·exact h
    ·have:=e a ha;cases h2:T a with
     |false=>rfl
     |true=>rw[updT_true.2 (.inr h2)] at this;cases this
   ·intro e a ha;cases h2:updT T s a with
    |false=>rfl
    |true=>
     rcases updT_true.1 h2 with rfl|h3
     ·have:=hp'.1 a ha;omega
     ·rw[e a (by simp[ha])] at h3;cases h3
theorem yIa{x:List Nat}(hp:x.Pairwise (· < ·)){a:Nat}(ha:a∈x):x.headD 0≤a∧x.headD 0∈x:=by
 cases x with
 |nil=>cases ha
 |cons b x=>
  simp only[List.headD_cons];refine⟨?_,by simp⟩;rcases List.mem_cons.1 ha with rfl|h
  ·omega
  ·have:=(List.pairwise_cons.1 hp).1 a h;omega
section
variable {n:Nat}{M:List (List Nat)}{O:Nat→List (List Nat)}{T:Nat→Bool}
theorem FreeR.none(h:yGb n M O)(hT:∀ a,a<n→T a=true){R:List (List Nat)}(hR:FreeR M T R):R=[]:=by
 cases R with
 |nil=>rfl
 |cons x R=>
  obtain⟨h1,h2⟩:=hR x (by simp);cases x with
  |nil=>exact absurd rfl (h.some _ h1)
  |cons a x=>have h3:=h2 a (by simp);rw[hT a (h.less _ h1 a (by simp))] at h3;cases h3
theorem fold_best{d:Nat}(S:List (List Nat)){X:List (List Nat)}(hX:∀ x,x∈X→freeT T x=true→∀ B,geL (tryE n O d (withT T x) (S++[x]) B) B∧∀ R,FreeR M (withT T x) R→Split R→geL (tryE n O d (withT T x) (S++[x]) B) ((S++[x])++R)) :
  ∀ B,geL (X.foldl (fun B x=>if freeT T x then tryE n O d (withT T x) (S++[x]) B else B) B) B∧∀ x,x∈X→freeT T x=true→∀ R,FreeR M (withT T x) R→Split R→geL (X.foldl (fun B x=>if freeT T x then tryE n O d (withT T x) (S++[x]) B else B) B) ((S++[x])++R):=by
 induction X with
 |nil=>intro B;exact⟨yE _,fun x hx=>by cases hx⟩
 |cons y X ih=>
  intro B;simp only[List.foldl_cons];obtain⟨i1,i2⟩:=ih (fun x hx=>hX x (by simp[hx])) (if freeT T y then tryE n O d (withT T y) (S++[y]) B else B);have hy:geL (if freeT T y then tryE n O d (withT T y) (S++[y]) B else B) B:=by
   split
   ·next e=>exact(hX y (by simp) e B).1
   ·exact yE _
  refine⟨yD i1 hy,fun x hx hf R hR hS=>?_⟩;rcases List.mem_cons.1 hx with rfl|hx
  ·refine yD i1 ?_;rw[if_pos hf];exact(hX x (by simp) hf B).2 R hR hS
  ·exact i2 x hx hf R hR hS
theorem yga(h:yGb n M O):∀(d:Nat),d≤n→∀(T:Nat→Bool) (S B:List (List Nat)),(∀ a,a<n-d→T a=true) →
  geL (tryE n O d T S B) B∧∀ R,FreeR M T R→Split R→geL (tryE n O d T S B) (S++R)
 |0,_,T,S,B,hT=>by simp only[tryE];refine⟨(yJb S B).2,fun R hR _=>?_⟩;rw[hR.none h (fun a ha=>hT a (by omega)),List.append_nil];exact(yJb S B).1
 |d+1,hd,T,S,B,hT=>by
  simp only[tryE];obtain⟨s,hs⟩:∃ s,n-(d+1)=s:=⟨_,rfl⟩;rw[hs] at hT ⊢;have hX:∀ x,x∈O s→freeT T x=true→∀ B,geL (tryE n O d (withT T x) (S++[x]) B) B∧∀ R,FreeR M (withT T x) R→Split R→geL (tryE n O d (withT T x) (S++[x]) B) ((S++[x])++R):=fun x hx _ B=>
   yga h d (by omega) (withT T x) (S++[x]) B fun a ha=>by
    rw[withT_true];by_cases e:a=s
    ·subst e;exact .inr ((h.of a x).1 hx).2
    ·exact .inl (hT a (by omega))
  obtain⟨f1,f2⟩:=fold_best S hX B;have hu:∀ a,a<n-d→updT T s a=true:=fun a ha=>by
   rw[updT_true];by_cases e:a=s
   ·exact .inl e
   ·exact .inr (hT a (by omega))
  obtain⟨g1,g2⟩:=yga h d (by omega) (updT T s) S (if T s then B else(O s).foldl (fun B x=>if freeT T x then tryE n O d (withT T x) (S++[x]) B else B) B) hu;have hB:geL (if T s then B else(O s).foldl (fun B x=>if freeT T x then tryE n O d (withT T x) (S++[x]) B else B) B) B:=by
   split
   ·exact yE _
   ·exact f1
  refine⟨yD g1 hB,fun R hR hS=>?_⟩;by_cases hin:∃ x,x∈R∧s∈x
  ·cases R with
   |nil=>obtain⟨x,hx,_⟩:=hin;cases hx
   |cons y R=>
    have hS':=List.pairwise_cons.1 hS;obtain⟨y1,y2⟩:=hR y (by simp);have hyh:s≤y.headD 0:=by
     cases y with
     |nil=>exact absurd rfl (h.some _ y1)
     |cons b y=>
      simp only[List.headD_cons];by_cases e:b<s
      ·have:=y2 b (by simp);rw[hT b e] at this;cases this
      ·omega
    have hsy:s∈y:=by
     obtain⟨x,hx,hsx⟩:=hin;rcases List.mem_cons.1 hx with rfl|hx
     ·exact hsx
     ·have h1:=(hS'.1 x hx).1;have h2:=(yIa (h.asc x (hR x (by simp[hx])).1) hsx).1;omega
    have hfr:freeT T y=true:=(yS y T (h.asc y y1)).2 y2;have hTs:T s=false:=y2 s hsy;refine yD g1 ?_;rw[hTs,if_neg (by decide)];have:=f2 y ((h.of s y).2 ⟨y1,hsy⟩) hfr R (fun x hx=>⟨(hR x (by simp[hx])).1,fun a ha=>by
     cases hw:withT T y a with
     |false=>rfl
     |true=>
      rcases(withT_true y T a).1 hw with h1|h1
      ·rw[(hR x (by simp[hx])).2 a ha] at h1;cases h1
      ·exact absurd ha ((hS'.1 x hx).2 a h1)⟩) hS'.2
    simpa using this
  ·refine g2 R (fun x hx=>⟨(hR x hx).1,fun a ha=>?_⟩) hS;cases hw:updT T s a with
   |false=>rfl
   |true=>
    rcases updT_true.1 hw with rfl|h1
    ·exact absurd ⟨x,hx,ha⟩ hin
    ·rw[(hR x hx).2 a ha] at h1;cases h1
theorem yfb{p:List (List Nat)→Prop}{f:List (List Nat)→List Nat→List (List Nat)}:∀(X B:List (List Nat)),(∀ B x,x∈X→p B→p (f B x))→p B→p (X.foldl f B)
 | [],_,_,h=>h
 |x::X,B,hf,h=>yfb X (f B x) (fun B y hy=>hf B y (by simp[hy])) (hf B x (by simp) h)
theorem yfa(h:yGb n M O)(T0:Nat→Bool):∀(d:Nat),d≤n→∀(T:Nat→Bool) (S B:List (List Nat)),(∀ a,a<n-d→T a=true)→(∀ a,T0 a=true→T a=true)→(∀ x,x∈S→x.headD 0<n-d∧∀ a,a∈x→T a=true) →
  FreeR M T0 S∧Split S→FreeR M T0 B∧Split B→FreeR M T0 (tryE n O d T S B)∧Split (tryE n O d T S B)
 |0,_,T,S,B,_,_,_,hS,hB=>by
  simp only[tryE];split
  ·exact hS
  ·exact hB
 |d+1,hd,T,S,B,hT,h0,hST,hS,hB=>by
  simp only[tryE];obtain⟨s,hs⟩:∃ s,n-(d+1)=s:=⟨_,rfl⟩;rw[hs] at hT hST ⊢;refine yfa h T0 d (by omega) (updT T s) S _ (fun a ha=>?_) (fun a ha=>updT_true.2 (.inr (h0 a ha))) (fun x hx=>⟨by have:=(hST x hx).1;omega,fun a ha=>updT_true.2 (.inr ((hST x hx).2 a ha))⟩) hS ?_
  ·rw[updT_true];by_cases e:a=s
   ·exact .inl e
   ·exact .inr (hT a (by omega))
  ·split
   ·exact hB
   ·refine yfb (p:=fun B=>FreeR M T0 B∧Split B) (O s) B (fun B x hx hB=>?_) hB;split
    ·next hf=>
     obtain⟨x1,x2⟩:=(h.of s x).1 hx;have hfr:=(yS x T (h.asc x x1)).1 hf;have hxs:x.headD 0=s:=by
      have:=yIa (h.asc x x1) x2;by_cases e:x.headD 0<s
      ·have h3:=hfr _ this.2;rw[hT _ e] at h3;cases h3
      ·omega
     refine yfa h T0 d (by omega) (withT T x) (S++[x]) B (fun a ha=>?_) (fun a ha=>(withT_true x T a).2 (.inl (h0 a ha))) (fun y hy=>?_) ⟨fun y hy=>?_,?_⟩ hB
     ·rw[withT_true];by_cases e:a=s
      ·subst e;exact .inr x2
      ·exact .inl (hT a (by omega))
     ·rcases List.mem_append.1 hy with hy|hy
      ·exact⟨by have:=(hST y hy).1;omega,fun a ha=>(withT_true x T a).2 (.inl ((hST y hy).2 a ha))⟩
      ·rcases List.mem_singleton.1 hy with rfl;exact⟨by omega,fun a ha=>(withT_true y T a).2 (.inr ha)⟩
     ·rcases List.mem_append.1 hy with hy|hy
      ·exact hS.1 y hy
      ·rcases List.mem_singleton.1 hy with rfl;refine⟨x1,fun a ha=>?_⟩;cases e:T0 a with
       |false=>rfl
       |true=>have:=hfr a ha;rw[h0 a e] at this;cases this
     ·unfold Split;rw[List.pairwise_append];refine⟨hS.2,List.pairwise_singleton _ _,fun y hy z hz=>?_⟩;rcases List.mem_singleton.1 hz with rfl;refine⟨by rw[hxs];exact(hST y hy).1,fun a ha hz=>?_⟩;have:=(hST y hy).2 a ha;rw[hfr a hz] at this;cases this
    ·exact hB
end
theorem yQb{M:List (List Nat)}{s k:Nat}:(s,k)∈evs M M.length 0↔k<M.length∧s∈M.getD k []:=by
 unfold evs;simp only[List.take_zero,List.map_nil,List.append_nil,List.mem_flatMap,List.mem_range,List.mem_map,Prod.mk.injEq];constructor
 ·rintro⟨j,hj,t,ht,rfl,rfl⟩;exact⟨hj,ht⟩
 ·rintro⟨hk,hs⟩;exact⟨k,hk,s,hs,rfl,rfl⟩
theorem ofE_iff{M:List (List Nat)}{s:Nat}{x:List Nat}:x∈ofE M (evs M M.length 0) s↔x∈M∧s∈x:=by
 unfold ofE;simp only[List.mem_map,List.mem_filter,beq_iff_eq];constructor
 ·rintro⟨⟨t,k⟩,⟨h1,h2⟩,rfl⟩;obtain⟨h3,h4⟩:=yQb.1 h1;have h2:t=s:=h2;subst h2;refine⟨?_,h4⟩;rw[List.getD_eq_getElem?_getD,List.getElem?_eq_getElem h3];exact List.getElem_mem h3
 ·rintro⟨h1,h2⟩;obtain⟨k,hk,rfl⟩:=List.getElem_of_mem h1;have e:M.getD k []=M[k]:=by rw[List.getD_eq_getElem?_getD,List.getElem?_eq_getElem hk];rfl
  exact⟨(s,k),⟨yQb.2 ⟨hk,by rw[e];exact h2⟩,rfl⟩,e⟩
end
section
open Go.RowKit
section
variable {rs rl rw rs' rl' rw':Int}{sh sh':Nat→Shaft}{n n' m:Nat}{T T':Nat→Bool}
theorem ysb(rs rl rw:Int)(sh:Nat→Shaft)(n:Nat)(hm:0<m):yGb n (setsX rs rl rw sh n m) fun s=>ofE (setsX rs rl rw sh n m) (evs (setsX rs rl rw sh n m) (setsX rs rl rw sh n m).length 0) s where
 asc:=fun x hx=>(yf.1 hx).1
 some:=fun x hx e=>by have:=(yf.1 hx).2.2.1;rw[e] at this;simp at this;omega
 less:=fun x hx=>(yf.1 hx).2.1
 of:=fun s x=>ofE_iff
theorem shareX_good(hm:0<m)(T:Nat→Bool):FreeR (setsX rs rl rw sh n m) T (zgc rs rl rw sh n m T)∧Split (zgc rs rl rw sh n m T):=
 yfa (ysb rs rl rw sh n hm) T n (Nat.le_refl _) T [] [] (fun a ha=>by omega) (fun a h=>h) (fun x hx=>by cases hx) ⟨fun x hx=>(by cases hx),List.Pairwise.nil⟩ ⟨fun x hx=>(by cases hx),List.Pairwise.nil⟩
theorem shareX_best(hm:0<m){R:List (List Nat)}(hR:FreeR (setsX rs rl rw sh n m) T R)(hS:Split R):geL (zgc rs rl rw sh n m T) R:=by have:=(yga (ysb rs rl rw sh n hm) n (Nat.le_refl _) T [] [] (fun a ha=>by omega)).2 R hR hS;rw[List.nil_append] at this;exact this
theorem geL_len{E C:List (List Nat)}(h:geL E C):C.length≤E.length:=by
 rcases h with h|h
 ·omega
 ·exact Nat.le_of_eq h.1
end
end
section
open Go.RowKit
section
variable {n m:Nat}{R:List (List Nat)}
theorem ya{α:Type}{l:List α}{i:Nat}{d:α}(h:i<l.length):l.getD i d∈l:=by rw[List.getD_eq_getElem?_getD,List.getElem?_eq_getElem h];exact List.getElem_mem h
theorem yl{α:Type}{l:List α}{i:Nat}{d:α}(h:i<l.length):l.getD i d=l[i]:=by rw[List.getD_eq_getElem?_getD,List.getElem?_eq_getElem h];rfl
theorem ySa(h:Split R){i j:Nat}(hij:i<j)(hj:j<R.length):(R.getD i []).headD 0<(R.getD j []).headD 0∧∀ a,a∈R.getD i []→a∉R.getD j []:=by rw[yl hj,yl (show i<R.length by omega)];exact List.pairwise_iff_getElem.1 h i j (by omega) hj hij
theorem split_taken(h:Split R){i:Nat}(hi:i<R.length){a:Nat}(ha:a∈R.getD i []):a∉(R.take i).flatten:=fun hm=>by obtain⟨x,hx,hax⟩:=List.mem_flatten.1 hm;obtain⟨j,hj,rfl⟩:=List.mem_take_iff_getElem.1 hx;have h1:=(ySa h (show j<i by omega) hi).2 a;rw[yl (show j<R.length by omega)] at h1;exact h1 hax ha
theorem flat_nodup(h:Split R)(ha:∀ x,x∈R→x.Pairwise (· < ·)):R.flatten.Nodup:=by unfold List.Nodup;rw[List.pairwise_flatten];refine⟨fun x hx=>(ha x hx).imp fun{a b} h=>Nat.ne_of_lt h,h.imp fun{x y} h a hax b hby e=>?_⟩;subst e;exact h.2 a hax hby
theorem ypa:∀{R:List (List Nat)},(∀ x,x∈R→x.length=m)→R.flatten.length=R.length*m
 | [],_=>by simp
 |x::R,h=>by rw[List.flatten_cons,List.length_append,h x (by simp),ypa fun y hy=>h y (by simp[hy]),List.length_cons,Nat.succ_mul];omega
theorem left_len(h:Split R)(ha:∀ x,x∈R→x.Pairwise (· < ·))(hn:∀ x,x∈R→∀ a,a∈x→a<n)(hm:∀ x,x∈R→x.length=m):(leftL n R).length+R.length*m=n:=by
 rw[←ypa hm];have hp:((List.range n).filter fun s=>decide (s∈R.flatten)).Perm R.flatten:=by
  refine(List.perm_ext_iff_of_nodup (List.Nodup.sublist List.filter_sublist List.nodup_range) (flat_nodup h ha)).2 fun a=>?_
  rw[List.mem_filter,List.mem_range];simp only[decide_eq_true_eq];refine⟨fun h=>h.2,fun h=>⟨?_,h⟩⟩;obtain⟨x,hx,hax⟩:=List.mem_flatten.1 h;exact hn x hx a hax
 have h2:=List.length_eq_countP_add_countP (l:=List.range n) (p:=fun s=>decide (s∈R.flatten));rw[List.length_range,List.countP_eq_length_filter,List.countP_eq_length_filter,hp.length_eq] at h2;unfold leftL;have e:(List.range n).filter (fun s=>decide (s∉R.flatten))=(List.range n).filter fun a=>decide ¬decide (a∈R.flatten)=true:=List.filter_congr fun a _=>by simp
 rw[e];omega
theorem left_asc:(leftL n R).Pairwise (· < ·):=List.Pairwise.filter _ List.pairwise_lt_range
theorem left_lt{a:Nat}(h:a∈leftL n R):a<n∧∀ i,i<R.length→a∉R.getD i []:=by unfold leftL at h;rw[List.mem_filter,List.mem_range] at h;exact⟨h.1,fun i hi ha=>(of_decide_eq_true h.2) (List.mem_flatten.2 ⟨_,ya hi,ha⟩)⟩
theorem yLa:∀{x y:List Nat} {k:Nat},cmpL x y≤0→k<x.length→k<y.length→(∀ j,j<k→x.getD j 0=y.getD j 0)→x.getD k 0≠y.getD k 0→x.getD k 0<y.getD k 0
 |a::x,b::y,0,h,_,_,_,hne=>by
  simp only[cmpL] at h;simp only[List.getD_cons_zero] at hne ⊢;by_cases h1:a<b
  ·exact h1
  ·rw[if_neg h1,if_pos (by omega)] at h;omega
 |a::x,b::y,k+1,h,hx,hy,hj,hne=>by
  have e:a=b:=by simpa using hj 0 (by omega)
  subst e;simp only[cmpL,Nat.lt_irrefl,if_false] at h;simp only[List.getD_cons_succ] at hne ⊢;exact yLa h (by simpa using hx) (by simpa using hy) (fun j hjk=>by simpa using hj (j+1) (by omega)) hne
theorem yva:∀{E C:List (List Nat)} {i:Nat},cmpLL E C≤0→i<E.length→i<C.length→(∀ j,j<i→E.getD j []=C.getD j [])→cmpL (E.getD i []) (C.getD i [])≤0
 |x::E,y::C,0,h,_,_,_=>by
  simp only[cmpLL] at h;simp only[List.getD_cons_zero];by_cases h1:cmpL x y=0
  ·omega
  ·rw[if_pos (by omega)] at h;exact h
 |x::E,y::C,i+1,h,hx,hy,hj=>by
  have e:x=y:=by simpa using hj 0 (by omega)
  subst e;simp only[cmpLL,cmpL_refl,ne_eq,not_true_eq_false,if_false] at h;simp only[List.getD_cons_succ];exact yva h (by simpa using hx) (by simpa using hy) (fun j hjk=>by simpa using hj (j+1) (by omega))
theorem geL_first{E C:List (List Nat)}{i k:Nat}(h:geL E C)(hl:C.length=E.length)(hi:i<E.length)(hj:∀ j,j<i→E.getD j []=C.getD j [])(hk:k<(E.getD i []).length)(hk':k<(C.getD i []).length)(hq:∀ j,j<k→(E.getD i []).getD j 0=(C.getD i []).getD j 0)(hne:(E.getD i []).getD k 0≠(C.getD i []).getD k 0):(E.getD i []).getD k 0<(C.getD i []).getD k 0:=by
 rcases h with h|h
 ·omega
 ·exact yLa (yva h.2 hi (by omega) hj) hk hk' hq hne
theorem Split.more{x:List Nat}(h:Split R)(h1:R≠[]→(R.getD (R.length-1) []).headD 0<x.headD 0)(h2:∀ y,y∈R→∀ a,a∈y→a∉x):Split (R++[x]):=by
 unfold Split;rw[List.pairwise_append];refine⟨h,List.pairwise_singleton _ _,fun y hy z hz=>?_⟩;rcases List.mem_singleton.1 hz with rfl;refine⟨?_,h2 y hy⟩;have hne:R≠[]:=fun e=>by subst e;cases hy
 obtain⟨i,hi,rfl⟩:=List.mem_iff_getElem.1 hy;have h3:=h1 hne;by_cases e:i=R.length-1
 ·subst e;rwa [yl (by omega)] at h3
 ·have:=(ySa h (show i<R.length-1 by omega) (by omega)).1;rw[yl hi] at this;omega
end
def noB(x t:Nat):Nat:=(BitVec.ofNat 16 x &&& ~~~BitVec.ofNat 16 t).toNat
def orB(x t:Nat):Nat:=(BitVec.ofNat 16 x ||| BitVec.ofNat 16 t).toNat
theorem noB_lt(x t:Nat):noB x t<65536:=BitVec.isLt _
theorem orB_lt(x t:Nat):orB x t<65536:=BitVec.isLt _
theorem wrapU{x:Nat}(h:x<65536):IntKind.wrap .u16 (x:Int)=x:=by simp[IntKind.wrap,IntKind.signed,IntKind.bits];omega
theorem bits_no(x t:Nat):bits .andNot .u16 (x:Int) (t:Int)=(noB x t:Int):=by unfold bits noB;simp only[BitVec.ofInt_natCast];exact wrapU (BitVec.isLt _)
theorem yEb(x t:Nat):bits .or .u16 (x:Int) (t:Int)=(orB x t:Int):=by unfold bits orB;simp only[BitVec.ofInt_natCast];exact wrapU (BitVec.isLt _)
theorem yNb{x t k:Nat}(hk:k<16):(noB x t).testBit k=(x.testBit k&&!t.testBit k):=by unfold noB;rw[←BitVec.getLsbD,BitVec.getLsbD_and,BitVec.getLsbD_not,BitVec.getLsbD_ofNat,BitVec.getLsbD_ofNat];simp[hk]
theorem yKb{x t k:Nat}(hk:k<16):(orB x t).testBit k=(x.testBit k || t.testBit k):=by unfold orB;rw[←BitVec.getLsbD,BitVec.getLsbD_or,BitVec.getLsbD_ofNat,BitVec.getLsbD_ofNat];simp[hk]
theorem bits_one{x k:Nat}(hx:x<65536):bits .and .u16 ((x:Int) / 2 ^ k) 1=if x.testBit k=true then 1 else 0:=by
 have e:((x:Int) / 2 ^ k)=((x / 2 ^ k:Nat):Int):=by simp
 have hd:x / 2 ^ k<65536:=Nat.lt_of_le_of_lt (Nat.div_le_self _ _) hx;have h:=bits_mask .u16 16 (by decide) (fun n h0 h1=>by rw[←Int.toNat_of_nonneg h0];exact wrapU (by omega)) 1 (by decide) ((x / 2 ^ k:Nat):Int) (Int.natCast_nonneg _) (by exact_mod_cast hd);rw[e,show(1:Int)=2 ^ 1-1 from rfl,h,Nat.testBit_eq_decide_div_mod_eq];simp only[decide_eq_true_eq];split<;>omega
end
section
open Go.RowKit
def LsInvB(x:Nat)(W W1:World)(k:Nat)(sl:Value)(wr:World):Prop:=∃ xs:List Nat,xs.length≤k∧xs.Pairwise (· < ·)∧(∀ a∈xs,a<k∧x.testBit a=true)∧wr.ownsRow (W.heap.size+1) 3 1 sl xs.length (xs.map intV)∧Below (W.heap.size+1) W1 wr
def SaysListedB(x n:Nat)(W:World)(e:Ending)(w':World):Prop:=∃(xs:List Nat) (LA:Option Addr) (lc:Nat),e=.returned (.slice LA xs.length lc)∧xs.length≤lc∧xs.length≤n∧xs.Pairwise (· < ·)∧(∀ a∈xs,a<n∧x.testBit a=true)∧zca w' LA xs.length (fun k=>((xs.getD k 0:Nat):Int))∧ListAt w' W.heap.size (.slice LA xs.length lc) xs∧Below W.heap.size W w'
theorem Listed_bits(rs rl rw many:Int)(A:Option Addr)(n c x:Nat)(W:World)(hn:n≤9)(hc:n≤c)(hx16:x<65536) :
  CallsIn Fc 0 Tryz.prog 34 #[zga rs rl rw many A n c,.int .u16 x] W (SaysListedB x n W):=by
 obtain⟨i0,hi,hz0,hz1,hz2⟩:=info_parts i3;have HI:=Lib.hid hi;have HZ0:=Lib.hid hz0;have HZ1:=Lib.hid hz1;have HZ2:=Lib.hid hz2;clear hi hz0 hz1 hz2;gi_enter Tryz.func34,Tryz.ntmps34;gi_wp2
 gi_loopw [5,6] (fun sl i wr=>∃ k:Nat,k≤n∧i=.int .i64 k∧LsInvB x W (W.alloc (.cells #[.int .i64 rs,.int .i64 rl,.int .i64 rw,.int .i64 many,.slice A n c] 26)) k sl wr) (fun _ i _=>n-(intOf i).toNat)
 case atStart=>exact⟨0,by omega,rfl,[],Nat.le_refl _,List.Pairwise.nil,by simp,⟨rfl,.inl ⟨rfl,rfl⟩⟩,Below.refl _ _⟩
 case round=>
  obtain⟨k,hk,rfl,xs,hle,hp,hx,ho,hb⟩:=hrel;have c4:wr.cell? ⟨W.heap.size,4,none⟩=some (.slice A n c):=by rw[hb.cell (by simp)];go_simp
  have hB:Below W.heap.size W wr:=((Below.refl W.heap.size W).alloc (Nat.le_refl _) _).trans (hb.mono (by omega));have HX:=Lib.hid hx;have HP:=Lib.hid hp;have HO:=Lib.hid ho;have HB:=Lib.hid hb;have HBB:=Lib.hid hB;have hs:=hb.size;simp at hs;clear hx hp ho hb hB;by_cases hlt:k<n
  ·have h1:=bits_one (k:=k) hx16;cases hbit:x.testBit k with
   |true=>
    rw[if_pos hbit] at h1;have HBIT:=Lib.hid hbit;clear hbit
    gi_wp2_with (gi_at_builtin;refine wpListIn_append_own _ rfl _ _ 27 rfl (W.heap.size+1) 3 i0 (.int .i64 0) 1 8 u30 HI.out HZ0.out HZ1.out HZ2.out rfl (by decide) _ _ _ rfl (HO.out.alloc _) ⟨wr.heap.size,0,none⟩ 1 1 [intV k] rfl rfl (cell_one_new _ _ _) (by simp[Value.oneCell']) (by simp[maxLen];omega) (by omega) (by simp;omega) ?_;intro v' w4 hown4 hg4 hnil4)
    have hx4:=HO.out.alloc (.cells #[intV k] 3);go_roundw
    case rel=>
     refine⟨k+1,by omega,by go_num,xs++[k],by simp;omega,?_,?_,?_,?_⟩
     ·rw[List.pairwise_append];exact⟨HP.out,by simp,fun a ha b hb=>by simp at hb;subst hb;exact(HX.out a ha).1⟩
     ·intro a ha;rw[List.mem_append] at ha;rcases ha with ha|ha
      ·have:=HX.out a ha;exact⟨by omega,this.2⟩
      ·rcases List.mem_singleton.1 ha with rfl;exact⟨by omega,HBIT.out⟩
     ·simpa using hown4
     ·exact(HB.out.alloc (by omega) _).grown hg4 (by simp;omega) (fun g hg=>(hx4.lt g hg).1)
    case measure=>simp[intOf];omega
   |false=>
    rw[if_neg (by rw[hbit];decide)] at h1;clear hbit;gi_wp2;go_roundw
    case rel=>exact⟨k+1,by omega,by go_num,xs,by omega,HP.out,fun a ha=>by have:=HX.out a ha;exact⟨by omega,this.2⟩,HO.out,HB.out⟩
    case measure=>simp[intOf];omega
  ·obtain rfl:k=n:=by omega
   obtain⟨LA,lc,rfl,h1,h2⟩:=ywb HO.out;gi_wp2;go_ret;exact⟨xs,LA,lc,rfl,h1,hle,HP.out,HX.out,h2,ListAt.mono HO.out (by omega),HBB.out⟩
end
end Go.Proofs.YtpdmgecbapmgdaaGreat
