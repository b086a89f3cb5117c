/- A part of the proof that ArrowStocks returns true for every input: no further condition. -/
import Derived.Test.YtpdmgecbapmgdaaGreatGp6
import Derived.Test.YtpdmgecbapmgdaaGreatCx9
import Derived.Conc.Own4
import Derived.Test.YtpdmgecbapmgdaaGreatGp5
import Derived.Test.YtpdmgecbapmgdaaGreatGp2
import Derived.Stop.RegionWithIn
import Derived.Test.YtpdmgecbapmgdaaGreatGp3
set_option linter.unusedSimpArgs false
set_option linter.unusedVariables false
set_option maxHeartbeats 4000000
set_option maxRecDepth 100000
namespace Go.Proofs.YtpdmgecbapmgdaaGreat
section
open Go.RowKit Go.Cx Go.Conc
open Go.ConcR (DC0)
section
variable {F:Fence}{n:Nat}{P:Program}{b:Frame}{cs:List Frame}{S:Act→List Item→World→Prop}{a:Act}{w:World}{k:List Item}
def Reach(F:Fence)(P:Program)(b:Frame)(cs:List Frame)(S:Act→List Item→World→Prop)(a:Act)(k:List Item)(w:World):Prop:=
 ∃ a' k' w',S a' k' w'∧Comes F P b cs a k w a' k' w'
theorem Reach.here(h:S a k w):Reach F P b cs S a k w:=⟨a,k,w,h,.refl _⟩
theorem zK{x y:Code}(hb:F.fn b.fn)(hr:F.room (cs.length+1+n))(h:Reach F P b cs S a (.code x::.code y::k) w):Reach F P b cs S a (.code (.seq x y)::k) w:=by obtain⟨a',k',w',h1,h2⟩:=h;exact⟨a',k',w',h1,(comes_seq hb hr).trans h2⟩
theorem zO{c:Code}(hro:b.roundOf=F.round)(hb:F.fn b.fn)(hr:F.room (cs.length+1+n))
  (h:∀ R:Act→World→Prop,(∀ a' w',Reach F P b cs S a' k w'→R a' w')→c.wpIn F n P (zJb R) a w):Reach F P b cs S a (.code c::k) w:=by
 obtain⟨a1,w1,⟨a',k',w',h1,h2⟩,h3⟩:=comes_code (h (fun a' w'=>Reach F P b cs S a' k w') fun a' w' h=>h) hro hb hr;exact⟨a',k',w',h1,h3.trans h2⟩
theorem yh{c:Operand}{x y:Code}(t:Bool)(hc:a.eval c=.bool t)(hb:F.fn b.fn)(hr:F.room (cs.length+1+n))(h:Reach F P b cs S a (.code (if t then x else y)::k) w):Reach F P b cs S a (.code (.cond c x y)::k) w:=by obtain⟨a',k',w',h1,h2⟩:=h;exact⟨a',k',w',h1,(comes_cond hc hb hr).trans h2⟩
theorem yM(hb:F.fn b.fn)(hr:F.room (cs.length+1+n))(hro:b.roundOf=F.round)(h:Reach F P b cs S a k w):Reach F P b cs S a (.code .skip::k) w:=
 zO (n:=n) hro hb hr fun R hR=>by gi_wp2;exact hR _ _ h
theorem yj{id:Nat}{ops:Array Oper}(hb:F.fn b.fn)(hr:F.room (cs.length+1+n))(h:Reach F P b cs S a (.inRegion ops (List.range ops.size)::k) w):Reach F P b cs S a (.code (.region id ops false)::k) w:=by obtain⟨a',k',w',h1,h2⟩:=h;exact⟨a',k',w',h1,(comes_region hb hr).trans h2⟩
end
theorem put_same{a:Act}{d:Nat}{v:Value}(h:d<a.tmps.size):(a.put (some d) v).tmps.getD d undef=v:=by simp[Act.put,h]
theorem put_far{a:Act}{d e:Nat}{v:Value}(h:d≠e):(a.put (some d) v).tmps.getD e undef=a.tmps.getD e undef:=by simp[Act.put,h]
theorem put_size{a:Act}{d:Nat}{v:Value}:(a.put (some d) v).tmps.size=a.tmps.size:=by simp[Act.put]
theorem put_defers{a:Act}{d:Nat}{v:Value}:(a.put (some d) v).defers=a.defers:=rfl
abbrev lawFr(f:FuncId):Frame:={(default:Frame) with fn:=f,kind:=.normal,roundOf:=none}
structure EarlyAt(S:FuncId)(ops:Array Oper)(i j d r:Nat):Prop where
 o:∃ o,ops[i]? = some o∧o.op=.call {callee:=.value (.func S),args:=#[],argTypes:=#[]}∧o.guard=none∧o.dst=some d
 p:∃ o,ops[j]? = some o∧o.op=.assign (.tmp d)∧o.guard=none∧o.dst=some r
structure LateAt(S:FuncId)(ops:Array Oper)(i j1 j2 g c d e r:Nat):Prop where
 o:∃ o,ops[i]? = some o∧o.op=.call {callee:=.value (.func S),args:=#[],argTypes:=#[]}∧o.guard=some (g,true)∧o.dst=some d
 g:(ops[g]?).bind (·.dst)=some c
 p:∃ o,ops[j1]? = some o∧o.op=.pick (.tmp c) (.tmp d) (.const (.bool false))∧o.guard=none∧o.dst=some e
 q:∃ o,ops[j2]? = some o∧o.op=.assign (.tmp e)∧o.guard=none∧o.dst=some r
 ne:d≠c
inductive zLb(S:FuncId)(r z:Nat):Act→List Item→Prop where
 |early (a:Act) (k:List Item) (ops:Array Oper) (i j d:Nat) (h:EarlyAt S ops i j d r) (hdz:d<z) (hd:a.defers=[]) (hs:a.tmps.size=z):zLb S r z a (.inRegion ops [i,j]::.code .ret::k)
 |late (a:Act) (k:List Item) (ops:Array Oper) (i j1 j2 g c d e:Nat) (h:LateAt S ops i j1 j2 g c d e r) (hdz:d<z) (hez:e<z) (hd:a.defers=[]) (hs:a.tmps.size=z) (ht:a.tmps.getD c undef=.bool true) (hcz:c<z):zLb S r z a (.inRegion ops [i,j1,j2]::.code .ret::k)
section
variable {P:Program}{S f:FuncId}{r z:Nat}
theorem call_step{a:Act}{k:List Item}(hS:∃ fn,P.funcs[S]? = some fn∧(fn.name == "runtime.NumGoroutine")=false∧fn.body.isNone=false)(h:zLb S r z a k)(w:World) :
  stepG P true (G ((lawFr f).at a k) []) w=.go (G (Frame.enter P S #[] .normal) [(lawFr f).at a k]) w #[]:=by
 obtain⟨fn,hf,hn,hb⟩:=hS;cases h with
 |early k ops i j d h hdz hd hs=>
  obtain⟨o,ho,hop,hg,hdst⟩:=h.o;have hw:Region.wanted o (yielded ops a.tmps)=true:=by simp only[Region.wanted,hg]
  rw[stepG_enter ho hw (by intro h;cases h) (run_call_body hop hf hn hb)];have:listed P (lawFr f).fn a o w=#[]:=by unfold listed;rw[events_call_body hop hf hn hb];exact seen_none _ _
  rw[this];simp only[List.map_toArray,List.map_nil]
 |late k ops i j1 j2 g c d e h hdz hez hd hs ht hcz=>
  obtain⟨o,ho,hop,hg,hdst⟩:=h.o;have hw:Region.wanted o (yielded ops a.tmps)=true:=by
   simp only[Region.wanted,hg];have hgc:a.tmps[c]? = some (.bool true):=by rw[Array.getD_eq_getD_getElem?,Array.getElem?_eq_getElem (by omega)] at ht;rw[Array.getElem?_eq_getElem (by omega)];simpa using ht
   unfold yielded;rw[h.g];simp[hgc]
  rw[stepG_enter ho hw (by intro h;cases h) (run_call_body hop hf hn hb)];have:listed P (lawFr f).fn a o w=#[]:=by unfold listed;rw[events_call_body hop hf hn hb];exact seen_none _ _
  rw[this];simp only[List.map_toArray,List.map_nil]
theorem zGb{R:World→World→Prop}{Stop:Goroutine→World→Prop}{n:Nat}{g g':Goroutine}{w:World}(hs:g.status=.running)(h:∀ w1,stepG P true g w1=.go g' w1 #[])(hk:∀ w1,R w w1→Goes P true R DC0 Stop n g' w1) :
  Goes P true R DC0 Stop (n+1) g w:=Goes.step hs fun w1 h1=>by
 rw[h w1];exact⟨⟨rfl,rfl⟩,hk w1 h1⟩
theorem yva{a:Act}{k:List Item}{ops:Array Oper}{i:Nat}{rest:List Nat}{o:Oper}{x:Operand}(ho:ops[i]? = some o)(hg:o.guard=none)(hop:o.op=.assign x)(w:World) :
  stepG P true (G ((lawFr f).at a (.inRegion ops (i::rest)::k)) []) w=.go (G ((lawFr f).at (a.put o.dst (a.eval x)) (.inRegion ops rest::k)) []) w #[]:=by
 have hr:(execOp a.eval o).run P w=.ok (.value (a.eval x)) w:=by unfold execOp;simp[hop]
 rw[stepG_value ho (by simp only[Region.wanted,hg]) (by intro h;cases h) hr];have:listed P (lawFr f).fn a o w=#[]:=by unfold listed;rw[show(execOp a.eval o).events P w #[]=#[] by unfold execOp;simp[hop]];exact seen_none _ _
 rw[this]
theorem step_pickG{a:Act}{k:List Item}{ops:Array Oper}{i:Nat}{rest:List Nat}{o:Oper}{c x y:Operand}(ho:ops[i]? = some o)(hg:o.guard=none)(hop:o.op=.pick c x y)(hc:a.eval c=.bool true)(w:World) :
  stepG P true (G ((lawFr f).at a (.inRegion ops (i::rest)::k)) []) w=.go (G ((lawFr f).at (a.put o.dst (a.eval x)) (.inRegion ops rest::k)) []) w #[]:=by
 have hr:(execOp a.eval o).run P w=.ok (.value (a.eval x)) w:=by unfold execOp;simp[hop,hc,asBool]
 rw[stepG_value ho (by simp only[Region.wanted,hg]) (by intro h;cases h) hr];have:listed P (lawFr f).fn a o w=#[]:=by unfold listed;rw[show(execOp a.eval o).events P w #[]=#[] by unfold execOp;simp[hop,hc,asBool]];exact seen_none _ _
 rw[this]
theorem step_doneG{F:FuncId→Prop}{fl:Func}(hF:zfa P F)(hin:F f)(hfl:P.funcs[f]? = some fl)(hres:fl.results=#[.tmp r]){a:Act}{k:List Item}(hd:a.defers=[])(h4:a.tmps.getD r undef=.bool true)(w:World) :
  stepG P true (G {(lawFr f).at a (.code .ret::k) with mode:=.returning} []) w=.ended (.done (.bool true)) w #[]:=by
 obtain⟨fn,c,hk⟩:=hF f hin;have hfn:fn=fl:=Option.some.inj (hk.at_.symm.trans hfl);have h1:(results fn a.tmps).run P w=.ok (.bool true) w:=by rw[results_tmp (t:=r) (by rw[hfn];exact hres) a.tmps P w,h4]
 have h2:(results fn a.tmps).events P w #[]=#[]:=events_results_tmp (t:=r) (by rw[hfn];exact hres) _ _;have e1:∀(fr:Frame) (z:World),fr.kind=.normal→fr.fn=f→doReturn P true fr [] none (.bool true) z=.ended (.done (.bool true)) z:=fun fr z h3 h4=>by simp[doReturn,h3,h4,hk.ini]
 simp only[G,stepG,unwind,Frame.at,hd,hk.at_,Sem.runT_eq,h1,h2];rw[e1 _ _ rfl rfl];simp[GStep.after,seen_none]
theorem yeb{F:FuncId→Prop}{fl:Func}(hF:zfa P F)(hin:F f)(hfl:P.funcs[f]? = some fl)(hres:fl.results=#[.tmp r]){a:Act}{k:List Item}{ops:Array Oper}{w w':World}(he:Env (OldL w) w w')(hd:a.defers=[])(h4:a.tmps.getD r undef=.bool true) :
  Goes P true (fun w0 w1=>Env (OldL w) w0 w1) DC0 (AtRet P (fun v w1=>v=.bool true∧Env (OldL w) w w1)) 2 (G ((lawFr f).at a (.inRegion ops []::.code .ret::k)) []) w':=by
 refine zGb rfl (fun w1=>stepG_region_end) fun w1 h1=>zGb rfl (fun w1=>stepG_ret') fun w2 h2=>Goes.stop fun w3 h3=>?_
 exact⟨rfl,_,step_doneG hF hin hfl hres hd h4 w3,rfl,((he.trans h1).trans h2).trans h3⟩
theorem after_callG{F:FuncId→Prop}{fl:Func}(hF:zfa P F)(hin:F f)(hfl:P.funcs[f]? = some fl)(hres:fl.results=#[.tmp r])(hrz:r<z){a:Act}{k:List Item}(h:zLb S r z a k){w w':World}(he:Env (OldL w) w w') :
  Goes P true (fun w0 w1=>Env (OldL w) w0 w1) DC0 (AtRet P (fun v w1=>v=.bool true∧Env (OldL w) w w1)) 4 (G (((lawFr f).at a k).finish (.bool true)) []) w':=by
 cases h with
 |early k ops i j d h hdz hd hs=>
  obtain⟨o,ho,hop,hg,hdst⟩:=h.o;obtain⟨o2,ho2,hop2,hg2,hdst2⟩:=h.p;rw[Frame.finish_at,ho];simp only[Option.bind_some,hdst];refine zGb (g':=G ((lawFr f).at ((a.put (some d) (.bool true)).put (some r) (.bool true)) (.inRegion ops []::.code .ret::k)) []) rfl (fun w1=>?_) fun w1 h1=>Goes.more (yeb hF hin hfl hres (a:=(a.put (some d) (.bool true)).put (some r) (.bool true)) (ops:=ops) (k:=k) (he.trans h1) (by rw[put_defers,put_defers,hd]) (put_same (by rw[put_size];omega)))
  have h:=yva (P:=P) (f:=f) (a:=a.put (some d) (.bool true)) (k:=.code .ret::k) (ops:=ops) (i:=j) (rest:=[]) (x:=.tmp d) ho2 hg2 hop2 w1;rw[h,hdst2,show(a.put (some d) (.bool true)).eval (.tmp d)=.bool true from put_same (by omega)]
 |late k ops i j1 j2 g c d e h hdz hez hd hs ht hcz=>
  obtain⟨o,ho,hop,hg,hdst⟩:=h.o;obtain⟨o2,ho2,hop2,hg2,hdst2⟩:=h.p;obtain⟨o3,ho3,hop3,hg3,hdst3⟩:=h.q;rw[Frame.finish_at,ho];simp only[Option.bind_some,hdst];refine zGb (g':=G ((lawFr f).at ((a.put (some d) (.bool true)).put (some e) (.bool true)) (.inRegion ops [j2]::.code .ret::k)) []) rfl (fun w1=>?_) fun w1 h1=>?_
  ·have h:=step_pickG (P:=P) (f:=f) (a:=a.put (some d) (.bool true)) (k:=.code .ret::k) (ops:=ops) (i:=j1) (rest:=[j2]) (c:=.tmp c) (x:=.tmp d) (y:=.const (.bool false)) ho2 hg2 hop2 ((put_far h.ne).trans ht) w1;rw[h,hdst2,show(a.put (some d) (.bool true)).eval (.tmp d)=.bool true from put_same (by omega)]
  ·refine zGb (g':=G ((lawFr f).at (((a.put (some d) (.bool true)).put (some e) (.bool true)).put (some r) (.bool true)) (.inRegion ops []::.code .ret::k)) []) rfl (fun w2=>?_) fun w2 h2=>yeb hF hin hfl hres ((he.trans h1).trans h2) (by rw[put_defers,put_defers,put_defers,hd]) (put_same (by rw[put_size,put_size];omega))
   have h:=yva (P:=P) (f:=f) (a:=(a.put (some d) (.bool true)).put (some e) (.bool true)) (k:=.code .ret::k) (ops:=ops) (i:=j2) (rest:=[]) (x:=.tmp e) ho3 hg3 hop3 w2;rw[h,hdst3,show((a.put (some d) (.bool true)).put (some e) (.bool true)).eval (.tmp e)=.bool true from put_same (by rw[put_size];omega)]
end
end
section
open Go.RowKit
end
section
open Go.RowKit
section
variable (sh:Nat→Shaft)(l:Nat→Nat)
end
end
section
open Go.RowKit
section
variable {F:Fence}{n:Nat}{P:Program}{ops:Array Oper}{Q:Exit→Act→World→Prop}
end
end
section
open Go.RowKit Go.Cx Go.Conc
end
section
open Go.RowKit Go.Cx Go.Conc
noncomputable def rgt':Code→Code
 |.seq _ b=>b
 |_=>.skip
end
section
open Go.RowKit
section
variable (rs rl rw many:Int)(n:Nat)(sh:Nat→Shaft)(k m x0 x1:Int)
end
section
variable {rs rl rw many:Int}{n:Nat}{sh:Nat→Shaft}{k m x0 x1:Int}
end
end
section
open Go.RowKit
section
variable (rs rl rw many:Int)(A:Option Addr)(n c:Nat)(k m x0 x1:Int)(F:Nat→Int)
end
end
section
open Go.RowKit
end
section
open Go.RowKit
end
section
open Go.RowKit
theorem yGa{n m:Nat}:∀(d:Nat) (x:List Nat) (a:Nat) (z:List Nat),d≤n→(a::z).Pairwise (· < ·)→(∀ k,k∈a::z→k<n)→n-d≤a→(x++a::z).length=m→x++a::z∈loopE n m d x
 |0,x,a,z,hd,hp,hlt,ha,hm=>by have:=hlt a (List.mem_cons_self ..);omega
 |d+1,x,a,z,hd,hp,hlt,ha,hm=>by
  rw[loopE,List.mem_append];have han:=hlt a (List.mem_cons_self ..);rw[List.length_append,List.length_cons] at hm;by_cases e:a=n-(d+1)
  ·refine .inl ?_;rw[←e];cases z with
   |nil=>rw[if_pos (by simpa using hm)];exact List.mem_singleton.2 rfl
   |cons b z=>rw[if_neg (by simp at hm;omega)];have hab:a<b:=(List.pairwise_cons.1 hp).1 b (List.mem_cons_self ..);have h:=yGa (n:=n) (m:=m) d (x++[a]) b z (by omega) (List.pairwise_cons.1 hp).2 (fun k hk=>hlt k (List.mem_cons_of_mem _ hk)) (by omega) (by simp at hm ⊢;omega);rw[List.append_assoc] at h;exact h
  ·exact .inr (yGa d x a z (by omega) hp hlt (by omega) (by rw[List.length_append,List.length_cons];exact hm))
theorem extE_has{n m:Nat}{x:List Nat}(hp:x.Pairwise (· < ·))(hlt:∀ k,k∈x→k<n)(hm:x.length=m):x∈extE n m n []:=by
 unfold extE;cases x with
 |nil=>rw[if_pos (by simpa using hm)];exact List.mem_singleton.2 rfl
 |cons a z=>rw[if_neg (by simp at hm ⊢;omega)];exact yGa n [] a z (Nat.le_refl _) hp hlt (by omega) hm
theorem setsX_iff{rs rl rw:Int}{sh:Nat→Shaft}{n m:Nat}{x:List Nat}:x∈setsX rs rl rw sh n m↔x.Pairwise (· < ·)∧(∀ k,k∈x→k<n)∧x.length=m∧zoc rs rl rw sh (fun k=>x.getD k 0) x.length=1:=by
 unfold setsX;rw[List.mem_filter];constructor
 ·rintro⟨h1,h2⟩;exact⟨extE_asc h1,yNb h1,yDb h1,by simpa using h2⟩
 ·rintro⟨h1,h2,h3,h4⟩;exact⟨extE_has h1 h2 h3,by simpa using h4⟩
end
section
open Go.RowKit
theorem yD{n:Int}(h0 : -1000000000≤n)(h1:n≤1000000000):IntKind.wrap .i64 n=n:=by simp[IntKind.wrap,IntKind.signed,IntKind.bits];omega
end
section
open Go.RowKit
theorem names_of{rs rl rw many:Int}{n:Nat}{sh:Nat→Shaft}(h:zxa rs rl rw many n sh):∀ k,k<n→(sh k).name.size≤100:=fun k hk=>by have:=(h.each k hk).name.most;omega
theorem fold_len{N:Nat}{f:List (List Nat)→List Nat→List (List Nat)}:∀(X B:List (List Nat)),(∀ B x,B.length≤N→(f B x).length≤N)→B.length≤N→(X.foldl f B).length≤N
 | [],_,_,h=>h
 |x::X,B,hf,h=>fold_len X (f B x) hf (hf B x h)
theorem yib{n N:Nat}{O:Nat→List (List Nat)}:∀(d:Nat) (T:Nat→Bool) (S B:List (List Nat)),S.length+d≤N→B.length≤N→(tryE n O d T S B).length≤N
 |0,T,S,B,hS,hB=>by
  simp only[tryE];split
  ·omega
  ·exact hB
 |d+1,T,S,B,hS,hB=>by
  simp only[tryE];refine yib d _ S _ (by omega) ?_;split
  ·exact hB
  ·refine fold_len _ _ (fun B x hB=>?_) hB;split
   ·exact yib d _ _ B (by rw[List.length_append,List.length_singleton];omega) hB
   ·exact hB
theorem share_few(rs rl rw:Int)(sh:Nat→Shaft)(n m:Nat)(T:Nat→Bool):(zgc rs rl rw sh n m T).length≤n:=
 yib n T [] [] (by simp) (by simp)
end
section
open Go.RowKit
def geL(E C:List (List Nat)):Prop:=C.length<E.length∨(C.length=E.length∧cmpLL E C≤0)
theorem cmpL_refl:∀ x:List Nat,cmpL x x=0
 | []=>rfl
 |a::x=>by simp[cmpL,cmpL_refl x]
theorem yMa:∀ x y:List Nat,cmpL x y=0→x=y
 | [],[],_=>rfl
 | [],_::_,h=>by simp[cmpL] at h
 |_::_,[],h=>by simp[cmpL] at h
 |a::x,b::y,h=>by
  simp only[cmpL] at h;split at h
  ·omega
  ·split at h
   ·omega
   ·obtain rfl:a=b:=by omega
    rw[yMa x y h]
theorem yNa:∀ x y:List Nat,cmpL y x = - cmpL x y
 | [],[]=>rfl
 | [],_::_=>rfl
 |_::_,[]=>rfl
 |a::x,b::y=>by
  simp only[cmpL];by_cases h1:a<b
  ·rw[if_neg (by omega:¬ b<a),if_pos h1,if_pos h1];rfl
  ·by_cases h2:b<a
   ·rw[if_pos h2,if_neg h1,if_pos h2]
   ·rw[if_neg h2,if_neg h1,if_neg h1,if_neg h2,yNa x y]
theorem ycb:∀ x y z:List Nat,cmpL x y≤0→cmpL y z≤0→cmpL x z≤0
 | [],_,[],_,_=>by simp[cmpL]
 | [],_,_::_,_,_=>by simp[cmpL]
 |_::_,[],_,h,_=>by simp[cmpL] at h
 |_::_,_::_,[],_,h=>by simp[cmpL] at h
 |a::x,b::y,c::z,h1,h2=>by
  simp only[cmpL] at h1 h2 ⊢;by_cases e1:a<b
  ·by_cases e2:c<b
   ·rw[if_neg (by omega),if_pos e2] at h2;omega
   ·rw[if_pos (by omega)];omega
  ·rw[if_neg e1] at h1;by_cases e3:b<a
   ·rw[if_pos e3] at h1;omega
   ·rw[if_neg e3] at h1;obtain rfl:a=b:=by omega
    by_cases e4:a<c
    ·rw[if_pos e4];omega
    ·rw[if_neg e4] at h2 ⊢;by_cases e5:c<a
     ·rw[if_pos e5] at h2;omega
     ·rw[if_neg e5] at h2 ⊢;exact ycb x y z h1 h2
theorem cmpL_less{x y z:List Nat}(h1:cmpL x y<0)(h2:cmpL y z≤0):cmpL x z<0:=by
 have h3:=ycb x y z (by omega) h2;by_cases e:cmpL x z=0
 ·rcases yMa _ _ e with rfl;rw[yNa x y] at h2;omega
 ·omega
theorem cmpLL_refl:∀ x:List (List Nat),cmpLL x x=0
 | []=>rfl
 |a::x=>by simp[cmpLL,cmpL_refl,cmpLL_refl x]
theorem ydb:∀ x y:List (List Nat),cmpLL y x = - cmpLL x y
 | [],[]=>rfl
 | [],_::_=>rfl
 |_::_,[]=>rfl
 |a::x,b::y=>by
  simp only[cmpLL];rw[yNa a b];by_cases h1:cmpL a b=0
  ·rw[if_neg (by omega),if_neg (by omega),ydb x y]
  ·rw[if_pos (by omega),if_pos (by omega)]
theorem yOa:∀ x y z:List (List Nat),cmpLL x y≤0→cmpLL y z≤0→cmpLL x z≤0
 | [],_,[],_,_=>by simp[cmpLL]
 | [],_,_::_,_,_=>by simp[cmpLL]
 |_::_,[],_,h,_=>by simp[cmpLL] at h
 |_::_,_::_,[],_,h=>by simp[cmpLL] at h
 |a::x,b::y,c::z,h1,h2=>by
  simp only[cmpLL] at h1 h2 ⊢;by_cases e1:cmpL a b=0
  ·rw[if_neg (by omega)] at h1;rcases yMa _ _ e1 with rfl;by_cases e2:cmpL a c=0
   ·rw[if_neg (by omega)] at h2 ⊢;exact yOa x y z h1 h2
   ·rw[if_pos e2] at h2 ⊢;exact h2
  ·rw[if_pos e1] at h1;have h3:cmpL b c≤0:=by
    by_cases e2:cmpL b c=0
    ·omega
    ·rw[if_pos e2] at h2;exact h2
   have:=cmpL_less (by omega:cmpL a b<0) h3;rw[if_pos (by omega)];omega
theorem yca(E:List (List Nat)):geL E E:=.inr ⟨rfl,by rw[cmpLL_refl];omega⟩
theorem yba{E C D:List (List Nat)}(h1:geL E C)(h2:geL C D):geL E D:=by
 rcases h1 with h1|⟨h1,h1'⟩
 ·rcases h2 with h2|⟨h2,h2'⟩
  ·exact .inl (by omega)
  ·exact .inl (by omega)
 ·rcases h2 with h2|⟨h2,h2'⟩
  ·exact .inl (by omega)
  ·exact .inr ⟨by omega,yOa _ _ _ h1' h2'⟩
theorem geL_not{S B:List (List Nat)}(h:ztb S B=false):geL B S:=by
 unfold ztb at h;split at h
 ·next e=>have:=of_decide_eq_false h;refine .inr ⟨e,?_⟩;rw[ydb S B];omega
 ·have:=of_decide_eq_false h;exact .inl (by omega)
theorem geL_yes{S B:List (List Nat)}(h:ztb S B=true):geL S B:=by
 unfold ztb at h;split at h
 ·next e=>have:=of_decide_eq_true h;exact .inr ⟨e.symm,by omega⟩
 ·have:=of_decide_eq_true h;exact .inl (by omega)
theorem pick_ge(S B:List (List Nat)):geL (if ztb S B then S else B) S∧geL (if ztb S B then S else B) B:=by
 cases h:ztb S B with
 |true=>exact⟨yca _,geL_yes h⟩
 |false=>exact⟨geL_not h,yca _⟩
def Split(R:List (List Nat)):Prop:=R.Pairwise fun x y=>x.headD 0<y.headD 0∧∀ a,a∈x→a∉y
def FreeR(M:List (List Nat))(T:Nat→Bool)(R:List (List Nat)):Prop:=∀ x,x∈R→x∈M∧∀ a,a∈x→T a=false
structure yFb(n:Nat)(M:List (List Nat))(O:Nat→List (List Nat)):Prop where
 asc:∀ x,x∈M→x.Pairwise (· < ·)
 some:∀ x,x∈M→x≠[]
 less:∀ x,x∈M→∀ a,a∈x→a<n
 of:∀ s x,x∈O s↔x∈M∧s∈x
theorem updT_true{T:Nat→Bool}{s a:Nat}:updT T s a=true↔a=s∨T a=true:=by
 unfold updT;by_cases h:a=s
 ·simp[h]
 ·simp[h]
theorem withT_true:∀(x:List Nat) (T:Nat→Bool) (a:Nat),withT T x a=true↔T a=true∨a∈x
 | [],T,a=>by simp[withT]
 |s::r,T,a=>by
  simp only[withT];rw[withT_true r,updT_true,List.mem_cons];constructor
  ·rintro((h|h)|h)
   ·exact .inr (.inl h)
   ·exact .inl h
   ·exact .inr (.inr h)
  ·rintro(h|h|h)
   ·exact .inl (.inr h)
   ·exact .inl (.inl h)
   ·exact .inr h
theorem yna:∀(x:List Nat) (T:Nat→Bool),x.Pairwise (· < ·)→(freeT T x=true↔∀ a,a∈x→T a=false)
 | [],T,_=>by simp[freeT]
 |s::r,T,hp=>by
  simp only[freeT];have hp':=List.pairwise_cons.1 hp;cases h:T s with
  |true=>
   simp only[if_true];constructor
   ·intro e;cases e
   ·intro e;rw[e s (by simp)] at h;cases h
  |false=>
   simp only[Bool.false_eq_true,if_false];rw[yna r _ hp'.2];constructor
   ·intro e a ha;rcases List.mem_cons.1 ha with rfl|ha
    ·exact h
    ·have:=e a ha;cases h2:T a with
     |false=>rfl
     |true=>rw[updT_true.2 (.inr h2)] at this;cases this
   ·intro e a ha;cases h2:updT T s a with
    |false=>rfl
    |true=>
     rcases updT_true.1 h2 with rfl|h3
     ·have:=hp'.1 a ha;omega
     ·rw[e a (by simp[ha])] at h3;cases h3
theorem ybb{x:List Nat}(hp:x.Pairwise (· < ·)){a:Nat}(ha:a∈x):x.headD 0≤a∧x.headD 0∈x:=by
 cases x with
 |nil=>cases ha
 |cons b x=>
  simp only[List.headD_cons];refine⟨?_,by simp⟩;rcases List.mem_cons.1 ha with rfl|h
  ·omega
  ·have:=(List.pairwise_cons.1 hp).1 a h;omega
section
variable {n:Nat}{M:List (List Nat)}{O:Nat→List (List Nat)}{T:Nat→Bool}
theorem FreeR.none(h:yFb n M O)(hT:∀ a,a<n→T a=true){R:List (List Nat)}(hR:FreeR M T R):R=[]:=by
 cases R with
 |nil=>rfl
 |cons x R=>
  obtain⟨h1,h2⟩:=hR x (by simp);cases x with
  |nil=>exact absurd rfl (h.some _ h1)
  |cons a x=>have h3:=h2 a (by simp);rw[hT a (h.less _ h1 a (by simp))] at h3;cases h3
theorem fold_best{d:Nat}(S:List (List Nat)){X:List (List Nat)}(hX:∀ x,x∈X→freeT T x=true→∀ B,geL (tryE n O d (withT T x) (S++[x]) B) B∧∀ R,FreeR M (withT T x) R→Split R→geL (tryE n O d (withT T x) (S++[x]) B) ((S++[x])++R)) :
  ∀ B,geL (X.foldl (fun B x=>if freeT T x then tryE n O d (withT T x) (S++[x]) B else B) B) B∧∀ x,x∈X→freeT T x=true→∀ R,FreeR M (withT T x) R→Split R→geL (X.foldl (fun B x=>if freeT T x then tryE n O d (withT T x) (S++[x]) B else B) B) ((S++[x])++R):=by
 induction X with
 |nil=>intro B;exact⟨yca _,fun x hx=>by cases hx⟩
 |cons y X ih=>
  intro B;simp only[List.foldl_cons];obtain⟨i1,i2⟩:=ih (fun x hx=>hX x (by simp[hx])) (if freeT T y then tryE n O d (withT T y) (S++[y]) B else B);have hy:geL (if freeT T y then tryE n O d (withT T y) (S++[y]) B else B) B:=by
   split
   ·next e=>exact(hX y (by simp) e B).1
   ·exact yca _
  refine⟨yba i1 hy,fun x hx hf R hR hS=>?_⟩;rcases List.mem_cons.1 hx with rfl|hx
  ·refine yba i1 ?_;rw[if_pos hf];exact(hX x (by simp) hf B).2 R hR hS
  ·exact i2 x hx hf R hR hS
theorem yCa(h:yFb n M O):∀(d:Nat),d≤n→∀(T:Nat→Bool) (S B:List (List Nat)),(∀ a,a<n-d→T a=true) →
  geL (tryE n O d T S B) B∧∀ R,FreeR M T R→Split R→geL (tryE n O d T S B) (S++R)
 |0,_,T,S,B,hT=>by simp only[tryE];refine⟨(pick_ge S B).2,fun R hR _=>?_⟩;rw[hR.none h (fun a ha=>hT a (by omega)),List.append_nil];exact(pick_ge S B).1
 |d+1,hd,T,S,B,hT=>by
  simp only[tryE];obtain⟨s,hs⟩:∃ s,n-(d+1)=s:=⟨_,rfl⟩;rw[hs] at hT ⊢;have hX:∀ x,x∈O s→freeT T x=true→∀ B,geL (tryE n O d (withT T x) (S++[x]) B) B∧∀ R,FreeR M (withT T x) R→Split R→geL (tryE n O d (withT T x) (S++[x]) B) ((S++[x])++R):=fun x hx _ B=>
   yCa h d (by omega) (withT T x) (S++[x]) B fun a ha=>by
    rw[withT_true];by_cases e:a=s
    ·subst e;exact .inr ((h.of a x).1 hx).2
    ·exact .inl (hT a (by omega))
  obtain⟨f1,f2⟩:=fold_best S hX B;have hu:∀ a,a<n-d→updT T s a=true:=fun a ha=>by
   rw[updT_true];by_cases e:a=s
   ·exact .inl e
   ·exact .inr (hT a (by omega))
  obtain⟨g1,g2⟩:=yCa h d (by omega) (updT T s) S (if T s then B else(O s).foldl (fun B x=>if freeT T x then tryE n O d (withT T x) (S++[x]) B else B) B) hu;have hB:geL (if T s then B else(O s).foldl (fun B x=>if freeT T x then tryE n O d (withT T x) (S++[x]) B else B) B) B:=by
   split
   ·exact yca _
   ·exact f1
  refine⟨yba g1 hB,fun R hR hS=>?_⟩;by_cases hin:∃ x,x∈R∧s∈x
  ·cases R with
   |nil=>obtain⟨x,hx,_⟩:=hin;cases hx
   |cons y R=>
    have hS':=List.pairwise_cons.1 hS;obtain⟨y1,y2⟩:=hR y (by simp);have hyh:s≤y.headD 0:=by
     cases y with
     |nil=>exact absurd rfl (h.some _ y1)
     |cons b y=>
      simp only[List.headD_cons];by_cases e:b<s
      ·have:=y2 b (by simp);rw[hT b e] at this;cases this
      ·omega
    have hsy:s∈y:=by
     obtain⟨x,hx,hsx⟩:=hin;rcases List.mem_cons.1 hx with rfl|hx
     ·exact hsx
     ·have h1:=(hS'.1 x hx).1;have h2:=(ybb (h.asc x (hR x (by simp[hx])).1) hsx).1;omega
    have hfr:freeT T y=true:=(yna y T (h.asc y y1)).2 y2;have hTs:T s=false:=y2 s hsy;refine yba g1 ?_;rw[hTs,if_neg (by decide)];have:=f2 y ((h.of s y).2 ⟨y1,hsy⟩) hfr R (fun x hx=>⟨(hR x (by simp[hx])).1,fun a ha=>by
     cases hw:withT T y a with
     |false=>rfl
     |true=>
      rcases(withT_true y T a).1 hw with h1|h1
      ·rw[(hR x (by simp[hx])).2 a ha] at h1;cases h1
      ·exact absurd ha ((hS'.1 x hx).2 a h1)⟩) hS'.2
    simpa using this
  ·refine g2 R (fun x hx=>⟨(hR x hx).1,fun a ha=>?_⟩) hS;cases hw:updT T s a with
   |false=>rfl
   |true=>
    rcases updT_true.1 hw with rfl|h1
    ·exact absurd ⟨x,hx,ha⟩ hin
    ·rw[(hR x hx).2 a ha] at h1;cases h1
theorem yBb{p:List (List Nat)→Prop}{f:List (List Nat)→List Nat→List (List Nat)}:∀(X B:List (List Nat)),(∀ B x,x∈X→p B→p (f B x))→p B→p (X.foldl f B)
 | [],_,_,h=>h
 |x::X,B,hf,h=>yBb X (f B x) (fun B y hy=>hf B y (by simp[hy])) (hf B x (by simp) h)
theorem yBa(h:yFb n M O)(T0:Nat→Bool):∀(d:Nat),d≤n→∀(T:Nat→Bool) (S B:List (List Nat)),(∀ a,a<n-d→T a=true)→(∀ a,T0 a=true→T a=true)→(∀ x,x∈S→x.headD 0<n-d∧∀ a,a∈x→T a=true) →
  FreeR M T0 S∧Split S→FreeR M T0 B∧Split B→FreeR M T0 (tryE n O d T S B)∧Split (tryE n O d T S B)
 |0,_,T,S,B,_,_,_,hS,hB=>by
  simp only[tryE];split
  ·exact hS
  ·exact hB
 |d+1,hd,T,S,B,hT,h0,hST,hS,hB=>by
  simp only[tryE];obtain⟨s,hs⟩:∃ s,n-(d+1)=s:=⟨_,rfl⟩;rw[hs] at hT hST ⊢;refine yBa h T0 d (by omega) (updT T s) S _ (fun a ha=>?_) (fun a ha=>updT_true.2 (.inr (h0 a ha))) (fun x hx=>⟨by have:=(hST x hx).1;omega,fun a ha=>updT_true.2 (.inr ((hST x hx).2 a ha))⟩) hS ?_
  ·rw[updT_true];by_cases e:a=s
   ·exact .inl e
   ·exact .inr (hT a (by omega))
  ·split
   ·exact hB
   ·refine yBb (p:=fun B=>FreeR M T0 B∧Split B) (O s) B (fun B x hx hB=>?_) hB;split
    ·next hf=>
     obtain⟨x1,x2⟩:=(h.of s x).1 hx;have hfr:=(yna x T (h.asc x x1)).1 hf;have hxs:x.headD 0=s:=by
      have:=ybb (h.asc x x1) x2;by_cases e:x.headD 0<s
      ·have h3:=hfr _ this.2;rw[hT _ e] at h3;cases h3
      ·omega
     refine yBa h T0 d (by omega) (withT T x) (S++[x]) B (fun a ha=>?_) (fun a ha=>(withT_true x T a).2 (.inl (h0 a ha))) (fun y hy=>?_) ⟨fun y hy=>?_,?_⟩ hB
     ·rw[withT_true];by_cases e:a=s
      ·subst e;exact .inr x2
      ·exact .inl (hT a (by omega))
     ·rcases List.mem_append.1 hy with hy|hy
      ·exact⟨by have:=(hST y hy).1;omega,fun a ha=>(withT_true x T a).2 (.inl ((hST y hy).2 a ha))⟩
      ·rcases List.mem_singleton.1 hy with rfl;exact⟨by omega,fun a ha=>(withT_true y T a).2 (.inr ha)⟩
     ·rcases List.mem_append.1 hy with hy|hy
      ·exact hS.1 y hy
      ·rcases List.mem_singleton.1 hy with rfl;refine⟨x1,fun a ha=>?_⟩;cases e:T0 a with
       |false=>rfl
       |true=>have:=hfr a ha;rw[h0 a e] at this;cases this
     ·unfold Split;rw[List.pairwise_append];refine⟨hS.2,List.pairwise_singleton _ _,fun y hy z hz=>?_⟩;rcases List.mem_singleton.1 hz with rfl;refine⟨by rw[hxs];exact(hST y hy).1,fun a ha hz=>?_⟩;have:=(hST y hy).2 a ha;rw[hfr a hz] at this;cases this
    ·exact hB
end
theorem evs_mem{M:List (List Nat)}{s k:Nat}:(s,k)∈evs M M.length 0↔k<M.length∧s∈M.getD k []:=by
 unfold evs;simp only[List.take_zero,List.map_nil,List.append_nil,List.mem_flatMap,List.mem_range,List.mem_map,Prod.mk.injEq];constructor
 ·rintro⟨j,hj,t,ht,rfl,rfl⟩;exact⟨hj,ht⟩
 ·rintro⟨hk,hs⟩;exact⟨k,hk,s,hs,rfl,rfl⟩
theorem ofE_iff{M:List (List Nat)}{s:Nat}{x:List Nat}:x∈ofE M (evs M M.length 0) s↔x∈M∧s∈x:=by
 unfold ofE;simp only[List.mem_map,List.mem_filter,beq_iff_eq];constructor
 ·rintro⟨⟨t,k⟩,⟨h1,h2⟩,rfl⟩;obtain⟨h3,h4⟩:=evs_mem.1 h1;have h2:t=s:=h2;subst h2;refine⟨?_,h4⟩;rw[List.getD_eq_getElem?_getD,List.getElem?_eq_getElem h3];exact List.getElem_mem h3
 ·rintro⟨h1,h2⟩;obtain⟨k,hk,rfl⟩:=List.getElem_of_mem h1;have e:M.getD k []=M[k]:=by rw[List.getD_eq_getElem?_getD,List.getElem?_eq_getElem hk];rfl
  exact⟨(s,k),⟨evs_mem.2 ⟨hk,by rw[e];exact h2⟩,rfl⟩,e⟩
theorem split_of{n:Nat}{M:List (List Nat)}{O:Nat→List (List Nat)}{T:Nat→Bool}(h:yFb n M O){R:List (List Nat)}(hR:FreeR M T R)(hp:R.Pairwise fun x y=>∀ a,a∈x→a∉y):∃ R',R'.length=R.length∧FreeR M T R'∧Split R':=by
 have hperm:=List.mergeSort_perm R (fun x y=>decide (x.headD 0≤y.headD 0));have hso:=List.pairwise_mergeSort (le:=fun x y:List Nat=>decide (x.headD 0≤y.headD 0)) (fun a b c h1 h2=>by simp only[decide_eq_true_eq] at *;omega) (fun a b=>by simp only[Bool.or_eq_true,decide_eq_true_eq];omega) R;refine⟨R.mergeSort (fun x y=>decide (x.headD 0≤y.headD 0)),hperm.length_eq,fun x hx=>hR x (hperm.mem_iff.1 hx),?_⟩;have hp':(R.mergeSort (fun x y=>decide (x.headD 0≤y.headD 0))).Pairwise fun x y=>∀ a,a∈x→a∉y:=(hperm.pairwise_iff (fun{x y} (h:∀ a,a∈x→a∉y) a ha hb=>h a hb ha)).2 hp
 refine(hso.and hp').imp_of_mem fun{x y} hx hy hxy=>⟨?_,hxy.2⟩
 have h1:x.headD 0≤y.headD 0:=of_decide_eq_true hxy.1;have mem:∀ z,z∈M→z.headD 0∈z:=fun z hz=>by
  cases z with
  |nil=>exact absurd rfl (h.some _ hz)
  |cons a z=>simp
 by_cases e:x.headD 0=y.headD 0
 ·have:=hxy.2 _ (mem x (hR x (hperm.mem_iff.1 hx)).1);rw[e] at this;exact absurd (mem y (hR y (hperm.mem_iff.1 hy)).1) this
 ·omega
end
section
open Go.RowKit
section
variable {rs rl rw rs' rl' rw':Int}{sh sh':Nat→Shaft}{n n' m:Nat}{T T':Nat→Bool}
theorem ylb(rs rl rw:Int)(sh:Nat→Shaft)(n:Nat)(hm:0<m):yFb n (setsX rs rl rw sh n m) fun s=>ofE (setsX rs rl rw sh n m) (evs (setsX rs rl rw sh n m) (setsX rs rl rw sh n m).length 0) s where
 asc:=fun x hx=>(setsX_iff.1 hx).1
 some:=fun x hx e=>by have:=(setsX_iff.1 hx).2.2.1;rw[e] at this;simp at this;omega
 less:=fun x hx=>(setsX_iff.1 hx).2.1
 of:=fun s x=>ofE_iff
theorem yEa(hm:0<m)(T:Nat→Bool):FreeR (setsX rs rl rw sh n m) T (zgc rs rl rw sh n m T)∧Split (zgc rs rl rw sh n m T):=
 yBa (ylb rs rl rw sh n hm) T n (Nat.le_refl _) T [] [] (fun a ha=>by omega) (fun a h=>h) (fun x hx=>by cases hx) ⟨fun x hx=>(by cases hx),List.Pairwise.nil⟩ ⟨fun x hx=>(by cases hx),List.Pairwise.nil⟩
theorem shareX_best(hm:0<m){R:List (List Nat)}(hR:FreeR (setsX rs rl rw sh n m) T R)(hS:Split R):geL (zgc rs rl rw sh n m T) R:=by have:=(yCa (ylb rs rl rw sh n hm) n (Nat.le_refl _) T [] [] (fun a ha=>by omega)).2 R hR hS;rw[List.nil_append] at this;exact this
theorem geL_len{E C:List (List Nat)}(h:geL E C):C.length≤E.length:=by
 rcases h with h|h
 ·omega
 ·exact Nat.le_of_eq h.1
theorem yTa(hm:0<m){R:List (List Nat)}(hR:FreeR (setsX rs rl rw sh n m) T R)(hp:R.Pairwise fun x y=>∀ a,a∈x→a∉y):R.length≤(zgc rs rl rw sh n m T).length:=by obtain⟨R',h1,h2,h3⟩:=split_of (ylb rs rl rw sh n hm) hR hp;rw[←h1];exact geL_len (shareX_best hm h2 h3)
theorem nearOf_symm(x y:Shaft)(w:Nat)(h:yY rs rl rw x y w=1):yY rs rl rw y x w=1:=by unfold yY at h ⊢;rw[nearZ_one] at h ⊢;exact⟨h.2,h.1⟩
theorem pairZ_symm(x y:Shaft)(h:pairZ rs rl rw x y=1):pairZ rs rl rw y x=1:=by rw[pairZ_one] at h ⊢;exact fun w hw=>nearOf_symm _ _ _ (h w hw)
theorem matchZ_pairs{x:List Nat}:zoc rs rl rw sh (fun k=>x.getD k 0) x.length=1↔x.Pairwise fun a b=>pairZ rs rl rw (sh a) (sh b)=1:=by
 unfold zoc;rw[listZ_one,List.pairwise_iff_getElem];have e:∀(i:Nat) (hi:i<x.length),x.getD i 0=x[i]:=fun i hi=>by rw[List.getD_eq_getElem?_getD,List.getElem?_eq_getElem hi];rfl
 constructor
 ·intro h j i hj hi hji;have:=h j i hji hi;rwa [e j hj,e i hi] at this
 ·intro h j i hji hi;have hj:j<x.length:=by omega
  rw[e j hj,e i hi];exact h j i hj hi hji
theorem yz{x:List Nat}:x∈setsX rs rl rw sh n m↔x.Pairwise (· < ·)∧(∀ k,k∈x→k<n)∧x.length=m∧x.Pairwise fun a b=>pairZ rs rl rw (sh a) (sh b)=1:=by rw[setsX_iff,matchZ_pairs]
def sortN(x:List Nat):List Nat:=x.mergeSort fun a b=>decide (a≤b)
theorem yI(x:List Nat):(sortN x).Perm x:=List.mergeSort_perm _ _
theorem sortN_le(x:List Nat):(sortN x).Pairwise (·≤·):=by have:=List.pairwise_mergeSort (le:=fun a b:Nat=>decide (a≤b)) (fun a b c h1 h2=>by simp only[decide_eq_true_eq] at *;omega) (fun a b=>by simp only[Bool.or_eq_true,decide_eq_true_eq];omega) x;exact this.imp fun{a b} h=>of_decide_eq_true h
theorem sortN_lt{x:List Nat}(h:x.Pairwise (·≠·)):(sortN x).Pairwise (· < ·):=by have h1:(sortN x).Pairwise (·≠·):=((yI x).pairwise_iff (fun{a b} (h:a≠b)=>h.symm)).2 h;exact((sortN_le x).and h1).imp fun{a b} h=>by have:=h.1;have:=h.2;omega
theorem yF(hm:0<m){φ:Nat→Nat}(hφ:∀ a,a<n→T a=false→φ a<n'∧T' (φ a)=false)(inj:∀ a b,a<n→b<n→T a=false→T b=false→φ a=φ b→a=b)
  (hp:∀ a b,a<n→b<n→a≠b→T a=false→T b=false→pairZ rs rl rw (sh a) (sh b)=1→pairZ rs' rl' rw' (sh' (φ a)) (sh' (φ b))=1):(zgc rs rl rw sh n m T).length≤(zgc rs' rl' rw' sh' n' m T').length:=by
 obtain⟨h1,h2⟩:=yEa (rs:=rs) (rl:=rl) (rw:=rw) (sh:=sh) (n:=n) hm T;generalize zgc rs rl rw sh n m T=R at h1 h2;have e:R.length=(R.map fun x=>sortN (x.map φ)).length:=by simp
 rw[e];have hmem:∀(x:List Nat) b,b∈sortN (x.map φ)↔∃ a,a∈x∧φ a=b:=fun x b=>by rw[(yI _).mem_iff,List.mem_map]
 refine yTa hm (fun y hy=>?_) ?_
 ·obtain⟨x,hx,rfl⟩:=List.mem_map.1 hy;obtain⟨x1,x2⟩:=h1 x hx;obtain⟨p1,p2,p3,p4⟩:=yz.1 x1;refine⟨yz.2 ⟨sortN_lt ?_,fun k hk=>?_,by rw[(yI _).length_eq,List.length_map,p3],?_⟩,fun b hb=>?_⟩
  ·rw[List.pairwise_map];exact p1.imp_of_mem fun{a b} ha hb hab e=>by have:=inj a b (p2 a ha) (p2 b hb) (x2 a ha) (x2 b hb) e;omega
  ·obtain⟨a,ha,rfl⟩:=(hmem x k).1 hk;exact(hφ a (p2 a ha) (x2 a ha)).1
  ·refine((yI _).pairwise_iff (fun{a b} h=>pairZ_symm _ _ h)).2 ?_;rw[List.pairwise_map];exact(p1.and p4).imp_of_mem fun{a b} ha hb hab=>hp a b (p2 a ha) (p2 b hb) (by have:=hab.1;omega) (x2 a ha) (x2 b hb) hab.2
  ·obtain⟨a,ha,rfl⟩:=(hmem x b).1 hb;exact(hφ a (p2 a ha) (x2 a ha)).2
 ·rw[List.pairwise_map];refine h2.imp_of_mem fun{x y} hx hy hxy b hb hb'=>?_
  obtain⟨a,ha,rfl⟩:=(hmem x b).1 hb;obtain⟨a',ha',e'⟩:=(hmem y _).1 hb';obtain⟨x1,x2⟩:=h1 x hx;obtain⟨y1,y2⟩:=h1 y hy;have:=inj a' a ((yz.1 y1).2.1 a' ha') ((yz.1 x1).2.1 a ha) (y2 a' ha') (x2 a ha) e';subst this;exact hxy.2 _ ha ha'
theorem share_without(hm:0<m)(k:Nat):(zgc rs rl rw sh n m fun _=>false).length≤(zgc rs rl rw sh n m fun j=>decide (j=k)).length+1 ∧
  ((∀ x,x∈zgc rs rl rw sh n m (fun _=>false)→k∉x)→(zgc rs rl rw sh n m fun _=>false).length≤(zgc rs rl rw sh n m fun j=>decide (j=k)).length):=by
 obtain⟨h1,h2⟩:=yEa (rs:=rs) (rl:=rl) (rw:=rw) (sh:=sh) (n:=n) hm fun _=>false
 generalize zgc rs rl rw sh n m (fun _=>false)=R at h1 h2;have key:∀ R':List (List Nat),FreeR (setsX rs rl rw sh n m) (fun _=>false) R'→Split R'→(∀ x,x∈R'→k∉x)→R'.length≤(zgc rs rl rw sh n m fun j=>decide (j=k)).length:=fun R' g1 g2 g3=>
  yTa hm (fun x hx=>⟨(g1 x hx).1,fun a ha=>decide_eq_false fun e=>by subst e;exact g3 x hx ha⟩) (g2.imp fun{x y} h=>h.2)
 refine⟨?_,fun h=>key R h1 h2 h⟩;have hf:=key (R.filter fun x=>decide (k∉x)) (fun x hx=>h1 x (List.mem_filter.1 hx).1) (h2.filter _) (fun x hx=>of_decide_eq_true (List.mem_filter.1 hx).2);have hc:R.length≤(R.filter fun x=>decide (k∉x)).length+1:=by
  clear hf key h1
  induction R with
  |nil=>simp
  |cons x R ih=>
   have h2':=List.pairwise_cons.1 h2;by_cases hk:k∈x
   ·have:R.filter (fun x=>decide (k∉x))=R:=List.filter_eq_self.2 fun y hy=>decide_eq_true ((h2'.1 y hy).2 k hk)
    rw[List.filter_cons_of_neg (by simp[hk]),this];simp
   ·rw[List.filter_cons_of_pos (by simp[hk])];have:=ih h2'.2;simp only[List.length_cons];omega
 omega
end
end
section
open Go.RowKit Go.Cx Go.Conc
def atR(x:Shaft)(R:Nat→Int):Nat→Shaft
 |0=>x
 |v+1=>yE (atR x R v) v (R v) (R v)
section
variable {rs rl rw many:Int}{n:Nat}{sh:Nat→Shaft}{R:Nat→Nat→Int}
theorem meas_ok(hst:zxa rs rl rw many n sh){k m:Nat}{x0 x1:Int}(hk:k<n)(hm:m<3)(h:yfb sh k m x0 x1):zxa rs rl rw many n (putSh sh k m (max (spanA (sh k) m) x0) (min (spanB (sh k) m) x1)):=by have h3:=(hst.each k hk).spans.least m hm;have h4:=(hst.each k hk).spans.most m hm;have h2:=h.2;refine hst.put hm ?_ h2 ?_<;>omega
theorem meas_narrow(hst:zxa rs rl rw many n sh){k m:Nat}{x0 x1:Int}(hm:m<3):∀ j,j<n→∀ y,y<3→spanA (sh j) y≤spanA (putSh sh k m (max (spanA (sh k) m) x0) (min (spanB (sh k) m) x1) j) y∧spanB (putSh sh k m (max (spanA (sh k) m) x0) (min (spanB (sh k) m) x1) j) y≤spanB (sh j) y:=by
 intro j hj y hy;rw[yIb hm hy,yHb hm hy];split
 ·next h=>obtain⟨rfl,rfl⟩:=h;omega
 ·omega
end
section
variable {rs rl rw many r:Int}{A:Option Addr}{n c lo i0 v0:Nat}{T:Nat→Shaft}
end
end
section
open Go.RowKit
def fewSh(sh:Nat→Shaft)(k j:Nat):Shaft:=sh (if j<k then j else j+1)
def yn(sh:Nat→Shaft)(n:Nat)(x:Shaft)(j:Nat):Shaft:=if j<n then sh j else x
section
variable {rs rl rw rs' rw' many:Int}{sh sh':Nat→Shaft}{n k m:Nat}
theorem zxa.fewer(h:zxa rs rl rw many n sh)(hk:k<n):zxa rs rl rw many (n-1) (fewSh sh k) where
 rule:=h.rule
 count:=by have:=h.count;omega
 each:=fun j hj=>h.each _ (by split<;>omega)
 once:=fun i j hij hj=>h.once _ _ (by split<;>split<;>omega) (by split<;>omega)
theorem zxa.wider(h:zxa rs rl rw many n sh)(h1:0≤rs')(h2:rs'≤9999)(h3:0≤rw')(h4:rw'≤9999):zxa rs' rl rw' many n sh where
 rule:=⟨h1,h2,h.rule.l0,h.rule.l1,h3,h4,h.rule.m0,h.rule.m1⟩
 count:=h.count
 each:=h.each
 once:=h.once
theorem ySa(hm:0<m)(T:Nat→Bool):(zgc rs rl rw sh n m T).length≤(zgc rs rl rw sh n m fun _=>false).length:=
 yF (φ:=fun a=>a) hm (fun a ha _=>⟨ha,rfl⟩) (fun a b _ _ _ _ e=>e) fun a b _ _ _ _ _ h=>h
theorem share_fewer(hm:0<m)(hk:k<n):(zgc rs rl rw (fewSh sh k) (n-1) m fun _=>false).length=(zgc rs rl rw sh n m (updT (fun _=>false) k)).length:=by
 have hT:∀ a,updT (fun _=>false) k a=false↔a≠k:=fun a=>by unfold updT;by_cases e:a=k<;>simp[e]
 refine Nat.le_antisymm ?_ ?_
 ·refine yF (φ:=fun j=>if j<k then j else j+1) hm (fun a ha _=>⟨by split<;>omega,(hT _).2 (by split<;>omega)⟩) (fun a b ha hb _ _ e=>?_) fun a b ha hb hab _ _ h=>h
  revert e
  try simp only
  split<;>split<;>omega
 ·refine yF (φ:=fun a=>if a<k then a else a-1) hm (fun a ha h=>⟨by have:=(hT a).1 h;split<;>omega,rfl⟩) (fun a b ha hb h1 h2 e=>?_) fun a b ha hb hab h1 h2 h=>?_
  ·have h1:=(hT a).1 h1;have h2:=(hT b).1 h2
   revert e
   try simp only
   split<;>split<;>omega
  ·have h1:=(hT a).1 h1;have h2:=(hT b).1 h2;have key:∀ c,c≠k→fewSh sh k (if c<k then c else c-1)=sh c:=fun c hc=>by
    unfold fewSh
    congr 1
    split
    ·simp_all
    ·next h=>rw[if_neg (by omega)];omega
   rw[key a h1,key b h2];exact h
theorem share_more(hm:0<m)(x:Shaft):(zgc rs rl rw sh n m fun _=>false).length≤(zgc rs rl rw (yn sh n x) (n+1) m fun _=>false).length:=
 yF (φ:=fun a=>a) hm (fun a ha _=>⟨by omega,rfl⟩) (fun a b _ _ _ _ e=>e) fun a b ha hb _ _ _ h=>by unfold yn;rw[if_pos ha,if_pos hb];exact h
theorem yRa(hm:0<m)(h:∀ x y w,w<3→yY rs rl rw (sh x) (sh y) w=1→x<n→y<n→yY rs' rl rw' (sh' x) (sh' y) w=1):(zgc rs rl rw sh n m fun _=>false).length≤(zgc rs' rl rw' sh' n m fun _=>false).length:=
 yF (φ:=fun a=>a) hm (fun a ha _=>⟨ha,rfl⟩) (fun a b _ _ _ _ e=>e) fun a b ha hb _ _ _ h'=>by rw[pairZ_one] at h' ⊢;exact fun w hw=>h a b w hw (h' w hw) ha hb
theorem share_wider(hm:0<m)(h1:rs≤rs')(h2:rw≤rw'):(zgc rs rl rw sh n m fun _=>false).length≤(zgc rs' rl rw' sh n m fun _=>false).length:=
 yRa hm fun x y w hw h _ _=>by
  unfold yY at h ⊢;rw[nearZ_one] at h ⊢;have h3:w=0∨w=1∨w=2:=by omega
  rcases h3 with rfl|rfl|rfl<;>simp only[allowOf] at h ⊢<;>omega
theorem share_narrow(hm:0<m)(h:∀ j,j<n→∀ y,y<3→spanA (sh j) y≤spanA (sh' j) y∧spanB (sh' j) y≤spanB (sh j) y):(zgc rs rl rw sh n m fun _=>false).length≤(zgc rs rl rw sh' n m fun _=>false).length:=
 yRa hm fun x y w hw h' hx hy=>by unfold yY at h' ⊢;rw[nearZ_one] at h' ⊢;have h1:=h x hx w hw;have h2:=h y hy w hw;omega
theorem share_one_less(hm:0<m):(zgc rs rl rw sh n m fun _=>false).length≤(zgc rs rl rw sh n m (updT (fun _=>false) k)).length+1 ∧
  (k∈leftL n (zgc rs rl rw sh n m fun _=>false)→(zgc rs rl rw sh n m fun _=>false).length=(zgc rs rl rw sh n m (updT (fun _=>false) k)).length):=by
 have e:(updT (fun _=>false) k)=fun j=>decide (j=k):=by funext j;unfold updT;by_cases h:j=k<;>simp[h]
 have h:=share_without (rs:=rs) (rl:=rl) (rw:=rw) (sh:=sh) (n:=n) hm k;have hl:=ySa (rs:=rs) (rl:=rl) (rw:=rw) (sh:=sh) (n:=n) hm (updT (fun _=>false) k);rw[←e] at h;refine⟨h.1,fun hk=>?_⟩;have h2:=h.2 fun x hx hkx=>by have:=of_decide_eq_true (List.mem_filter.1 hk).2;exact this (List.mem_flatten.2 ⟨x,hx,hkx⟩)
 omega
theorem yK{sh sh':Nat→Shaft}:∀{n:Nat},(∀ k,k<n→sh k=sh' k)→shVs sh n=shVs sh' n
 |0,_=>rfl
 |n+1,h=>by rw[shVs,shVs,yK fun k hk=>h k (by omega),h n (by omega)]
theorem shVs_add(sh:Nat→Shaft)(a:Nat):∀ b,shVs sh (a+b)=shVs sh a++shVs (fun j=>sh (a+j)) b
 |0=>by simp[shVs]
 |b+1=>by rw[←Nat.add_assoc];show shVs sh (a+b)++shaftCs (sh (a+b))=shVs sh a++(shVs (fun j=>sh (a+j)) b++shaftCs (sh (a+b)));rw[shVs_add sh a b,List.append_assoc]
theorem shVs_fewer(hk:k<n):shVs sh k++shVs (fun j=>sh (k+1+j)) (n-k-1)=shVs (fewSh sh k) (n-1):=by
 have e:n-1=k+(n-k-1):=by omega
 rw[e,shVs_add]
 congr 1
 ·exact yK fun j hj=>by unfold fewSh;rw[if_pos hj]
 ·refine yK fun j hj=>?_
  unfold fewSh;rw[if_neg (by omega)]
  congr 1
  omega
theorem shVs_more(x:Shaft):shVs sh n++shaftCs x=shVs (yn sh n x) (n+1):=by
 show _=shVs (yn sh n x) n++shaftCs (yn sh n x n)
 congr 1
 ·exact yK fun j hj=>by unfold yn;rw[if_pos hj]
 ·unfold yn;rw[if_neg (Nat.lt_irrefl n)]
end
end
section
open Go.RowKit
theorem Without_fair(rs rl rw:Int)(m:Nat)(A:Option Addr)(n c k:Nat)(sh:Nat→Shaft)(W:World)(hk:k<n)(hc:n≤c)(hsh:Hid (zA W A n sh))(hst:zxa rs rl rw m n sh) :
  CallsIn Fc 0 Tryz.prog 28 #[zga rs rl rw m A n c,.int .i64 k] W (fun e w'=>e=.returned (.tuple #[.int .i64 ((zgc rs rl rw sh n m (updT (fun _=>false) k)).length:Nat),.int .i64 0])∧Below W.heap.size W w'):=by
 have hB1:∀ X Y,Below W.heap.size W ((W.alloc X).alloc Y):=fun X Y=>((Below.refl _ _).alloc (Nat.le_refl _) _).alloc (by simp) _
 have HB1:=Lib.hid hB1;have hn9:=hst.count;have HST:=Lib.hid hst;clear hB1 hst;gi_enter Tryz.func28,Tryz.ntmps28;gi_wp2;obtain⟨w2,hw2⟩:∃ w2,w2=(W.alloc (.cells #[.int .i64 rs,.int .i64 rl,.int .i64 rw,.int .i64 m,.slice A n c] 26)).alloc (.cells #[.int .i64 rs,.int .i64 rl,.int .i64 rw,.int .i64 m,.slice A n c] 99):=⟨_,rfl⟩;rw[←hw2];have hb2:Below W.heap.size W w2:=by rw[hw2];exact HB1.out _ _
 have e0:w2.cell? ⟨W.heap.size+1,0,none⟩=some (.int .i64 rs):=by rw[hw2];go_simp
 have e1:w2.cell? ⟨W.heap.size+1,1,none⟩=some (.int .i64 rl):=by rw[hw2];go_simp
 have e2:w2.cell? ⟨W.heap.size+1,2,none⟩=some (.int .i64 rw):=by rw[hw2];go_simp
 have e3:w2.cell? ⟨W.heap.size+1,3,none⟩=some (.int .i64 m):=by rw[hw2];go_simp
 have e4:w2.cell? ⟨W.heap.size+1,4,none⟩=some (.slice A n c):=by rw[hw2];go_simp
 have HB2:=Lib.hid hb2;clear hw2 hb2;refine zsa (R:=[.val 11 (zga rs rl rw m A n c),.val 12 (.func (.func 56) #[zga rs rl rw m A n c] #[]),.val 13 (zga rs rl rw m A n c),.val 14 (.int .i64 k),.any 15,.any 16,.val 17 (.int .i64 0),.val 7 (.int .i64 0)])
  (I:=fun Lb V w=>Below w2.heap.size w2 w∧(Lb 4=true→∃ sp ip,V 4=.func (.func 123) #[] #[ptr sp,ptr ip]∧yxa w sp ip rs rl rw m A n c k)∧(Lb 5=true→∃ g,V 5=.slice (some ⟨g,0,none⟩) 2 2∧∀ k,k<2→∃ v,w.cell? ⟨g,k,none⟩=some v∧yg v ((0:Int)) w)) (z:=28) (by kernel_rfl) (by kernel_rfl) rfl (by kernel_rfl) rfl rfl ⟨(Below.refl _ _).drew,(fun h=>by cases h),fun h=>by cases h⟩ ?_ ?_
 ·intro j Lb V a w hj hno hdep hah hd0 hz hold hv hV hI;have HI:=Lib.hid hI;have s1:=zc hz (hold 1 (by kernel_rfl)) (by omega);have s6:=zc hz (hold 6 (by kernel_rfl)) (by omega);clear hold;have f0:=Below.old HI.out.1 e0;have f1:=Below.old HI.out.1 e1;have f2:=Below.old HI.out.1 e2;have f3:=Below.old HI.out.1 e3;have f4:=Below.old HI.out.1 e4;have hjs:j=0∨j=1∨j=2∨j=3∨j=4∨j=5∨j=6∨j=7:=by have:j<8:=hj;omega
  rcases hjs with rfl|rfl|rfl|rfl|rfl|rfl|rfl|rfl
  ·clear hdep hah hv hV hno hI;refine wpOpIn_step rfl fun K hK=>?_
   go_simp;exact hK _ _ ⟨rfl,rfl,HI.out⟩
  ·have f11:=zc hz (hv 0 11 _ (by kernel_rfl) rfl) (by omega);clear hdep hah hv hV hno hI;refine wpOpIn_step rfl fun K hK=>?_
   go_simp;exact hK _ _ ⟨rfl,rfl,HI.out⟩
  ·clear hdep hah hv hV hno hI;refine wpOpIn_step rfl fun K hK=>?_
   go_simp;exact hK _ _ ⟨rfl,rfl,HI.out⟩
  ·clear hdep hah hv hV hno hI;refine wpOpIn_step rfl fun K hK=>?_
   go_simp;exact hK _ _ ⟨rfl,rfl,HI.out⟩
  ·have f13:=zc hz (hv 2 13 _ (by kernel_rfl) rfl) (by omega);have f14:=zc hz (hv 3 14 _ (by kernel_rfl) rfl) (by omega);have h5:=hah 5 (by kernel_rfl) rfl;clear hdep hah hv hV hno hI;refine wpOpIn_step rfl fun K hK=>?_
   go_simp;refine(ywa rs rl rw m A n c k w).mono ?_;rintro e w' ⟨sp,ip,rfl,hbox,hb'⟩;exact hK _ _ ⟨rfl,_,rfl,HI.out.1.trans (hb'.mono HI.out.1.size),fun _=>⟨sp,ip,rfl,hbox⟩,fun h=>by rw[show updB Lb 4 5=Lb 5 from rfl,h5] at h;cases h⟩
  ·have f12:=zc hz (hv 1 12 _ (by kernel_rfl) rfl) (by omega);have k4:=hdep 4 (by kernel_rfl) rfl;obtain⟨sp,ip,ev4,hbox⟩:=HI.out.2.1 k4;have f15:=zc hz ((hV 4 15 rfl).trans ev4) (by omega);clear hdep hah hv hno hI;refine wpOpIn_step rfl fun K hK=>?_
   go_simp;have hb':Below w.heap.size w (w.alloc (.cells #[.func (.func 56) #[zga rs rl rw m A n c] #[],.func (.func 123) #[] #[ptr sp,ptr ip]] 101)):=(Below.refl _ _).alloc (Nat.le_refl _) _;refine hK _ _ ⟨rfl,_,rfl,HI.out.1.trans (hb'.mono HI.out.1.size),fun _=>⟨sp,ip,ev4,hbox.below hb'⟩,fun _=>⟨w.heap.size,rfl,fun kk hkk=>?_⟩⟩;rcases(by omega:kk=0∨kk=1) with rfl|rfl
   ·exact⟨_,by simp,.inl ⟨56,_,by simp,rfl,fun w' hw=>yrb rs rl rw m A n c sh w' hc HST (Lib.hid (hsh.out.below ((HB2.out.trans ((HI.out.1.trans (hb'.mono HI.out.1.size)).mono HB2.out.size)).trans (hw.mono (by have:=HB2.out.size;have:=HI.out.1.size;simp;omega)))))⟩⟩
   ·exact⟨_,by simp,(hbox.is hn9 hk).below hb'⟩
  ·have k5:=hdep 5 (by kernel_rfl) rfl;obtain⟨g,ev5,hall⟩:=HI.out.2.2 k5;have f16:=zc hz ((hV 5 16 rfl).trans ev5) (by omega);clear hdep hah hv hV hno hI;refine wpOpIn_step rfl fun K hK=>?_
   go_simp;refine(yda g 2 2 (fun _=>0) w (by omega) (Lib.hid hall)).mono ?_;rintro e w' ⟨f,rfl,hf,hb'⟩;rw[show firstZ (fun _=>(0:Int)) 2=0 from rfl] at hf;subst hf;refine hK _ _ ⟨rfl,rfl,HI.out.1.trans (hb'.mono HI.out.1.size),fun h=>?_,fun h=>?_⟩
   ·obtain⟨sp,ip,h1,h2⟩:=HI.out.2.1 h;exact⟨sp,ip,h1,h2.below hb'⟩
   ·obtain⟨g',h1,h2⟩:=HI.out.2.2 h;refine⟨g',h1,fun k hk=>?_⟩;obtain⟨v,q1,q2⟩:=h2 k hk;exact⟨v,Below.old hb' q1,q2.below hb'⟩
  ·have f17:=zc hz (hv 6 17 _ (by kernel_rfl) rfl) (by omega);clear hdep hah hv hV hno hI;refine wpOpIn_step rfl fun K hK=>?_
   go_simp;exact hK _ _ ⟨rfl,rfl,HI.out⟩
 intro Lb V w5 hL hI;have HB5:=Lib.hid (HB2.out.trans (hI.1.mono HB2.out.size));have f0:=Below.old hI.1 e0;have f1:=Below.old hI.1 e1;have f2:=Below.old hI.1 e2;have f3:=Below.old hI.1 e3;have f4:=Below.old hI.1 e4;clear hI hL e0 e1 e2 e3 e4;obtain⟨x15,hx15⟩:∃ x,V (0+1+1+1+1)=x:=⟨_,rfl⟩;obtain⟨x16,hx16⟩:∃ x,V (0+1+1+1+1+1)=x:=⟨_,rfl⟩;simp only[outsG,List.foldl_cons,List.foldl_nil,List.setIfInBounds_toArray,List.set_cons_succ,List.set_cons_zero];rw[hx15,hx16];clear hx15 hx16;have hk9:k<9:=by omega
 have hcd:=fun w (hb:Below W.heap.size W w)=>yQa rs rl rw m A n c sh w HST (Lib.hid (hsh.out.below hb))
 have HCD:=Lib.hid hcd;have hbt:∀ X,Below W.heap.size W (w5.alloc X):=fun X=>HB5.out.alloc HB5.out.size X
 have HBT:=Lib.hid hbt;clear hcd hbt;gi_wp2;have elit:([Value.bool false,.bool false,.bool false,.bool false,.bool false,.bool false,.bool false,.bool false,.bool false].set k (.bool true)).toArray=tkCells (updT (fun _=>false) k):=by rcases(by omega:k=0∨k=1∨k=2∨k=3∨k=4∨k=5∨k=6∨k=7∨k=8) with rfl|rfl|rfl|rfl|rfl|rfl|rfl|rfl|rfl<;>rfl
 rw[elit];clear elit;obtain⟨T1,hT1⟩:∃ T1,updT (fun _=>false) k=T1:=⟨_,rfl⟩;rw[hT1];have HT1:=Lib.hid hT1;clear hT1;obtain⟨M,hM⟩:∃ M,zgc rs rl rw sh n m T1=M:=⟨_,rfl⟩;have HM:=Lib.hid hM;obtain⟨w6,hw6⟩:∃ w6,w6=w5.alloc (.cells (tkCells T1) 127):=⟨_,rfl⟩;rw[←hw6];have htk:w6.heap[w5.heap.size]? = some (.cells (tkCells T1) 127 (0,0)):=by rw[hw6];exact zG rfl
 have hb6:Below W.heap.size W w6:=by rw[hw6];exact HBT.out _
 have hlt5:w5.heap.size<w6.heap.size:=by rw[hw6];simp
 have hb56:Below w5.heap.size w5 w6:=by rw[hw6];exact(Below.refl _ _).alloc (Nat.le_refl _) _
 have e0:=Below.old hb56 f0;have e1:=Below.old hb56 f1;have e2:=Below.old hb56 f2;have e3:=Below.old hb56 f3;have e4:=Below.old hb56 f4;have HTK:=Lib.hid htk;have HB6:=Lib.hid hb6;clear htk hb6 hw6 hb56 hM f0 f1 f2 f3 f4;refine zsa (R:=[.val 23 (zga rs rl rw m A n c),.any 24,.val 25 (.agg (tkCells T1)),.any 26,.val 27 (.int .i64 (M.length:Nat)),.val 4 (.int .i64 (M.length:Nat)),.val 5 (.int .i64 0)])
  (I:=fun Lb V w=>Below w6.heap.size w6 w∧(Lb 1=true→∃ P,V 1=.agg (ckCells rs rl rw m A n c P)∧zPb P n m T1=M)∧(Lb 3=true→∃ LA lc,V 3=.slice LA M.length lc)) (z:=28) (by kernel_rfl) (by kernel_rfl) rfl (by kernel_rfl) rfl rfl ⟨(Below.refl _ _).drew,(fun h=>by cases h),fun h=>by cases h⟩ ?_ ?_
 ·intro j Lb V a w hj hno hdep hah hd0 hz hold hv hV hI;have HI:=Lib.hid hI;have s6:=zc hz (hold 6 (by kernel_rfl)) (by omega);have h8:=hold 8 (by kernel_rfl);clear hold;have f0:=Below.old HI.out.1 e0;have f1:=Below.old HI.out.1 e1;have f2:=Below.old HI.out.1 e2;have f3:=Below.old HI.out.1 e3;have f4:=Below.old HI.out.1 e4;have hjs:j=0∨j=1∨j=2∨j=3∨j=4∨j=5∨j=6:=by have:j<7:=hj;omega
  rcases hjs with rfl|rfl|rfl|rfl|rfl|rfl|rfl
  ·clear hdep hah hv hV hno hI;refine wpOpIn_step rfl fun K hK=>?_
   go_simp;exact hK _ _ ⟨rfl,rfl,HI.out⟩
  ·have f23:=zc hz (hv 0 23 _ (by kernel_rfl) rfl) (by omega);have h3:=hah 3 (by kernel_rfl) rfl;clear hdep hah hv hV hno hI;refine wpOpIn_step rfl fun K hK=>?_
   go_simp;refine(HCD.out w (HB6.out.trans (HI.out.1.mono HB6.out.size))).mono ?_;rintro e w' ⟨P,rfl,hP,hb'⟩;exact hK _ _ ⟨rfl,_,rfl,HI.out.1.trans (hb'.mono HI.out.1.size),fun _=>⟨P,rfl,(yyb hP T1).trans HM.out⟩,fun h=>by rw[show updB Lb 1 3=Lb 3 from rfl,h3] at h;cases h⟩
  ·refine yP rfl rfl _ rfl _ _ (h8.trans rfl) ((HI.out.1.block _ hlt5).trans HTK.out) rfl ?_;exact⟨hd0,rfl,HI.out⟩
  ·have k1:=hdep 1 (by kernel_rfl) rfl;obtain⟨P,ev1,hPM⟩:=HI.out.2.1 k1;have f24:=zc hz ((hV 1 24 rfl).trans ev1) (by omega);have f25:=zc hz (hv 2 25 _ (by kernel_rfl) rfl) (by omega);clear hdep hah hv hV hno hI;refine wpOpIn_step rfl fun K hK=>?_
   go_simp;refine(yxb rs rl rw A n c P m T1 w hn9).mono ?_;rintro e w' ⟨v,rfl,hl,hf,hb'⟩;rw[hPM] at hl;obtain⟨LA,lc,rfl,_⟩:=hl.read;exact hK _ _ ⟨rfl,_,rfl,HI.out.1.trans (hb'.mono HI.out.1.size),fun _=>⟨P,ev1,hPM⟩,fun _=>⟨LA,lc,rfl⟩⟩
  ·have k3:=hdep 3 (by kernel_rfl) rfl;obtain⟨LA,lc,ev3⟩:=HI.out.2.2 k3;have f26:=zc hz ((hV 3 26 rfl).trans ev3) (by omega);clear hdep hah hv hV hno hI;refine wpOpIn_step rfl fun K hK=>?_
   go_simp;exact hK _ _ ⟨rfl,rfl,HI.out⟩
  ·have f27:=zc hz (hv 4 27 _ (by kernel_rfl) rfl) (by omega);clear hdep hah hv hV hno hI;refine wpOpIn_step rfl fun K hK=>?_
   go_simp;exact hK _ _ ⟨rfl,rfl,HI.out⟩
  ·clear hdep hah hv hV hno hI;refine wpOpIn_step rfl fun K hK=>?_
   go_simp;exact hK _ _ ⟨rfl,rfl,HI.out⟩
 intro Lb V w7 hL hI;have HB7:=Lib.hid (HB6.out.trans (hI.1.mono HB6.out.size));clear hI hL e0 e1 e2 e3 e4;simp only[outsG,List.foldl_cons,List.foldl_nil,List.setIfInBounds_toArray,List.set_cons_succ,List.set_cons_zero];gi_wp2
 go_ret2
 exact⟨by rw[HT1.out,HM.out];rfl,HB7.out⟩
end
section
open Go.RowKit
theorem yZ(rs rl rw:Int)(m:Nat)(A:Option Addr)(n c:Nat)(sh:Nat→Shaft)(W:World)(hc:n≤c)(hsh:Hid (zA W A n sh))(hst:zxa rs rl rw m n sh) :
  CallsIn Fc 0 Tryz.prog 45 #[zga rs rl rw m A n c] W (yH ((zgc rs rl rw sh n m fun _=>false).length:Nat) W):=by
 have hB1:∀ X,Below W.heap.size W (W.alloc X):=fun X=>(Below.refl _ _).alloc (Nat.le_refl _) _
 have HB1:=Lib.hid hB1;have hfill:=fun w (hb:Below W.heap.size W w)=>yGb rs rl rw m A n c sh w hc (Lib.hid (hsh.out.below hb)) hst
 have HFILL:=Lib.hid hfill;clear hfill hst hB1;gi_enter Tryz.func45,Tryz.ntmps45
 gi_wp2_with (gi_at_call 25;refine(HFILL.out _ (HB1.out _)).mono ?_;rintro e w2 ⟨v,u,rfl,hl,hu,hb2⟩;obtain⟨LA,lc,rfl,hlc,_⟩:=hl.read;have HB2:=Lib.hid ((HB1.out _).trans (hb2.mono (HB1.out _).size));clear hb2 hl hu)
 go_ret;exact⟨rfl,HB2.out⟩
end
section
open Go.RowKit Go.Cx Go.Conc
def yQb(P:Program)(o:Op):Prop:=∃(f:FuncId) (args:Array Operand) (ats:Array TypeId) (fn:Func),o=.call {callee:=.value (.func f),args,argTypes:=ats}∧P.funcs[f]? = some fn∧(fn.name == "runtime.NumGoroutine")=false∧fn.body.isNone=false
section
variable {F:Fence}{n:Nat}{P:Program}{Post:Act→World→Prop}{a:Act}{w:World}{b:Frame}{k:List Item}{cs:List Frame}
theorem comes_call{ops:Array Oper}{i:Nat}{l:List Nat}{o:Oper}{S:FuncId}{args:Array Value}{w1:World}{next:Act→World→Prop}(ho:ops[i]? = some o)(hw:Region.wanted o (yielded ops a.tmps)=true)(hro:b.roundOf=F.round)(hb:F.fn b.fn)(hr:F.room (cs.length+1+n))
  (hrun:(o.semAt F.round a.eval).run P w=.ok (.enter S args) w1) (h:o.wpIn F n P a w next (zJb Post)) :
  ∃ v w2,next (a.put o.dst v) w2∧Comes F P b cs a (.inRegion ops (i::l)::k) w (a.put o.dst v) (.inRegion ops l::k) w2:=by
 obtain⟨hab,h⟩:=h;rw[hrun] at h;simp only[Oper.uponIn] at h;obtain⟨hn,hF,h⟩:=h;have h0:(lone (b.atR a (.inRegion ops (i::l)::k)) cs w).fenced P F:=fenced_oper hb hr ho hab;have hg:=stepGR_op (P:=P) (b:=b) (k:=k) (cs:=cs) (w:=w) (rest:=l) ho hw;rw[hro] at hg;have hroom:F.room ((b.atR a (.inRegion ops (i::l)::k)::cs).length+1+(n-1)):=Fence.room_enter hr hn;obtain⟨e,w2,fr,hR,hsteps,hfn,hleave⟩:=h (b.atR a (.inRegion ops (i::l)::k)::cs) hroom;have henter:step P (lone (b.atR a (.inRegion ops (i::l)::k)) cs w)=.next (lone (Frame.enter P S args .normal) (b.atR a (.inRegion ops (i::l)::k)::cs) w1):=
  step_lone_go (by rw[hg];simp[stepG.apply,hrun,Frame.atR])
 cases e with
 |returned v=>
  refine⟨v,w2,hR,.head h0 henter (StepsIn.trans hsteps (.one (fenced_leaving (hfn▸hF) hroom hleave) ?_))⟩;have hfin:(b.atR a (.inRegion ops (i::l)::k)).finish v=b.atR (a.put o.dst v) (.inRegion ops l::k):=by rw[Frame.finish_atR,ho];rfl
  rw[←hfin];exact step_leave_returned hleave
 |panicked chain=>exact hR.elim
 |outgrown=>obtain⟨_,_,hq⟩:=hR;exact hq.elim
theorem comes_list{ops:Array Oper}(l:List Oper):∀(i:Nat) (rest:List Nat) (a:Act) (w:World),(∀ j,j<l.length→ops[i+j]? = l[j]?)→(∀ o∈l,reckons o.op=true∨yQb P o.op) →
  wpListIn F n P ops (zJb Post) l a w→b.roundOf=F.round→F.fn b.fn→F.room (cs.length+1+n) →
  ∃ a' w',Post a' w'∧Comes F P b cs a (.inRegion ops (List.range' i l.length++rest)::k) w a' (.inRegion ops rest::k) w':=by
 induction l with
 |nil=>exact fun i rest a w _ _ h _ _ _=>⟨a,w,h,.refl _⟩
 |cons o l ih=>
  intro i rest a w hops hall h hro hb hr;have ho:ops[i]? = some o:=by simpa using hops 0 (by simp)
  have hops':∀ j,j<l.length→ops[i+1+j]? = l[j]?:=fun j hj=>by have:=hops (j+1) (by simp;omega);simpa[Nat.add_assoc,Nat.add_comm 1 j] using this
  have hall':∀ o∈l,reckons o.op=true∨yQb P o.op:=fun o ho=>hall o (List.mem_cons_of_mem _ ho)
  rw[List.length_cons,List.range'_succ,List.cons_append];simp only[wpListIn] at h;by_cases hw:Region.wanted o (yielded ops a.tmps)=true
  ·rw[if_pos hw] at h;rcases hall o (List.mem_cons_self ..) with hrk|⟨f,args,ats,fn,hop,hf,hname,hbody⟩
   ·have h1:wpListIn F n P ops (zJb fun a w=>wpListIn F n P ops (zJb Post) l a w) [o] a w:=by
     simp only[wpListIn];rw[if_pos hw];refine⟨h.1,?_⟩;have h2:=h.2
     revert h2
     have hsem:o.semAt F.round a.eval=execOp a.eval o:=Oper.semAt_eq _ _ _ fun c hc=>by rw[hc] at hrk;exact absurd hrk (by simp[reckons])
     rw[hsem];rcases yFa hrk P w a.eval with⟨v,w1,hrun⟩|⟨x,w1,hrun⟩
     ·rw[hrun];exact fun h=>h
     ·rw[hrun];cases x<;>exact fun h=>h
    obtain⟨a1,w1,h2,h3⟩:=comes_pre (b:=b) (cs:=cs) (k:=k) (ops:=ops) [o] i (List.range' (i+1) l.length++rest) a w (fun j hj=>by simp at hj;subst hj;simpa using ho) (by simpa using hrk) h1 hro hb hr;obtain⟨a',w',hp,hs⟩:=ih (i+1) rest a1 w1 hops' hall' h2 hro hb hr;exact⟨a',w',hp,StepsIn.trans (by simpa using h3) hs⟩
   ·have hsem:o.semAt F.round a.eval=execOp a.eval o:=Oper.semAt_eq _ _ _ fun c hc=>by rw[hop] at hc;cases hc
    obtain⟨v,w2,h2,h3⟩:=comes_call (l:=List.range' (i+1) l.length++rest) ho hw hro hb hr (by rw[hsem];exact run_call_body hop hf hname hbody) h;obtain⟨a',w',hp,hs⟩:=ih (i+1) rest _ w2 hops' hall' h2 hro hb hr;exact⟨a',w',hp,StepsIn.trans h3 hs⟩
  ·rw[if_neg hw] at h;obtain⟨a',w',hp,hs⟩:=ih (i+1) rest _ _ hops' hall' h.2 hro hb hr;have hk:=stepR_op_skip (P:=P) (b:=b) (a:=a) (k:=k) (cs:=cs) (w:=w) (ops:=ops) (i:=i) (rest:=List.range' (i+1) l.length++rest) (by simp[ho];simpa using hw);simp only[ho,Option.bind_some] at hk;exact⟨a',w',hp,.head (fenced_oper hb hr ho h.1) hk hs⟩
theorem yZa{S:Act→List Item→World→Prop}{ops:Array Oper}(t:Nat)(rest:List Nat)(hr2:List.range ops.size=List.range' 0 (ops.toList.take t).length++rest)(hall:∀ o∈ops.toList.take t,reckons o.op=true∨yQb P o.op)(hro:b.roundOf=F.round)(hb:F.fn b.fn)(hr:F.room (cs.length+1+n))
  (h:∀ R:Act→World→Prop,(∀ a' w',Reach F P b cs S a' (.inRegion ops rest::k) w'→R a' w')→wpListIn F n P ops (zJb R) (ops.toList.take t) a w):Reach F P b cs S a (.inRegion ops (List.range ops.size)::k) w:=by
 rw[hr2];obtain⟨a1,w1,⟨a',k',w',h1,h2⟩,h3⟩:=comes_list (b:=b) (cs:=cs) (k:=k) (ops.toList.take t) 0 rest a w (fun j hj=>by rw[Nat.zero_add,List.getElem?_take,if_pos (Nat.lt_of_lt_of_le hj (List.length_take_le ..))];simp) hall (h (fun a' w'=>Reach F P b cs S a' (.inRegion ops rest::k) w') fun a' w' h=>h) hro hb hr;exact⟨a',k',w',h1,h3.trans h2⟩
end
end
section
open Go.RowKit Go.Cx Go.Conc
section
variable {F:Fence}{n:Nat}{P:Program}{ops:Array Oper}{b:Frame}{k:List Item}{cs:List Frame}{S:Act→List Item→World→Prop}{a:Act}{w:World}
end
end
end Go.Proofs.YtpdmgecbapmgdaaGreat
