/- Ground of proofs about package arrow: it says nothing by itself, without a condition. -/
import Derived.Test.YtpdmgecbapmgdaaGreatCx4
import Derived.Conc.WgGenN3
import Derived.Test.YtpdmgecbapmgdaaGreatCx2
import Derived.Calls
import Derived.Test.YtpdmgecbapmgdaaGreatCx1
set_option linter.unusedSectionVars false
set_option linter.unusedSimpArgs false
set_option linter.unusedVariables false
set_option maxHeartbeats 8000000
set_option maxRecDepth 100000
namespace Go.Cx
section
open Go.Conc Go.ConcN
section
variable {Shun:Loc→Prop}{t u:Trace}
theorem PastX.app0(h:PastX Shun t)(hu:∀ op∈u,op.g=0)(hs:∀ op∈u,∀ b,op.act.touch? = some b→¬ Shun b.loc)(hd:Deaf (t++u) 0=Deaf t 0):PastX Shun (t++u):=by
 refine⟨fun said=>noRace_append (h.clean said) hu fun i a ha op hop b hb hc=>?_,fun i a ha hm=>?_,handedOver_app h.over fun op hop=>.inl (hu op hop),hd.trans h.hears⟩
 ·rcases h.known i a ha hc.2.1 with hk|⟨hsa,_⟩
  ·exact hk
  ·exact absurd (hc.1▸hsa) (hs op hop b hb)
 ·obtain⟨x,hx,hxa⟩:=touch_of ha;rcases getElem?_append_cases hx with⟨_,hx'⟩|⟨_,hxu⟩
  ·exact(h.known i a (by rw[touchAt_of hx'];exact hxa) hm).imp (·.app u) id
  ·have:=knows_own hx;rw[hu x hxu] at this;exact .inl this
theorem PastX.appMute{g:Nat}(h:PastX Shun t)(hg:g≠0)(hu:∀ op∈u,op.g=g)(hn:∀ op∈u,op.act.touch? = none):PastX Shun (t++u):=by
 refine⟨fun said=>noRace_append (h.clean said) hu fun i a _ op hop b hb _=>(by rw[hn op hop] at hb;cases hb),fun i a ha hm=>?_,handedOver_app h.over fun op hop=>.inr (hn op hop),(Deaf_other t hg u hu).trans h.hears⟩;obtain⟨x,hx,hxa⟩:=touch_of ha;rcases getElem?_append_cases hx with⟨_,hx'⟩|⟨_,hxu⟩
 ·exact(h.known i a (by rw[touchAt_of hx'];exact hxa) hm).imp (·.app u) id
 ·rw[hn x hxu] at hxa;cases hxa
theorem PastX.mute(h:PastX Shun t){g:Nat}(hg:g≠0){fn:FuncId}{pos:String}{es:Array Event}(hm:∀ e∈es,e.mute=true):PastX Shun (t++MemOp.ofEvents g fn pos es):=
 h.appMute hg (fun op hop=>by obtain⟨e,_,rfl⟩:=Go.Conc.mem_ofEvents hop;rfl) (fun op hop=>by obtain⟨e,he,rfl⟩:=Go.Conc.mem_ofEvents hop;exact touch_mute (hm e he))
structure Clear(Shun M S:Loc→Prop)(w:World):Prop where
 out:∀ l,M l∨S l→¬ Shun l∧∃ b,locBlk l=some b
 old:∀ l,Shun l→∃ b,locBlk l=some b∧b<w.heap.size
theorem Clear.did{M S M':Loc→Prop}{w w':World}{es:Array Event}(h:Clear Shun M S w)(hd:Did M S w w' es M'):Clear Shun M' S w':=by
 refine⟨fun l hl=>?_,fun l hl=>?_⟩
 ·rcases hl with hl|hl
  ·rcases(hd.mine l).1 hl with hl|⟨b,hb,h1,h2⟩
   ·exact h.out l (.inl hl)
   ·refine⟨fun hs=>?_,b,hb⟩;obtain⟨b',hb',h3⟩:=h.old l hs;rw[hb] at hb';cases hb';omega
  ·exact h.out l (.inr hl)
 ·obtain⟨b,hb,h1⟩:=h.old l hl;exact⟨b,hb,Nat.lt_of_lt_of_le h1 hd.env.size⟩
theorem PastX.own{M S M':Loc→Prop}{w w':World}{es:Array Event}(h:PastX Shun t)(hc:Clear Shun M' S w')(hd:Did M S w w' es M')(fn:FuncId)(pos:String):PastX Shun (t++MemOp.ofEvents 0 fn pos es):=by
 have hloc:∀ l,M' l∨S l→∃ b,locBlk l=some b:=fun l hl=>(hc.out l hl).2
 refine h.app0 (fun op hop=>by obtain⟨e,_,rfl⟩:=Go.Conc.mem_ofEvents hop;rfl) (fun op hop b hb=>?_) ?_
 ·rcases(opOk_evIn (Sy:=fun _=>False) (k:=0) hloc hd.evs op hop).2 b hb with⟨h1,_⟩|⟨h1,_⟩|⟨h1,_⟩
  ·exact h1.elim
  ·exact(hc.out _ (.inl h1)).1
  ·exact(hc.out _ (.inr h1)).1
 ·rw[Deaf_own];exact deafBehind_still (fun e he=>⟨(zLa hloc (hd.evs e he)).1,(zLa hloc (hd.evs e he)).2.1⟩) _
end
section
variable {P:Program}{Shun:Loc→Prop}{S:Loc→Prop}{L:World→Prop}{Q:(Loc→Prop)→Goroutine→World→Prop}
theorem goesX_beside(hL:∀ w d,L w→L (w.at d))(hrunQ:∀ M g w,Q M g w→g.status=.running) :
  ∀(K n:Nat) (gs:Array Goroutine) (a:Goroutine) (w:World) (sl:Option (Nat×Nat)) (t:Trace) (q:Nat→Nat) (M:Loc→Prop),n+sumTo gs.size q≤K→gs[0]? = some a→Leavers P t gs q→PastX Shun t→Clear Shun M S w →
   GoesX P true S L Q n M a w →
   ∃(N:Nat) (gs':Array Goroutine) (a':Goroutine) (w':World) (sl':Option (Nat×Nat)) (t':Trace) (q':Nat→Nat) (M':Loc→Prop),
    runNT P N (crowd gs w sl) t=(.next (crowd gs' w' sl'),t')∧gs'.size=gs.size∧gs'[0]? = some a'∧Q M' a' w'∧Leavers P t' gs' q'∧PastX Shun t'∧Clear Shun M' S w':=by
 have hat:∀(M:Loc→Prop) (w:World) (d:Nat),Rely L (fun l=>M l∨S l) w (w.at d):=fun M w d=>⟨zqc _ w d,hL w d⟩
 intro K
 induction K with
 |zero=>
  intro n gs a w sl t q M hM h0 hLv hP hC hG;obtain rfl:n=0:=by omega
  rcases hG.cases with hq|⟨n',e,_⟩
  ·exact⟨0,gs,a,w,sl,t,q,M,rfl,rfl,h0,hq w (.refl _ _ w),hLv,hP,hC⟩
  ·omega
 |succ K ih=>
  intro n gs a w sl t q M hM h0 hLv hP hC hG;rcases hG.cases with hq|⟨n',rfl,hrun,hstep⟩
  ·exact⟨0,gs,a,w,sl,t,q,M,rfl,rfl,h0,hq w (.refl _ _ w),hLv,hP,hC⟩
  have haw:∀ g∈gs,awake g:=by
   intro g hg;obtain⟨i,hi,rfl⟩:=Array.mem_iff_getElem.1 hg;rcases Nat.eq_zero_or_pos i with rfl|hpos
   ·have:gs[0]=a:=by simpa[Array.getElem?_eq_getElem hi] using h0
    rw[this];exact awake_of (.inl hrun)
   ·exact awake_of ((hLv.old i _ hpos (Array.getElem?_eq_getElem hi)).status.elim .inl fun x=>.inr (.inr x))
  obtain⟨i,g,d,sl',hi,hg,hst⟩:=crowd_pick (P:=P) (w:=w) (sl:=sl) haw ⟨0,a,h0,hrun⟩;rcases Nat.eq_zero_or_pos i with rfl|hpos
  ·obtain rfl:g=a:=by rw[h0] at hi;exact(Option.some.inj hi).symm
   obtain⟨a',w',es,M',hgo,hd,hG'⟩:=hstep (w.at d) (hat M w d);have hrunT:=runT_crowd_go (P:=P) (sl:=sl') (i:=0) hi (show stepG P (0==0) g (w.at d)=_ from hgo);have hsz:((gs.map (Go.Conc.woken P g a' w')).setIfInBounds 0 a').size=gs.size:=by simp
   have hlt:0<gs.size:=(Array.getElem?_eq_some_iff.1 h0).1;have hC0:Clear Shun M S (w.at d):=⟨hC.out,hC.old⟩;have hC':=hC0.did hd;obtain⟨N,gs',a'',w'',sl'',t',q',M'',hr,hs',h0',hS,hL',hP',hC''⟩:=ih n' ((gs.map (Go.Conc.woken P g a' w')).setIfInBounds 0 a') a' w' sl' (t++MemOp.ofEvents 0 g.frame.fn g.frame.place es) q M' (by rw[hsz];omega) (by simp[hlt])
    ⟨fun j x hj hx=>by
     have hne:0≠j:=by omega
     rw[Array.getElem?_setIfInBounds_ne hne,Array.getElem?_map] at hx;obtain⟨y,hy,rfl⟩:=Option.map_eq_some_iff.1 hx;have hq:=hLv.old j y hj hy;rw[woken_quitsD hq,Deaf_other t (by omega) _ (fun op hop=>by obtain⟨e,_,rfl⟩:=Go.Conc.mem_ofEvents hop;rfl)];exact hq,fun j hj=>by
     rw[Deaf_other t (g':=0) (by simp at hj;omega) _ (fun op hop=>by obtain⟨e,_,rfl⟩:=Go.Conc.mem_ofEvents hop;rfl)];exact hLv.above j (by simpa using hj)⟩
    (hP.own hC' hd _ _) hC' hG'
   exact⟨N+1,gs',a'',w'',sl'',t',q',M'',by simp only[runNT,hst,hrunT];exact hr,hs'.trans hsz,h0',hS,hL',hP',hC''⟩
  ·have hq:=hLv.old i g hpos hi;have hi0:(i==0)=false:=by simp;omega
   have hlt:i<gs.size:=(Array.getElem?_eq_some_iff.1 hi).1;cases hqi:q i with
   |zero=>rw[hqi] at hq;rw[hq.1] at hg;cases hg
   |succ k=>
    rw[hqi] at hq;rcases hq with⟨hf,_⟩|⟨_,g',es,hm,hstp,hq'⟩
    ·rw[hf] at hg;cases hg
    have hrunT:=runT_crowd_go (P:=P) (sl:=sl') (i:=i) hi (by rw[hi0];exact hstp (w.at d));have hsz:((gs.map (Go.Conc.woken P g g' (w.at d))).setIfInBounds i g').size=gs.size:=by simp
    have hsum:sumTo gs.size (upd q i k)+(k+1)=sumTo gs.size q+k:=by have:=sumTo_upd q k id hlt;simpa[hqi] using this
    have hC0:Clear Shun M S (w.at d):=⟨hC.out,hC.old⟩;obtain⟨N,gs',a'',w'',sl'',t',q',M'',hr,hs',h0',hS,hL',hP',hC''⟩:=ih (n'+1) ((gs.map (Go.Conc.woken P g g' (w.at d))).setIfInBounds i g') a (w.at d) sl' (t++MemOp.ofEvents i g.frame.fn g.frame.place es) (upd q i k) M (by rw[hsz];omega)
     (by
      have hne:i≠0:=by omega
      rw[Array.getElem?_setIfInBounds_ne hne,Array.getElem?_map,h0];simp[woken_run hrun])
     ⟨fun j x hj hx=>by
      by_cases hji:i=j
      ·subst hji;rw[Array.getElem?_setIfInBounds_self_of_lt (by simpa using hlt)] at hx;obtain rfl:=Option.some.inj hx;rw[upd_same,Deaf_own];exact hq'
      ·rw[Array.getElem?_setIfInBounds_ne hji,Array.getElem?_map] at hx;obtain⟨y,hy,rfl⟩:=Option.map_eq_some_iff.1 hx;have hqj:=hLv.old j y hj hy;rw[woken_quitsD hqj,upd_ne q k (Ne.symm hji),Deaf_other t hji _ (fun op hop=>by obtain⟨e,_,rfl⟩:=Go.Conc.mem_ofEvents hop;rfl)];exact hqj,fun j hj=>by
      rw[Deaf_other t (g':=i) (by simp at hj;omega) _ (fun op hop=>by obtain⟨e,_,rfl⟩:=Go.Conc.mem_ofEvents hop;rfl)];exact hLv.above j (by simpa using hj)⟩
     (hP.mute (by omega) hm) hC0 (hG.rely (hat M w d))
    exact⟨N+1,gs',a'',w'',sl'',t',q',M'',by simp only[runNT,hst,hrunT];exact hr,hs'.trans hsz,h0',hS,hL',hP',hC''⟩
end
end
section
open Go.Conc Go.ConcN Go.RowKit Go.Conc.Lib Go.ConcR.Gen Go.ConcN.Gen
open Go.ConcR (KK wgBlock WgAt stA smA rd wr mk Payload DC0)
variable [Payload]{L:WgLink}
omit [Payload] in
theorem za{ty:TypeId}{Wg:Nat}{K:Loc→Prop}{F:World→Prop}(hF2:∀ w w',Env K w w'→F w→F w'){w w1:World}(h:F w∧WgLive ty Wg w)(r:Rely (WgLive ty Wg) K w w1):F w1∧WgLive ty Wg w1:=⟨hF2 _ _ r.1 h.1,r.2 h.2⟩
omit [Payload] in
theorem env_set{ty:TypeId}{Wg:Nat}{K:Loc→Prop}{w:World}{a:Addr}{v:Value}(hK:∀ i,¬ K (cellAt Wg i))(ha:a.block=Wg){st sm st' sm':Int}(h1:WgAt ty Wg w st sm)(h2:WgAt ty Wg (w.setCell a v) st' sm'):Env K w (w.setCell a v):=
 .of_aside (ha▸aside_setCell w a v) (fun o e=>by unfold WgAt wgBlock at h1 h2;rw[h1] at e;cases e;exact⟨_,_,_,rfl,_,h2,rfl⟩) hK
omit [Payload] in
theorem quietStep{P:Program}{main:Bool}{S:Loc→Prop}{L:World→Prop}{Q:(Loc→Prop)→Goroutine→World→Prop}{n:Nat}{M:Loc→Prop}{g:Goroutine}{w:World}(hr:g.status=.running)
  (h:∀ w1,Rely L (fun l=>M l∨S l) w w1→(stepG P main g w1).goes fun g' w' es=>w'=w1∧es=#[]∧GoesX P main S L Q n M g' w1):GoesX P main S L Q (n+1) M g w:=by
 refine .step hr fun w1 h1=>?_
 obtain⟨g',w',es,e,rfl,rfl,hg⟩:=goes_elim (h w1 h1);exact⟨g',w',_,M,e,.quiet,hg⟩
section
variable {Wg:Nat}{F:World→Prop}{M S:Loc→Prop}{Q:(Loc→Prop)→Goroutine→World→Prop}
  {b₀:Frame} {a₀:Act} {ops₀:Array Oper} {i₀:Nat} {rest₀:List Nat} {k₀:List Item} {cs:List Frame} {mT:Nat}
theorem addPosX{P:Program}(H:WgLib P L)(hK:∀ i,¬(M (cellAt Wg i)∨S (cellAt Wg i)))(hF2:∀ w w',Env (fun l=>M l∨S l) w w'→F w→F w')
  (hT:∀ w,F w→WgLive L.tWg Wg w→GoesX P true S (WgLive L.tWg Wg) Q mT M (G (b₀.at (a₀.put ((ops₀[i₀]?).bind (·.dst)) (.tuple #[])) (.inRegion ops₀ rest₀::k₀)) cs) w)
  (w:World) (hF:F w∧WgLive L.tWg Wg w) :
  GX P L.tWg Wg (fun l=>M l∨S l) (XKd P L.tWg Wg (fun l=>M l∨S l) (fun g w=>∃ m,GoesX P true S (WgLive L.tWg Wg) Q m M g w)) 40
   (G ((base L.add).at ⟨#[.pointer (some ⟨Wg,0,none⟩),.int .i64 1,undef,undef,undef,undef,undef,undef,undef,undef,undef,undef,undef,undef,undef,undef,undef,undef,undef,undef,undef,undef,undef,undef,undef,undef,undef,undef,undef,undef,undef,undef,undef,undef,undef,undef,undef,undef,undef,undef,undef,undef,undef,undef,undef,undef,undef,undef,undef,undef,undef,undef,undef,undef,undef,undef,undef,undef,undef,undef,undef,undef,undef,undef,undef,undef,undef,undef,undef,undef,undef,undef,undef,undef,undef,undef,undef,undef,undef,undef,undef,undef,undef,undef,undef,undef,undef,undef,undef,undef,undef,undef,undef,undef,undef,undef,undef,undef,undef,undef,undef,undef,undef,undef,undef,undef,undef,undef,undef,undef,undef,undef,undef,undef,undef,undef,undef],[]⟩ [.code (body_add L)]) (b₀.at a₀ (.inRegion ops₀ (i₀::rest₀)::k₀)::cs)) w:=by
 lib_facts
 simp only[body_add,addFn,Option.getD_some]
 u_c stepG_seq (za hF2) hF
 u_cond true (za hF2) hF
 iterate 2 (u_c stepG_seq (za hF2) hF)
 u_reg (za hF2) hF
 iterate 2 (u_op (za hF2) hF)
 u_c stepG_region_end (za hF2) hF
 u_cond false (za hF2) hF
 u_c stepG_skip (za hF2) hF
 u_c stepG_seq (za hF2) hF
 u_reg (za hF2) hF
 refine Goes.stop (fun w1 h1=>?_)
 replace hF:=za hF2 hF h1
 clear h1;refine⟨rfl,_,stepG_mark0 .disable (by simp) rfl rfl (by k_ne) rfl H.f_disable (x_disable_n L) (x_disable_b L) (x_disable_x L) (x_disable_f L),60,?_⟩
 walk_nrm
 u_c stepG_region_end (za hF2) hF
 u_reg (za hF2) hF
 u_defer (za hF2) hF
 u_c stepG_region_end (za hF2) hF
 u_c stepG_seq (za hF2) hF
 u_reg (za hF2) hF
 u_op (za hF2) hF
 u_c stepG_region_end (za hF2) hF
 iterate 2 (u_c stepG_seq (za hF2) hF)
 u_reg (za hF2) hF
 u_bub (za hF2) hF
 u_c stepG_region_end (za hF2) hF
 u_cond false (za hF2) hF
 u_c stepG_skip (za hF2) hF
 u_c stepG_seq (za hF2) hF
 u_reg (za hF2) hF
 iterate 6 (u_op (za hF2) hF)
 u_call H.f_uAdd (nm_uAdd L) uAddFn (za hF2) hF
 u_c stepG_seq (za hF2) hF
 u_reg (za hF2) hF
 u_op (za hF2) hF
 u_c stepG_region_end (za hF2) hF
 u_c stepG_seq (za hF2) hF
 u_reg (za hF2) hF
 iterate 4 (u_op (za hF2) hF)
 refine Goes.stop (fun w2 h2=>?_)
 replace hF:=za hF2 hF h2
 clear h2;refine⟨rfl,fun v hv hw=>?_⟩;rcases Nat.eq_zero_or_pos v with rfl|hvp
 ·replace hw:WgAt L.tWg Wg w2 0 0:=by simpa using hw
  have z:(((0:Nat):Int)+1)*KK=KK:=by simp
  rw[z];have e0:IntKind.u64.wrap (0+4294967296)=KK:=by decide
  refine⟨_,(stepG_add_atomic rfl rfl (by k_ne) rfl H.f_addU64 (x_addU64_n L) (x_addU64_b L) (x_addU64_x L) .u64 (x_addU64_f L) rfl rfl hw.cellSt (hw.thaw 0)).trans (by rw[e0];rfl),.inl ⟨80,?_⟩⟩
  replace hF:F (w2.setCell (stA Wg) (.int .u64 KK))∧WgLive L.tWg Wg (w2.setCell (stA Wg) (.int .u64 KK)):=⟨hF2 _ _ (env_set hK rfl hw (hw.setSt _)) hF.1,⟨_,_,hw.setSt _⟩⟩
  clear hw;simp only[KK] at hF ⊢
  walk_nrm
  u_op (za hF2) hF
  u_c stepG_region_end (za hF2) hF
  u_c stepG_ret' (za hF2) hF
  u_leave1 H.f_uAdd (za hF2) hF
  u_op (za hF2) hF
  u_c stepG_region_end (za hF2) hF
  iterate 2 (u_c stepG_seq (za hF2) hF)
  u_reg (za hF2) hF
  iterate 4 (u_op (za hF2) hF)
  iterate 2 (u_skip (za hF2) hF)
  u_op (za hF2) hF
  u_c stepG_region_end (za hF2) hF
  u_cond false (za hF2) hF
  u_c stepG_skip (za hF2) hF
  u_c stepG_seq (za hF2) hF
  u_reg (za hF2) hF
  iterate 4 (u_op (za hF2) hF)
  u_c stepG_region_end (za hF2) hF
  u_c stepG_seq (za hF2) hF
  u_reg (za hF2) hF
  iterate 4 (u_op (za hF2) hF)
  u_c stepG_region_end (za hF2) hF
  iterate 2 (u_c stepG_seq (za hF2) hF)
  u_reg (za hF2) hF
  iterate 10 (u_op (za hF2) hF)
  u_c stepG_region_end (za hF2) hF
  u_cond true (za hF2) hF
  u_reg (za hF2) hF
  iterate 3 (u_op (za hF2) hF)
  u_conv H.underlying_tPU32 H.room_tU32 (WgLive.cell1 hF.2).choose_spec (za hF2) hF
  refine Goes.stop (fun w3 h3=>?_)
  replace hF:=za hF2 hF h3
  clear h3;refine⟨rfl,_,⟨Wg,1,none⟩,rfl,stepG_markAt .read (by simp) rfl rfl (by k_ne) rfl H.f_raceRead (x_raceRead_n L) (x_raceRead_b L) (x_raceRead_x L) (x_raceRead_f L) (ad:=⟨Wg,1,none⟩) (by simp[Act.eval]),80,?_⟩
  walk_nrm
  u_c stepG_region_end (za hF2) hF
  iterate 2 (u_c stepG_seq (za hF2) hF)
  u_reg (za hF2) hF
  iterate 2 (u_op (za hF2) hF)
  u_c stepG_region_end (za hF2) hF
  u_cond false (za hF2) hF
  u_c stepG_skip (za hF2) hF
  iterate 2 (u_c stepG_seq (za hF2) hF)
  u_reg (za hF2) hF
  iterate 3 (u_op (za hF2) hF)
  iterate 2 (u_skip (za hF2) hF)
  iterate 2 (u_op (za hF2) hF)
  iterate 4 (u_skip (za hF2) hF)
  u_op (za hF2) hF
  u_c stepG_region_end (za hF2) hF
  u_cond false (za hF2) hF
  u_c stepG_skip (za hF2) hF
  iterate 2 (u_c stepG_seq (za hF2) hF)
  u_reg (za hF2) hF
  iterate 3 (u_op (za hF2) hF)
  iterate 2 (u_skip (za hF2) hF)
  u_op (za hF2) hF
  u_c stepG_region_end (za hF2) hF
  u_cond true (za hF2) hF
  u_c stepG_ret' (za hF2) hF
  refine Goes.stop (fun w4 h4=>?_)
  replace hF:=za hF2 hF h4
  clear h4;refine⟨rfl,_,stepG_unwind_entry (v:=.tuple #[]) (evs:=#[mk .enable]) rfl H.f_enable (x_enable_n L) (x_enable_b L) (x_enable_x L) (x_enable_f L) (by simp[Extern.Race.none_]) (by simp[mk]) (by simp[mk]),mT+1,?_⟩;refine quietStep rfl fun w5 h5=>?_
  have h5':=za hF2 hF h5;exact goes_leave0 rfl rfl H.f_add rfl ⟨rfl,rfl,hT _ h5'.1 h5'.2⟩
 ·obtain⟨V,hV⟩:∃ V:Int,V=(v:Int)+1:=⟨_,rfl⟩;obtain⟨Z,hZ⟩:∃ Z:Int,Z=V*KK:=⟨_,rfl⟩;have eZ:IntKind.u64.wrap ((v:Int)*KK+4294967296)=Z:=by rw[IntKind.wrap_u64,hZ,hV];simp only[KK];omega
  rw[←hV,←hZ];have a1:Z / 4294967296=V:=by rw[hZ];simp only[KK];omega
  have b1:bits .and .u64 Z 2147483648=0:=by rw[hZ,hV];have:=st_flag (v+1) 0 (by omega) (by omega);simpa[KK] using this
  have b2:bits .and .u64 Z 2147483647=0:=by rw[hZ,hV];have:=st_waiters (v+1) 0 (by omega) (by omega);simpa[KK] using this
  have c1:IntKind.i32.wrap V=V:=by rw[IntKind.wrap_i32];omega
  have hV1:1<V:=by omega
  have hV2:V<2147483648:=by omega
  have q1:(V==1)=false:=by simp;omega
  have q2:decide (V=1)=false:=decide_eq_false (by omega);have q3:decide (V<0)=false:=decide_eq_false (by omega);have q4:decide (0<V)=true:=decide_eq_true (by omega);have q5:(V==0)=false:=by simp;omega
  have q6:decide (V=0)=false:=decide_eq_false (by omega);refine⟨_,(stepG_add_atomic rfl rfl (by k_ne) rfl H.f_addU64 (x_addU64_n L) (x_addU64_b L) (x_addU64_x L) .u64 (x_addU64_f L) rfl rfl hw.cellSt (hw.thaw 0)).trans (by rw[eZ];rfl),.inr ⟨110,?_⟩⟩
  replace hF:F (w2.setCell (stA Wg) (.int .u64 Z))∧WgLive L.tWg Wg (w2.setCell (stA Wg) (.int .u64 Z)):=⟨hF2 _ _ (env_set hK rfl hw (hw.setSt _)) hF.1,⟨_,_,hw.setSt _⟩⟩
  clear hw hZ hV eZ
  walk_nrm
  u_op (za hF2) hF
  u_c stepG_region_end (za hF2) hF
  u_c stepG_ret' (za hF2) hF
  u_leave1 H.f_uAdd (za hF2) hF
  u_op (za hF2) hF
  u_c stepG_region_end (za hF2) hF
  iterate 2 (u_c stepG_seq (za hF2) hF)
  u_reg (za hF2) hF
  iterate 4 (u_op (za hF2) hF)
  iterate 2 (u_skip (za hF2) hF)
  u_op (za hF2) hF
  u_c stepG_region_end (za hF2) hF
  u_cnd false (za hF2) hF
  u_c stepG_skip (za hF2) hF
  u_c stepG_seq (za hF2) hF
  u_reg (za hF2) hF
  iterate 4 (u_op (za hF2) hF)
  u_c stepG_region_end (za hF2) hF
  u_c stepG_seq (za hF2) hF
  u_reg (za hF2) hF
  iterate 4 (u_op (za hF2) hF)
  u_c stepG_region_end (za hF2) hF
  iterate 2 (u_c stepG_seq (za hF2) hF)
  u_reg (za hF2) hF
  iterate 10 (u_op (za hF2) hF)
  u_c stepG_region_end (za hF2) hF
  u_cnd false (za hF2) hF
  u_c stepG_skip (za hF2) hF
  iterate 2 (u_c stepG_seq (za hF2) hF)
  u_reg (za hF2) hF
  iterate 2 (u_op (za hF2) hF)
  u_c stepG_region_end (za hF2) hF
  u_cnd false (za hF2) hF
  u_c stepG_skip (za hF2) hF
  iterate 2 (u_c stepG_seq (za hF2) hF)
  u_reg (za hF2) hF
  iterate 3 (u_op (za hF2) hF)
  iterate 2 (u_skip (za hF2) hF)
  iterate 2 (u_op (za hF2) hF)
  iterate 4 (u_skip (za hF2) hF)
  u_op (za hF2) hF
  u_c stepG_region_end (za hF2) hF
  u_cnd false (za hF2) hF
  u_c stepG_skip (za hF2) hF
  iterate 2 (u_c stepG_seq (za hF2) hF)
  u_reg (za hF2) hF
  iterate 3 (u_op (za hF2) hF)
  iterate 2 (u_skip (za hF2) hF)
  u_op (za hF2) hF
  u_c stepG_region_end (za hF2) hF
  u_cnd true (za hF2) hF
  u_c stepG_ret' (za hF2) hF
  refine Goes.stop (fun w4 h4=>?_)
  replace hF:=za hF2 hF h4
  clear h4;refine⟨rfl,_,stepG_unwind_entry (v:=.tuple #[]) (evs:=#[mk .enable]) rfl H.f_enable (x_enable_n L) (x_enable_b L) (x_enable_x L) (x_enable_f L) (by simp[Extern.Race.none_]) (by simp[mk]) (by simp[mk]),mT+1,?_⟩;refine quietStep rfl fun w5 h5=>?_
  have h5':=za hF2 hF h5;exact goes_leave0 rfl rfl H.f_add rfl ⟨rfl,rfl,hT _ h5'.1 h5'.2⟩
end
end
section
open Go.Conc Go.ConcN Go.RowKit Go.Conc.Lib Go.ConcR.Gen Go.ConcN.Gen
open Go.ConcR (KK wgBlock WgAt stA smA rd wr mk Payload DC0)
variable [Payload]{L:WgLink}
omit [Payload] in
theorem goesX_of_goes{P:Program}{main:Bool}{M S:Loc→Prop}{L:World→Prop}{Q:(Loc→Prop)→Goroutine→World→Prop}{Stop:Goroutine→World→Prop}{m:Nat}(hQ:∀ g w,Stop g w→GoesX P main S L Q m M g w) :
  ∀{n:Nat} {g:Goroutine} {w:World},Goes P main (Rely L (fun l=>M l∨S l)) DC0 Stop n g w→GoesX P main S L Q (n+m) M g w
 |0,g,w,h=>by rw[Nat.zero_add];exact hQ g w (h w (.refl _ _ w))
 |n+1,g,w,h=>by
  rcases h with h|⟨hr,h⟩
  ·exact(hQ g w (h w (.refl _ _ w))).more (by omega)
  ·rw[Nat.add_right_comm];refine .step hr fun w1 h1=>?_
   obtain⟨g',w',es,e,⟨rfl,rfl⟩,hg⟩:=goes_elim (h w1 h1);exact⟨g',_,_,M,e,.quiet,goesX_of_goes hQ hg⟩
def AnchX(L:WgLink)(F:World→Prop)(Wg:Nat)(c:Frame)(cs:List Frame)(g:Goroutine)(w:World):Prop:=
 ∃ T:Array Value,g=G ((base L.wait).at ⟨T,[]⟩ [.code (L7 L),.inLoop (L7 L),.inBlock 0]) (c::cs)∧T.size=84∧T[0]? = some (.pointer (some ⟨Wg,0,none⟩))∧F w∧WgLive L.tWg Wg w
section
variable {Wg:Nat}{F F2:World→Prop}{M S M2 S2:Loc→Prop}{Q:(Loc→Prop)→Goroutine→World→Prop}{Joined:World→Prop}
  {b₀:Frame} {a₀:Act} {ops₀:Array Oper} {i₀:Nat} {rest₀:List Nat} {k₀:List Item} {cs:List Frame} {mT:Nat}
theorem waitRoundX{P:Program}(H:WgLib P L)(hK:∀ i,¬(M (cellAt Wg i)∨S (cellAt Wg i)))(hF2:∀ w w',Env (fun l=>M l∨S l) w w'→F w→F w')(hF3:∀ w w',Env (fun l=>M2 l∨S2 l) w w'→F2 w→F2 w')
  (hJ:∀ w,F w→WgLive L.tWg Wg w→Joined w→F2 w)
  (hT:∀ w,F2 w→WgLive L.tWg Wg w→GoesX P true S2 (WgLive L.tWg Wg) Q mT M2 (G (b₀.at (a₀.put ((ops₀[i₀]?).bind (·.dst)) (.tuple #[])) (.inRegion ops₀ rest₀::k₀)) cs) w)
  (g:Goroutine) (w:World) (h:AnchX L F Wg (b₀.at a₀ (.inRegion ops₀ (i₀::rest₀)::k₀)) cs g w) :
  ∃ m,GX P L.tWg Wg (fun l=>M l∨S l) (YW1 P L.tWg Wg (fun l=>M l∨S l) Joined (fun g w=>∃ m,GoesX P true S2 (WgLive L.tWg Wg) Q m M2 g w) (AnchX L F Wg (b₀.at a₀ (.inRegion ops₀ (i₀::rest₀)::k₀)) cs)) m g w:=by
 lib_facts
 obtain⟨T,rfl,hT84,t0,hF⟩:=h;obtain⟨v0,v1,v2,v3,v4,v5,v6,v7,v8,v9,v10,v11,v12,v13,v14,v15,v16,v17,v18,v19,v20,v21,v22,v23,v24,v25,v26,v27,v28,v29,v30,v31,v32,v33,v34,v35,v36,v37,v38,v39,v40,v41,v42,v43,v44,v45,v46,v47,v48,v49,v50,v51,v52,v53,v54,v55,v56,v57,v58,v59,v60,v61,v62,v63,v64,v65,v66,v67,v68,v69,v70,v71,v72,v73,v74,v75,v76,v77,v78,v79,v80,v81,v82,v83,rfl⟩:=array84 T hT84;simp only[List.getElem?_toArray,List.getElem?_cons_zero,Option.some.injEq] at t0;subst t0;refine⟨30,?_⟩;simp only[L7,body_wait,waitFn,Option.getD_some]
 u_c stepG_block (za hF2) hF
 u_c stepG_seq (za hF2) hF
 u_reg (za hF2) hF
 iterate 3 (u_op (za hF2) hF)
 u_call H.f_uLoad (nm_uLoad L) uLoadFn (za hF2) hF
 u_c stepG_seq (za hF2) hF
 u_reg (za hF2) hF
 u_op (za hF2) hF
 u_c stepG_region_end (za hF2) hF
 u_c stepG_seq (za hF2) hF
 u_reg (za hF2) hF
 iterate 3 (u_op (za hF2) hF)
 refine Goes.stop (fun w1 h1=>?_)
 replace hF:=za hF2 hF h1
 clear h1;refine⟨rfl,fun v hv hw=>?_⟩;rcases Nat.eq_zero_or_pos v with rfl|hvp
 ·replace hw:WgAt L.tWg Wg w1 0 0:=by simpa using hw
  refine⟨_,stepG_load_atomic (v:=0) rfl rfl (by k_ne) rfl H.f_loadU64 (x_loadU64_n L) (x_loadU64_b L) (x_loadU64_x L) .u64 (x_loadU64_f L) rfl hw.cellSt,fun _=>⟨60,?_⟩,fun h=>absurd rfl h⟩;clear hw
  walk_nrm
  u_op (za hF2) hF
  u_c stepG_region_end (za hF2) hF
  u_c stepG_ret' (za hF2) hF
  u_leave1 H.f_uLoad (za hF2) hF
  u_op (za hF2) hF
  u_c stepG_region_end (za hF2) hF
  u_c stepG_seq (za hF2) hF
  u_reg (za hF2) hF
  iterate 4 (u_op (za hF2) hF)
  u_c stepG_region_end (za hF2) hF
  u_c stepG_seq (za hF2) hF
  u_reg (za hF2) hF
  iterate 4 (u_op (za hF2) hF)
  u_c stepG_region_end (za hF2) hF
  iterate 2 (u_c stepG_seq (za hF2) hF)
  u_reg (za hF2) hF
  iterate 2 (u_op (za hF2) hF)
  u_c stepG_region_end (za hF2) hF
  u_cond true (za hF2) hF
  u_c stepG_seq (za hF2) hF
  u_cond true (za hF2) hF
  u_c stepG_seq (za hF2) hF
  u_reg (za hF2) hF
  refine Goes.stop (fun w5 h5=>?_)
  replace hF:=za hF2 hF h5
  clear h5;refine⟨rfl,_,stepG_mark0 .enable (by simp) rfl rfl (by k_ne) rfl H.f_enable (x_enable_n L) (x_enable_b L) (x_enable_x L) (x_enable_f L),12,?_⟩
  walk_nrm
  u_c stepG_region_end (za hF2) hF
  u_reg (za hF2) hF
  u_op (za hF2) hF
  u_conv H.underlying_tWgP H.room_tWg (WgLive.cell0 hF.2).choose_spec (za hF2) hF
  refine Goes.stop (fun w6 h6=>?_)
  replace hF:=za hF2 hF h6
  clear h6;refine⟨rfl,_,stepG_markAt .acquire (by simp) rfl rfl (by k_ne) rfl H.f_acquire (x_acquire_n L) (x_acquire_b L) (x_acquire_x L) (x_acquire_f L) (by simp[Act.eval,stA]),fun hjn=>⟨40+mT,?_⟩⟩
  replace hF:F2 _∧WgLive L.tWg Wg _:=⟨hJ _ hF.1 hF.2 hjn,hF.2⟩
  refine goesX_of_goes (Stop:=fun g w=>GoesX P true S2 (WgLive L.tWg Wg) Q mT M2 g w) (fun g w h=>h) ?_
  walk_nrm
  u_c stepG_region_end (za hF3) hF
  iterate 2 (u_c stepG_seq (za hF3) hF)
  u_reg (za hF3) hF
  iterate 8 (u_op (za hF3) hF)
  iterate 2 (u_skip (za hF3) hF)
  u_op (za hF3) hF
  u_c stepG_region_end (za hF3) hF
  u_cond false (za hF3) hF
  u_c stepG_skip (za hF3) hF
  u_c stepG_ret' (za hF3) hF
  u_leave0 H.f_wait (za hF3) hF
  exact Goes.stop (fun w9 h9=>hT _ (za hF3 hF h9).1 (za hF3 hF h9).2)
 ·obtain⟨Z,hZ⟩:∃ Z:Int,(v:Int)*KK=Z:=⟨_,rfl⟩;have a1:Z / 4294967296=(v:Int):=by rw[←hZ];simp only[KK];omega
  have b1:bits .and .u64 Z 2147483648=0:=by rw[←hZ];have:=st_flag v 0 (by omega) (by omega);simpa[KK] using this
  have b2:bits .and .u64 Z 2147483647=0:=by rw[←hZ];have:=st_waiters v 0 (by omega) (by omega);simpa[KK] using this
  have c1:IntKind.i32.wrap (v:Int)=(v:Int):=by rw[IntKind.wrap_i32];omega
  have w1':IntKind.u64.wrap (Z+1)=Z+1:=by rw[IntKind.wrap_u64,←hZ];simp only[KK];omega
  have q3:decide ((v:Int)<0)=false:=decide_eq_false (by omega);have q4:decide (0<(v:Int))=true:=decide_eq_true (by omega);have q5:((v:Int)==0)=false:=by simp;omega
  have q6:decide ((v:Int)=0)=false:=decide_eq_false (by omega);rw[hZ] at hw;refine⟨_,stepG_load_atomic (v:=Z) rfl rfl (by k_ne) rfl H.f_loadU64 (x_loadU64_n L) (x_loadU64_b L) (x_loadU64_x L) .u64 (x_loadU64_f L) rfl hw.cellSt,fun h0=>absurd h0 (by omega),fun _=>⟨60,?_⟩⟩;clear hw
  walk_nrm
  u_op (za hF2) hF
  u_c stepG_region_end (za hF2) hF
  u_c stepG_ret' (za hF2) hF
  u_leave1 H.f_uLoad (za hF2) hF
  u_op (za hF2) hF
  u_c stepG_region_end (za hF2) hF
  u_c stepG_seq (za hF2) hF
  u_reg (za hF2) hF
  iterate 4 (u_op (za hF2) hF)
  u_c stepG_region_end (za hF2) hF
  u_c stepG_seq (za hF2) hF
  u_reg (za hF2) hF
  iterate 4 (u_op (za hF2) hF)
  u_c stepG_region_end (za hF2) hF
  iterate 2 (u_c stepG_seq (za hF2) hF)
  u_reg (za hF2) hF
  iterate 2 (u_op (za hF2) hF)
  u_c stepG_region_end (za hF2) hF
  u_cnd false (za hF2) hF
  u_c stepG_skip (za hF2) hF
  u_c stepG_seq (za hF2) hF
  u_reg (za hF2) hF
  iterate 6 (u_op (za hF2) hF)
  u_call H.f_uCas (nm_uCas L) uCasFn (za hF2) hF
  u_c stepG_seq (za hF2) hF
  u_reg (za hF2) hF
  u_op (za hF2) hF
  u_c stepG_region_end (za hF2) hF
  u_c stepG_seq (za hF2) hF
  u_reg (za hF2) hF
  iterate 5 (u_op (za hF2) hF)
  refine Goes.stop (fun w2 h2=>?_)
  replace hF:=za hF2 hF h2
  clear h2;refine⟨rfl,fun v' hv' hw=>⟨fun e=>?_,fun e=>?_⟩⟩
  ·subst e;rw[hZ] at hw ⊢;refine⟨_,(stepG_cas_hit (v:=Z) (n:=Z+1) rfl rfl (by k_ne) rfl H.f_casU64 (x_casU64_n L) (x_casU64_b L) (x_casU64_x L) .u64 (x_casU64_f L) rfl rfl rfl hw.cellSt (hw.thaw 0)).trans (by rfl),80,?_⟩
   replace hF:F (w2.setCell (stA Wg) (.int .u64 (Z+1)))∧WgLive L.tWg Wg (w2.setCell (stA Wg) (.int .u64 (Z+1))):=⟨hF2 _ _ (env_set hK rfl hw (hw.setSt _)) hF.1,⟨_,_,hw.setSt _⟩⟩
   clear hw
   walk_nrm
   u_op (za hF2) hF
   u_c stepG_region_end (za hF2) hF
   u_c stepG_ret' (za hF2) hF
   u_leave1 H.f_uCas (za hF2) hF
   u_c stepG_region_end (za hF2) hF
   u_cond true (za hF2) hF
   iterate 2 (u_c stepG_seq (za hF2) hF)
   u_reg (za hF2) hF
   iterate 4 (u_op (za hF2) hF)
   u_c stepG_region_end (za hF2) hF
   u_cond true (za hF2) hF
   u_reg (za hF2) hF
   iterate 3 (u_op (za hF2) hF)
   u_conv H.underlying_tPU32 H.room_tU32 (WgLive.cell1 hF.2).choose_spec (za hF2) hF
   refine Goes.stop (fun w3 h3=>?_)
   replace hF:=za hF2 hF h3
   clear h3;refine⟨rfl,_,⟨Wg,1,none⟩,rfl,stepG_markAt .write (by simp) rfl rfl (by k_ne) rfl H.f_raceWrite (x_raceWrite_n L) (x_raceWrite_b L) (x_raceWrite_x L) (x_raceWrite_f L) (ad:=⟨_,1,none⟩) (by simp[Act.eval]<;>rfl),80,?_⟩
   walk_nrm
   u_c stepG_region_end (za hF2) hF
   u_c stepG_seq (za hF2) hF
   u_reg (za hF2) hF
   u_op (za hF2) hF
   u_c stepG_region_end (za hF2) hF
   iterate 2 (u_c stepG_seq (za hF2) hF)
   u_reg (za hF2) hF
   iterate 4 (u_op (za hF2) hF)
   u_skip (za hF2) hF
   u_op (za hF2) hF
   u_c stepG_region_end (za hF2) hF
   u_cond false (za hF2) hF
   u_c stepG_skip (za hF2) hF
   u_c stepG_seq (za hF2) hF
   u_reg (za hF2) hF
   iterate 4 (u_op (za hF2) hF)
   refine Goes.stop (fun w4 h4=>?_)
   replace hF:=za hF2 hF h4
   clear h4;refine⟨rfl,rfl,fun⟨st,hw⟩=>stepG_semacquire_wait rfl rfl rfl H.f_semacquire (x_semacquire_n L) (x_semacquire_b L) (x_semacquire_x L) (x_semacquire_f L) (by simp[Act.eval,smA]) hw.cellSm,fun hf=>?_⟩;refine⟨_,(stepG_semacquire (n:=1) rfl rfl (by k_ne) rfl H.f_semacquire (x_semacquire_n L) (x_semacquire_b L) (x_semacquire_x L) (x_semacquire_f L) (by simp[Act.eval,smA]) hf.cellSm (by k_ne) (hf.thaw 1)).trans (by rfl),40,?_⟩
   replace hF:F (w4.setCell (smA Wg) (.int .u32 0))∧WgLive L.tWg Wg (w4.setCell (smA Wg) (.int .u32 0)):=⟨hF2 _ _ (env_set hK rfl hf (hf.setSm 0)) hF.1,⟨_,_,hf.setSm 0⟩⟩
   clear hf
   walk_nrm
   u_c stepG_region_end (za hF2) hF
   u_c stepG_seq (za hF2) hF
   u_reg (za hF2) hF
   iterate 3 (u_op (za hF2) hF)
   u_call H.f_uLoad (nm_uLoad L) uLoadFn (za hF2) hF
   u_c stepG_seq (za hF2) hF
   u_reg (za hF2) hF
   u_op (za hF2) hF
   u_c stepG_region_end (za hF2) hF
   u_c stepG_seq (za hF2) hF
   u_reg (za hF2) hF
   iterate 3 (u_op (za hF2) hF)
   refine Goes.stop (fun w5 h5=>?_)
   replace hF:=za hF2 hF h5
   clear h5;refine⟨rfl,fun hw=>⟨_,stepG_load_atomic (v:=0) rfl rfl (by k_ne) rfl H.f_loadU64 (x_loadU64_n L) (x_loadU64_b L) (x_loadU64_x L) .u64 (x_loadU64_f L) rfl hw.cellSt,40,?_⟩⟩;clear hw
   walk_nrm
   u_op (za hF2) hF
   u_c stepG_region_end (za hF2) hF
   u_c stepG_ret' (za hF2) hF
   u_leave1 H.f_uLoad (za hF2) hF
   iterate 2 (u_op (za hF2) hF)
   u_c stepG_region_end (za hF2) hF
   u_c stepG_seq (za hF2) hF
   u_cond true (za hF2) hF
   u_c stepG_seq (za hF2) hF
   u_reg (za hF2) hF
   refine Goes.stop (fun w6 h6=>?_)
   replace hF:=za hF2 hF h6
   clear h6;refine⟨rfl,_,stepG_mark0 .enable (by simp) rfl rfl (by k_ne) rfl H.f_enable (x_enable_n L) (x_enable_b L) (x_enable_x L) (x_enable_f L),12,?_⟩
   walk_nrm
   u_c stepG_region_end (za hF2) hF
   u_reg (za hF2) hF
   u_op (za hF2) hF
   u_conv H.underlying_tWgP H.room_tWg (WgLive.cell0 hF.2).choose_spec (za hF2) hF
   refine Goes.stop (fun w7 h7=>?_)
   replace hF:=za hF2 hF h7
   clear h7;refine⟨rfl,_,stepG_markAt .acquire (by simp) rfl rfl (by k_ne) rfl H.f_acquire (x_acquire_n L) (x_acquire_b L) (x_acquire_x L) (x_acquire_f L) (by simp[Act.eval,stA]),fun hjn=>⟨40+mT,?_⟩⟩
   replace hF:F2 _∧WgLive L.tWg Wg _:=⟨hJ _ hF.1 hF.2 hjn,hF.2⟩
   refine goesX_of_goes (Stop:=fun g w=>GoesX P true S2 (WgLive L.tWg Wg) Q mT M2 g w) (fun g w h=>h) ?_
   walk_nrm
   u_c stepG_region_end (za hF3) hF
   iterate 2 (u_c stepG_seq (za hF3) hF)
   u_reg (za hF3) hF
   u_op (za hF3) hF
   u_c stepG_region_end (za hF3) hF
   u_cond false (za hF3) hF
   u_c stepG_skip (za hF3) hF
   u_c stepG_ret' (za hF3) hF
   u_leave0 H.f_wait (za hF3) hF
   exact Goes.stop (fun w9 h9=>hT _ (za hF3 hF h9).1 (za hF3 hF h9).2)
  ·refine⟨_,stepG_cas_miss (v:=(v':Int)*KK) (old:=Z) (n:=Z+1) rfl rfl (by k_ne) rfl H.f_casU64 (x_casU64_n L) (x_casU64_b L) (x_casU64_x L) .u64 (x_casU64_f L) rfl rfl rfl hw.cellSt (hw.thaw 0) (by rw[←hZ];simp only[KK];omega),30,?_⟩;clear hw
   walk_nrm
   u_op (za hF2) hF
   u_c stepG_region_end (za hF2) hF
   u_c stepG_ret' (za hF2) hF
   u_leave1 H.f_uCas (za hF2) hF
   u_c stepG_region_end (za hF2) hF
   u_cond false (za hF2) hF
   u_c stepG_skip (za hF2) hF
   u_c stepG_inBlock (za hF2) hF
   u_c stepG_inLoop (za hF2) hF
   exact Goes.stop (fun w3 h3=>⟨_,rfl,by simp,by simp,za hF2 hF h3⟩)
theorem waitStartX{P:Program}(H:WgLib P L)(hF2:∀ w w',Env (fun l=>M l∨S l) w w'→F w→F w')(w:World)(hF:F w∧WgLive L.tWg Wg w) :
  GX P L.tWg Wg (fun l=>M l∨S l) (YKd P L.tWg Wg (fun l=>M l∨S l) (AnchX L F Wg (b₀.at a₀ (.inRegion ops₀ (i₀::rest₀)::k₀)) cs)) 3
   (G ((base L.wait).at ⟨#[.pointer (some ⟨Wg,0,none⟩),undef,undef,undef,undef,undef,undef,undef,undef,undef,undef,undef,undef,undef,undef,undef,undef,undef,undef,undef,undef,undef,undef,undef,undef,undef,undef,undef,undef,undef,undef,undef,undef,undef,undef,undef,undef,undef,undef,undef,undef,undef,undef,undef,undef,undef,undef,undef,undef,undef,undef,undef,undef,undef,undef,undef,undef,undef,undef,undef,undef,undef,undef,undef,undef,undef,undef,undef,undef,undef,undef,undef,undef,undef,undef,undef,undef,undef,undef,undef,undef,undef,undef,undef],[]⟩ [.code (body_wait L)]) (b₀.at a₀ (.inRegion ops₀ (i₀::rest₀)::k₀)::cs)) w:=by
 lib_facts
 simp only[body_wait,waitFn,Option.getD_some]
 u_c stepG_seq (za hF2) hF
 u_cond true (za hF2) hF
 u_reg (za hF2) hF
 refine Goes.stop (fun w1 h1=>?_)
 replace hF:=za hF2 hF h1
 clear h1;refine⟨rfl,_,stepG_mark0 .disable (by simp) rfl rfl (by k_ne) rfl H.f_disable (x_disable_n L) (x_disable_b L) (x_disable_x L) (x_disable_f L),3,?_⟩
 walk_nrm
 u_c stepG_region_end (za hF2) hF
 u_c stepG_block (za hF2) hF
 u_c stepG_loop (za hF2) hF
 exact Goes.stop (fun w2 h2=>⟨_,rfl,by simp,by simp,za hF2 hF h2⟩)
end
end
section
open Go.Conc Go.ConcN Go.RowKit Go.Conc.Lib Go.ConcR.Gen Go.ConcN.Gen
open Go.ConcR (KK wgBlock WgAt stA smA rd wr mk Payload DC0)
variable [Payload]{L:WgLink}
theorem doneX{P:Program}(H:WgLib P L){Own Rd:Nat→Loc→Prop}{Wg C n Low k:Nat}{val:Value}{b₀:Frame}{a₀:Act}{ops₀:Array Oper}{i₀:Nat}{rest₀:List Nat}{k₀:List Item}{cs:List Frame}{qt:Nat}
  (hT:QuitsD P qt 0 (G (b₀.at (a₀.put ((ops₀[i₀]?).bind (·.dst)) (.tuple #[])) (.inRegion ops₀ rest₀::k₀)) cs)) (w:World) (hK:WgLive L.tWg Wg w∧Has C (k-1) val w) :
  Goes P false (RW L.tWg Wg C n Low (k-1)) (DWs Wg Own Rd C n k) (AtR0 P L.tWg Wg C n Low k val) 23 (G ((base L.done).at ⟨#[.pointer (some ⟨Wg,0,none⟩),undef,undef,undef],[]⟩ [.code (body_done L)]) (b₀.at a₀ (.inRegion ops₀ (i₀::rest₀)::k₀)::cs)) w:=by
 lib_facts
 have hA:=@addNegN _ L P H Own Rd Wg C n Low k val;simp only[body_done,body_add,doneFn,addFn,Option.getD_some] at hA ⊢
 u_reg kn_rely hK
 u_op kn_rely hK
 u_in kn_rely hK
 refine goes_call rfl rfl (by k_ne) rfl H.f_add (nm_add L) rfl ⟨by u_nil,?_⟩
 walk_nrmf addFn
 refine hA (qt:=qt+3) ?_ _ hK
 q_c stepG_region_end
 q_c stepG_end
 exact QuitsD.leave0 rfl rfl H.f_done rfl hT
end
section
variable {p:Tab}{f:Inj}{K Mi Sh:Loc→Prop}{h h':AHeap}{w:World}
inductive FK where
 |ptr
 |slice (n:Nat)
def FK.val:FK→Nat→Value
 |.ptr,l=>.pointer (some ⟨l,0,none⟩)
 |.slice n,l=>.slice (some ⟨l,0,none⟩) n n
def sliceCells(p:Tab)(t:TypeId)(len:Nat)(parts:List (Nat×Value)):Option (List Value):=
 match p.desc t with
 |some (.slice e)=>
  match p.size e,p.zero e with
  |some s,some z=>
   match Nat.ble (Nat.mul len s) 16777216 with
   |true=>
    match Instr.fill (fun i=>some (i*s,s)) (if len*s=0 then #[] else(Array.range (len*s)).map (z.cells[· % z.cells.size]!)) parts with
    |some cells=>some cells.toList
    |none=>none
   |false=>none
  |_,_=>none
 |_=>none
def zHb(p:Tab)(e:Ev)(o:Oper):Option (List Value×FK):=
 match o.op with
 |.alloc t=>match p.zero t with|some z=>some (z.cells.toList,.ptr)|none=>none
 |.buildSlice t n parts=>match evParts e parts.toList with
  |some ps=>match sliceCells p t n ps with|some cs=>some (cs,.slice n)|none=>none
  |none=>none
 |_=>none
theorem newRow_run(P:Program)(w:World)(e:TypeId)(rc:Array Value):(newRow e rc).run P w=.ok ⟨w.heap.size,0,none⟩ (zF w (.cells rc e (0,0)))∧∀ es,(newRow e rc).events P w es=es:=⟨rfl,fun _=>rfl⟩
theorem fresh_run(hp:TabOk p){e:Ev}{ρ:Operand→Value}(he:∀ x v,e x=some v→VRel f v (ρ x)){o:Oper}{vs:List Value}{k:FK}(ho:zHb p e o=some (vs,k))(w:World) :
  ∃ rc el,(execOp ρ o).run p.prog w=.ok (.value (k.val w.heap.size)) (zF w (.cells rc el (0,0)))∧(execOp ρ o).events p.prog w #[]=#[]∧VsRel f vs rc.toList:=by
 obtain⟨dst,op,type,pos,after,guard⟩:=o;unfold zHb at ho;simp only[] at ho;cases op with
 |alloc t=>
  simp only[] at ho;cases ez:p.zero t with
  |none=>rw[ez] at ho;cases ho
  |some z=>
   rw[ez] at ho;cases ho;obtain⟨r1,r2⟩:=newRow_run p.prog w t z.cells;refine⟨z.cells,t,?_,?_,(zB (f:=f) _ _ (zaa ez).1).cells⟩
   ·show(do pure (.value (←Instr.alloc t true (.tuple #[]))):Sem Next).run p.prog w=_;simp only[Instr.alloc,Sem.run_bind,zk hp w ez,Result.andThen_ok,newVar,r1,Sem.run_pure,FK.val]
   ·show(do pure (.value (←Instr.alloc t true (.tuple #[]))):Sem Next).events p.prog w #[]=_;simp only[Instr.alloc,Sem.run_bind,Sem.events_bind,zk hp w ez,events_zeroValue,Result.evThen_ok,Result.andThen_ok,newVar,r1,r2,Sem.events_pure,Sem.run_pure]
 |buildSlice t len parts=>
  simp only[] at ho;split at ho
  ·next ps e0=>
   split at ho
   ·next cs ec=>
    cases ho;have hps:=evParts_rel he e0;unfold sliceCells at ec;split at ec
    ·next el e1=>
     split at ec
     ·next s z e2 e3=>
      split at ec
      ·next hle=>
       have hle:len*s≤16777216:=Nat.le_of_ble_eq_true hle;split at ec
       ·next cells e4=>
        cases ec;have hz:=(zaa e3).1;have hfill:VsRel f (if len*s=0 then #[] else(Array.range (len*s)).map (z.cells[· % z.cells.size]!)).toList (if len*s=0 then #[] else(Array.range (len*s)).map (z.cells[· % z.cells.size]!)).toList:=by
         refine VsRel.of_get rfl fun i v v' a b=>?_
         rw[a] at b;cases b;by_cases h0:len*s=0
         ·rw[if_pos h0] at a;simp at a
         ·rw[if_neg h0] at a;simp only[Array.toList_map,List.getElem?_map,Option.map_eq_some_iff] at a;obtain⟨j,_,rfl⟩:=a;exact closed_cells hz _
        obtain⟨ps',hpe⟩:∃ q,q=parts.map fun(i,x)=>(i,ρ x):=⟨_,rfl⟩
        have hps':PartsRel f ps ps'.toList:=by rw[hpe];simpa using hps
        obtain⟨cells',k1,k2⟩:=zXb hps'.1 hps'.2 hfill e4;obtain⟨r1,r2⟩:=newRow_run p.prog w el cells';have hbig:¬(len*s>2 ^ 24):=by
         have:(2:Nat) ^ 24=16777216:=by decide
         omega
        have hbig':¬(16777216<len*s):=by omega
        have hr0:∀ g:Nat→Value,(Array.range 0).map g=#[]:=fun g=>Array.eq_empty_of_size_eq_zero (by simp)
        refine⟨cells',el,?_,?_,k2⟩
        ·show(do pure (.value (←Instr.buildSlice t len (parts.map fun(i,x)=>(i,ρ x)))):Sem Next).run p.prog w=_;rw[←hpe];by_cases h0:len*s=0
         ·rw[if_pos h0] at k1;simp only[Instr.buildSlice,Sem.run_bind,zb hp w e1,Result.andThen_ok,zh hp w e2,hbig,if_false,h0,if_true,Sem.run_pure,FK.val];simp only[hr0,k1];simp[r1]
         ·rw[if_neg h0] at k1;simp only[Instr.buildSlice,Sem.run_bind,zb hp w e1,Result.andThen_ok,zh hp w e2,hbig,if_false,h0,zk hp w e3,Sem.run_pure,FK.val];simp[k1,r1,h0]
        ·show(do pure (.value (←Instr.buildSlice t len (parts.map fun(i,x)=>(i,ρ x)))):Sem Next).events p.prog w #[]=_;rw[←hpe];by_cases h0:len*s=0
         ·rw[if_pos h0] at k1;simp only[Instr.buildSlice,Sem.events_bind,Sem.run_bind,zb hp w e1,events_underlying,Result.andThen_ok,Result.evThen_ok,zh hp w e2,events_sizeOf,hbig,if_false,h0,if_true,Sem.run_pure];simp only[hr0,k1];simp[r1,r2]
         ·rw[if_neg h0] at k1;simp only[Instr.buildSlice,Sem.events_bind,Sem.run_bind,zb hp w e1,events_underlying,Result.andThen_ok,Result.evThen_ok,zh hp w e2,events_sizeOf,hbig,if_false,h0,zk hp w e3,events_zeroValue,Sem.run_pure];simp[k1,r1,r2,h0]
       ·cases ec
      ·cases ec
     ·cases ec
    ·cases ec
   ·cases ho
  ·cases ho
 |_=>cases ho
theorem fill_late(hr:HRel f K Mi h w){vs:List Value}{rc:Array Value}(e:TypeId)(un:Nat){l:Nat}(hl:f l=none)(hobj:h.objs.get l=some (.cells (vs.map some) un l 0 [l]))(hv:VsRel f vs rc.toList) :
  HRel (f.put l ⟨w.heap.size,0,un,rc.size⟩) (fun l=>K l∨NewIn w.heap.size (w.heap.size+1) l) (fun l=>Mi l∨NewIn w.heap.size (w.heap.size+1) l) h (zF w (.cells rc e (0,0))):=by
 have hle:f.le (f.put l ⟨w.heap.size,0,un,rc.size⟩):=Inj.le_put hl;have old:∀ b x,f.put l ⟨w.heap.size,0,un,rc.size⟩ b=some x→b≠l→f b=some x:=fun b x e hb=>by rwa [Inj.put_ne _ _ hb] at e
 have ltb:∀ b x,f b=some x→x.blk<w.heap.size:=fun b x e=>let⟨o,_,e2⟩:=hr.obj b x e;e2.lt
 have hlen:vs.length=rc.size:=by have:=hv.length;simpa using this
 refine⟨hr.wf,fun b x eb=>?_,fun b x eb hl l' hlb=>?_,fun b x i eb hi=>?_,fun b b' x x' o o' eb eb' eo eo' hne=>?_,fun b b' x x' o o' eb eb' eo eo' he hx=>?_,fun b x eb=>?_⟩
 ·by_cases hb:b=l
  ·subst hb;rw[Inj.put_same] at eb;cases eb;refine⟨_,hobj,rfl,rc,e,zOa w _,rfl,by simp[hlen],fun i v hi=>?_⟩;have hi':vs[i]? = some v:=by simpa using hi
   obtain⟨v',g1,g2⟩:=hv.get i hi';refine⟨.inr ⟨w.heap.size,rfl,Nat.le_refl _,Nat.lt_succ_self _⟩,v',by simpa using g1,g2.mono hle⟩
  ·obtain⟨o,g1,g2⟩:=hr.obj b x (old b x eb hb);exact⟨o,g1,(g2.env (K':=K) (sameOn_pushed _ _ _ _) fun _ h=>h).mono hle fun _ h=>.inl h⟩
 ·by_cases hb:b=l
  ·subst hb;rw[Inj.put_same] at eb;cases eb;exact .inr ⟨w.heap.size,hlb,Nat.le_refl _,Nat.lt_succ_self _⟩
  ·exact .inl (hr.mine b x (old b x eb hb) hl l' hlb)
 ·by_cases hb:b=l
  ·subst hb;rw[Inj.put_same] at eb;cases eb;exact .inr ⟨w.heap.size,rfl,Nat.le_refl _,Nat.lt_succ_self _⟩
  ·exact .inl (hr.part b x i (old b x eb hb) hi)
 ·by_cases hb:b=l
  ·subst hb;rw[Inj.put_same] at eb;cases eb;by_cases hb':b'=b
   ·subst hb';rw[eo] at eo';cases eo';exact absurd rfl hne
   ·have:=ltb b' x' (old b' x' eb' hb');show w.heap.size≠x'.blk;omega
  ·have:=ltb b x (old b x eb hb);by_cases hb':b'=l
   ·subst hb';rw[Inj.put_same] at eb';cases eb';show x.blk≠w.heap.size;omega
   ·exact hr.apart b b' x x' o o' (old b x eb hb) (old b' x' eb' hb') eo eo' hne
 ·by_cases hb:b=l
  ·subst hb;rw[Inj.put_same] at eb;cases eb;by_cases hb':b'=b
   ·subst hb';rw[Inj.put_same] at eb';cases eb';rw[eo] at eo';cases eo';rfl
   ·have:=ltb b' x' (old b' x' eb' hb');exact absurd hx (by show w.heap.size≠x'.blk;omega)
  ·have:=ltb b x (old b x eb hb);by_cases hb':b'=l
   ·subst hb';rw[Inj.put_same] at eb';cases eb';exact absurd hx (by show x.blk≠w.heap.size;omega)
   ·exact hr.coord b b' x x' o o' (old b x eb hb) (old b' x' eb' hb') eo eo' he hx
 ·by_cases hb:b=l
  ·subst hb;rw[Inj.put_same] at eb;cases eb;exact .inr ⟨w.heap.size,rfl,Nat.le_refl _,Nat.lt_succ_self _⟩
  ·exact .inl (hr.home b x (old b x eb hb))
theorem HRel.spare(hr:HRel f K Mi h w)(vs:List Value)(un:Nat):HRel f K Mi (h.row vs un) w:=by
 have hne:∀ b x,f b=some x→b≠h.next:=fun b x e=>by obtain⟨o,e1,_⟩:=hr.obj b x e;have:=hr.wf.lt b o e1;omega
 have geto:∀ b,b≠h.next→(h.row vs un).objs.get b=h.objs.get b:=fun b hb=>T.get_set_ne _ _ hb
 exact{
  wf:=wf_row hr.wf vs un
  obj:=fun b x e=>let⟨o,e1,e2⟩:=hr.obj b x e;⟨o,by rw[geto b (hne b x e)];exact e1,e2⟩
  mine:=hr.mine
  part:=hr.part
  apart:=fun b b' x x' o o' e e' eo eo' hn=>hr.apart b b' x x' o o' e e' (by rw[←geto b (hne b x e)];exact eo) (by rw[←geto b' (hne b' x' e')];exact eo') hn
  coord:=fun b b' x x' o o' e e' eo eo' hn hx=>hr.coord b b' x x' o o' e e' (by rw[←geto b (hne b x e)];exact eo) (by rw[←geto b' (hne b' x' e')];exact eo') hn hx
  home:=hr.home}
theorem Old.spare(hr:HRel f K Mi h w)(vs:List Value)(un:Nat):Old f h f (h.row vs un):=by
 refine⟨Nat.le_succ _,fun b e hl=>?_,rfl,rfl,rfl⟩;obtain⟨c,y,hb⟩:=hl;have hne:b≠h.next:=by have:=hr.wf.lt b _ hb;omega
 exact⟨e,T.get_set_ne _ _ hne⟩
def zxb(o:Oper):Bool:=
 match o.op with
 |.move _|.pick .. |.build .. |.load .. |.nilCheck _|.binOp .. |.unOp .. |.convert .. |.makeFunc .. |.slice .. |.fieldAddr .. |.field .. |.indexAddr .. |.index .. |.lookup .. |.extract ..=>true
 |.call {callee:=.builtin b,..}=>match b with
  |.len|.min|.max|.cap=>true
  |_=>false
 |_=>false
theorem oLoad_still{t:TypeId}{a v:Value}(ho:oLoad p h t a=some (v,h')):h'=h:=by
 unfold oLoad at ho;split at ho
 ·split at ho<;>(try cases ho)<;>split at ho<;>first|(cases ho;rfl)|cases ho
 ·cases ho
theorem oLen_still{t:TypeId}{a v:Value}(ho:oLen p h t a=some (v,h')):h'=h:=by unfold oLen at ho;split at ho<;>first|(cases ho;rfl)|cases ho
theorem oBuiltin_still{b:Builtin}{ts:Array TypeId}{ty:TypeId}{cs:Array Bool}{args:List Value}{v:Value}(ho:zpb p h b ts ty cs args=some (v,h')):h'=h:=by
 unfold zpb at ho;split at ho
 ·split at ho
  ·split at ho<;>first|(cases ho;rfl)|cases ho
  ·cases ho
 ·cases ho
theorem zEb{x:Out}{r:OpR}(e1:zU x=some r)(e2:∀ v h',x=some (v,h')→h'=h):∃ v,r=.val v h:=by obtain⟨v,h1,ho1,rfl⟩:=zo e1;exact⟨v,by rw[e2 v h1 ho1]⟩
theorem aCall_still{e:Ev}{b:Builtin}{args:Array Operand}{ts:Array TypeId}{ty:TypeId}{r:OpR}(hb:b=.len∨b=.min∨b=.max∨b=.cap)(ho:aCall p h e {callee:=.builtin b,args,argTypes:=ts} ty=some r):∃ v,r=.val v h:=by
 unfold aCall at ho;simp only[] at ho;cases ea:evAll e args.toList with
 |none=>rw[ea] at ho;cases ho
 |some vs=>
  rw[ea] at ho;simp only[] at ho;rcases hb with rfl|rfl|rfl|rfl
  ·match vs with
   | []=>cases ho
   | [x]=>
    simp only[] at ho;split at ho
    ·exact zEb ho fun v h1 e1=>oLen_still e1
    ·cases ho
   |_::_::_=>cases ho
  ·exact zEb ho fun v h1 e1=>oBuiltin_still e1
  ·exact zEb ho fun v h1 e1=>oBuiltin_still e1
  ·exact zEb ho fun v h1 e1=>oBuiltin_still e1
theorem still_heap{e:Ev}{o:Oper}{r:OpR}(hs:zxb o=true)(ho:aop p h e o=some r):∃ v,r=.val v h:=by
 obtain⟨dst,op,type,pos,after,guard⟩:=o;unfold aop at ho;unfold zxb at hs;simp only[] at ho hs;have out:∀{x:Out},zU x=some r→(∀ v h',x=some (v,h')→h'=h)→∃ v,r=.val v h:=fun e1 e2=>zEb e1 e2
 cases op with
 |call c=>
  obtain⟨callee,args,argTypes⟩:=c;cases callee with
  |builtin b=>refine aCall_still ?_ ho;cases b<;>first|exact .inl rfl|exact .inr (.inl rfl)|exact .inr (.inr (.inl rfl))|exact .inr (.inr (.inr rfl))|(cases hs)
  |_=>(cases hs)
 |move x=>simp only[] at ho;split at ho<;>(first|(cases ho;exact⟨_,rfl⟩)|cases ho)
 |pick c a b=>simp only[] at ho;split at ho<;>(first|(cases ho;exact⟨_,rfl⟩)|cases ho)
 |nilCheck x=>simp only[] at ho;split at ho<;>(first|(cases ho;exact⟨_,rfl⟩)|cases ho)
 |load t a=>simp only[] at ho;split at ho<;>(first|exact out ho (fun v h1 e1=>oLoad_still e1)|cases ho)
 |build t ps=>simp only[] at ho;split at ho<;>(first|(refine out ho fun v h1 e1=>?_;unfold oBuild at e1;(repeat' split at e1);all_goals (first|(cases e1;rfl)|cases e1))|cases ho)
 |binOp op t x y z=>simp only[] at ho;split at ho<;>(first|(refine out ho fun v h1 e1=>?_;unfold oBin at e1;(repeat' split at e1);all_goals (first|(cases e1;rfl)|cases e1))|cases ho)
 |unOp op t x=>simp only[] at ho;split at ho<;>(first|(refine out ho fun v h1 e1=>?_;unfold oUn at e1;(repeat' split at e1);all_goals (first|(cases e1;rfl)|cases e1))|cases ho)
 |convert s t x=>simp only[] at ho;split at ho<;>(first|(refine out ho fun v h1 e1=>?_;unfold oConv at e1;(repeat' split at e1);all_goals (first|(cases e1;rfl)|cases e1))|cases ho)
 |makeFunc fn a c=>simp only[] at ho;split at ho<;>(first|(refine out ho fun v h1 e1=>?_;unfold oMakeFunc at e1;(repeat' split at e1);all_goals (first|(cases e1;rfl)|cases e1))|cases ho)
 |slice t x lo hi mx=>simp only[] at ho;split at ho<;>(first|(refine out ho fun v h1 e1=>?_;unfold oSlice at e1;(try unfold zFa at e1);(repeat' split at e1);all_goals (first|(cases e1;rfl)|cases e1))|cases ho)
 |fieldAddr s x i=>simp only[] at ho;split at ho<;>(first|(refine out ho fun v h1 e1=>?_;unfold oFieldAddr at e1;(repeat' split at e1);all_goals (first|(cases e1;rfl)|cases e1))|cases ho)
 |field t x i=>simp only[] at ho;split at ho<;>(first|(refine out ho fun v h1 e1=>?_;unfold oField at e1;(repeat' split at e1);all_goals (first|(cases e1;rfl)|cases e1))|cases ho)
 |indexAddr t x i=>simp only[] at ho;split at ho<;>(first|(refine out ho fun v h1 e1=>?_;unfold oIndexAddr at e1;(repeat' split at e1);all_goals (first|(cases e1;rfl)|cases e1))|cases ho)
 |index t x i=>simp only[] at ho;split at ho<;>(first|(refine out ho fun v h1 e1=>?_;unfold oIndex at e1;(repeat' split at e1);all_goals (first|(cases e1;rfl)|cases e1))|cases ho)
 |lookup t x k ok=>simp only[] at ho;split at ho<;>(first|(refine out ho fun v h1 e1=>?_;unfold oLookup at e1;(repeat' split at e1);all_goals (first|(cases e1;rfl)|cases e1))|cases ho)
 |extract x i=>simp only[] at ho;split at ho<;>(first|(refine out ho fun v h1 e1=>?_;unfold oExtract at e1;(repeat' split at e1);all_goals (first|(cases e1;rfl)|cases e1))|cases ho)
 |_=>(first|cases hs|(simp only[] at hs;cases hs))
end
section
inductive Lin(ops:Array Oper):(Nat→Prop)→List Nat→Prop where
 |nil {D:Nat→Prop} (h:∀ i,i<ops.size→D i):Lin ops D []
 |cons {D:Nat→Prop} {i:Nat} {o:Oper} {l:List Nat} (ho:ops[i]? = some o) (hn:¬ D i) (he:∀ e∈o.after,Region.binds .any e=true→D e.on) (t:Lin ops (fun j=>D j∨j=i) l):Lin ops D (i::l)
theorem Lin.congr{ops:Array Oper}:∀{l:List Nat} {D D':Nat→Prop},(∀ i,D i↔D' i)→Lin ops D l→Lin ops D' l
 |_,_,_,hd,.nil h=>.nil fun i hi=>(hd i).1 (h i hi)
 |_,_,_,hd,.cons ho hn he t=>.cons ho (fun h=>hn ((hd _).2 h)) (fun e h1 h2=>(hd _).1 (he e h1 h2)) (t.congr fun j=>by simp only[hd])
def zMa(ops:Array Oper):Bool:=(List.range ops.size).all fun i=>match ops[i]? with
 |some o=>o.after.all fun e=>!Region.binds .any e || Nat.blt e.on i
 |none=>true
theorem Lin.in_range{ops:Array Oper}:∀{l:List Nat} {D:Nat→Prop},Lin ops D l→∀ i∈l,i<ops.size
 |_,_,.nil _,i,h=>by cases h
 |_,_,.cons ho _ _ t,i,h=>by
  rcases List.mem_cons.1 h with rfl|h
  ·exact(Array.getElem?_eq_some_iff.1 ho).1
  ·exact t.in_range i h
theorem downward_spec{ops:Array Oper}(h:zMa ops=true){i:Nat}{o:Oper}(ho:ops[i]? = some o):∀ e∈o.after,Region.binds .any e=true→e.on<i:=by intro e he hb;have hi:i<ops.size:=(Array.getElem?_eq_some_iff.1 ho).1;unfold zMa at h;rw[List.all_eq_true] at h;have:=h i (List.mem_range.2 hi);rw[ho] at this;simp only[] at this;rw[Array.all_eq_true'] at this;have:=this e he;rw[hb] at this;simpa using this
def left(l:Array Bool):Nat:=(l.toList.filter fun b=>!b).length
theorem left_set{l:Array Bool}{i:Nat}(hi:l[i]? = some false):left (l.setIfInBounds i true)+1=left l:=by
 obtain⟨l⟩:=l;simp only[left,List.getElem?_toArray,List.setIfInBounds_toArray] at hi ⊢
 induction l generalizing i with
 |nil=>simp at hi
 |cons b l ih=>
  cases i with
  |zero=>simp at hi;subst hi;simp
  |succ i=>simp only[List.getElem?_cons_succ] at hi;have:=ih hi;cases b<;>simp[List.filter_cons] at this ⊢<;>omega
theorem left_pos{l:Array Bool}(h:left l≠0):∃ i:Nat,l[i]? = some false∧∀ j:Nat,j<i→l[j]? = some true:=by
 obtain⟨l⟩:=l;simp only[left,List.getElem?_toArray] at h ⊢
 induction l with
 |nil=>simp at h
 |cons b l ih=>
  cases b with
  |false=>exact⟨0,rfl,fun j hj=>absurd hj (by omega)⟩
  |true=>
   obtain⟨i,h1,h2⟩:=ih (by simpa[List.filter_cons] using h);refine⟨i+1,by simpa using h1,fun j hj=>?_⟩;cases j with
   |zero=>rfl
   |succ j=>simpa using h2 j (by omega)
theorem left_zero{l:Array Bool}(h:left l=0)(i:Nat)(hi:i<l.size):l[i]? = some true:=by
 apply Classical.byContradiction;intro hne;have hf:l[i]? = some false:=by
  rw[Array.getElem?_eq_getElem hi] at hne ⊢;cases e:l[i] with
  |true=>rw[e] at hne;exact absurd rfl hne
  |false=>rfl
 have:=left_set hf;omega
theorem lin_go{ops:Array Oper}(hdn:zMa ops=true):∀(n t:Nat) (listed:Array Bool),listed.size=ops.size→left listed=n →
  Lin ops (fun i=>listed[i]? = some true) (Region.linearise.go .any ops n t listed [])
 |0,t,listed,hsz,hl=>by simp only[Region.linearise.go,List.reverse_nil];exact .nil fun i hi=>left_zero hl i (by omega)
 |n+1,t,listed,hsz,hl=>by
  have acc:∀(fuel t:Nat) (listed:Array Bool) (acc:List Nat),Region.linearise.go .any ops fuel t listed acc=acc.reverse++Region.linearise.go .any ops fuel t listed []:=by
   intro fuel
   induction fuel with
   |zero=>intro t listed acc;simp[Region.linearise.go]
   |succ fuel ih=>
    intro t listed acc;simp only[Region.linearise.go];split
    ·rename_i i _;rw[ih _ _ (i::acc),ih _ _ [i]];simp
    ·simp
  simp only[Region.linearise.go];generalize hrs:(List.range ops.size).filter (fun i=>!listed.getD i true&&((ops[i]?).map (·.after.all fun e=>!Region.binds .any e || listed.getD e.on false)).getD false)=rs;have hne:rs≠[]:=by
   obtain⟨i,h1,h2⟩:=left_pos (l:=listed) (by omega);have hi:i<ops.size:=by rw[←hsz];exact(Array.getElem?_eq_some_iff.1 h1).1
   have hm:i∈rs:=by
    rw[←hrs,List.mem_filter];refine⟨List.mem_range.2 hi,?_⟩;have hoi:ops[i]? = some ops[i]:=Array.getElem?_eq_getElem hi;rw[hoi];simp only[Array.getD_eq_getD_getElem?,h1,Option.getD_some,Bool.not_false,Bool.true_and,Option.map_some];rw[Array.all_eq_true'];intro e he;cases hb:Region.binds .any e with
    |false=>rfl
    |true=>rw[h2 e.on (downward_spec hdn hoi e he hb)];rfl
   intro e;rw[e] at hm;cases hm
  have hlt:t % rs.length<rs.length:=Nat.mod_lt _ (by cases rs with|nil=>exact absurd rfl hne|cons=>simp);rw[List.getElem?_eq_getElem hlt];simp only[];rw[acc,List.reverse_singleton,List.singleton_append];have hm:rs[t % rs.length]∈rs:=List.getElem_mem hlt;generalize rs[t % rs.length]=i at hm ⊢;rw[←hrs,List.mem_filter] at hm;obtain⟨hi,hc⟩:=hm;have hi:=List.mem_range.1 hi;have hoi:ops[i]? = some ops[i]:=Array.getElem?_eq_getElem hi;rw[hoi] at hc;simp only[Option.map_some,Option.getD_some,Bool.and_eq_true,Bool.not_eq_true'] at hc;obtain⟨hc1,hc2⟩:=hc;have hil:i<listed.size:=by omega
  have hf:listed[i]? = some false:=by rw[Array.getD_eq_getD_getElem?,Array.getElem?_eq_getElem hil] at hc1;rw[Array.getElem?_eq_getElem hil];simpa using hc1
  refine .cons hoi (by rw[hf];simp) (fun e he hb=>?_) ?_
  ·rw[Array.all_eq_true'] at hc2;have:=hc2 e he;rw[hb] at this;simp only[Bool.not_true,Bool.false_or] at this;rw[Array.getD_eq_getD_getElem?] at this;cases e':listed[e.on]? with
   |none=>rw[e'] at this;simp at this
   |some b=>rw[e'] at this;simp at this;rw[this]
  ·refine(lin_go hdn n _ (listed.setIfInBounds i true) (by simpa using hsz) (by have:=left_set hf;omega)).congr fun j=>?_
   by_cases hj:j=i
   ·subst hj;simp[hil]
   ·rw[Array.getElem?_setIfInBounds_ne (Ne.symm hj)];simp[hj]
theorem left_replicate(n:Nat):left (Array.replicate n false)=n:=by simp[left]
theorem lin_schedule{ops:Array Oper}(hdn:zMa ops=true)(t:Nat):Lin ops (fun _=>False) (Region.schedule true ops t):=by
 simp only[Region.schedule,Bool.true_or,if_true,Region.linearise];refine(lin_go hdn ops.size t _ (by simp) (left_replicate _)).congr fun i=>?_
 simp[Array.getElem?_replicate]
end
section
structure Phase where
 quiet:List Nat
 again:List Nat
 loud:Option Nat
def befMask(acc:T Nat):List Edge→Nat→Nat
 | [],m=>m
 |e::es,m=>befMask acc es (match Region.binds .any e with
  |true=>m ||| 2 ^ e.on ||| (acc.get e.on).getD 0
  |false=>m)
def befs:List Oper→Nat→T Nat→T Nat
 | [],_,acc=>acc
 |o::os,i,acc=>befs os (Nat.succ i) (acc.set i (befMask acc o.after.toList 0))
def bef(B:T Nat)(i j:Nat):Bool:=Nat.testBit ((B.get i).getD 0) j
def zhc(t:Nat):List Operand→Bool
 | []=>false
 |.tmp i::l=>Nat.beq i t || zhc t l
 |_::l=>zhc t l
def looks(ops:Array Oper)(o:Oper)(t:Nat):Bool:=
 zhc t o.op.operands.toList ||
 match o.guard with
 |none=>false
 |some (j,_)=>match ops[j]? with
  |some q=>match q.dst with
   |some d=>Nat.beq d t
   |none=>false
  |none=>false
def inL(i:Nat):List Nat→Bool
 | []=>false
 |j::l=>Nat.beq j i || inL i l
def louds:List Phase→List Nat
 | []=>[]
 |ph::phs=>match ph.loud with
  |some i=>i::louds phs
  |none=>louds phs
def opsOf:List Phase→List Nat
 | []=>[]
 |ph::phs=>ph.quiet++(match ph.loud with|some i=>[i]|none=>[])++opsOf phs
def nodupB:List Nat→Bool
 | []=>true
 |i::l=>!inL i l&&nodupB l
def allBelow(f:Nat→Bool):Nat→Bool
 |0=>true
 |n+1=>f n&&allBelow f n
def dstIs(ops:Array Oper)(q t:Nat):Bool:=
 match ops[q]? with
 |some o=>match o.dst with
  |some d=>Nat.beq d t
  |none=>false
 |none=>false
def pairOk(ops:Array Oper)(B:T Nat)(ls:List Nat)(j q:Nat):Bool:=
 match ops[j]?,ops[q]? with
 |some oj,some oq=>
  match oq.dst with
  |none=>true
  |some t=>
   (!looks ops oj t || bef B j q || (inL q ls&&(bef B q j || Nat.beq q j))) &&
   (Nat.beq q j || !dstIs ops j t)
 |_,_=>false
def isBef(B:T Nat)(prev:Option Nat)(j:Nat):Bool:=
 match prev with
 |some i=>bef B j i
 |none=>true
def againOk(B:T Nat)(prev:Option Nat)(again:List Nat):List Nat→Bool
 | []=>true
 |j::l=>((match prev with|some i=>bef B i j|none=>false) || inL j again)&&againOk B prev again l
def phasesOk(B:T Nat)(qd:List Nat)(prev:Option Nat):List Phase→Bool
 | []=>false
 |ph::phs=>
  ph.quiet.all (isBef B prev)&&againOk B prev ph.again (ph.quiet++qd)&&ph.again.all (fun i=>inL i (ph.quiet++qd)) &&
  match ph.loud with
  |some i=>isBef B prev i&&phasesOk B (ph.quiet++qd) (some i) phs
  |none=>match phs with | []=>true|_=>false
def planOk(ops:Array Oper)(phs:List Phase):Bool:=
 let B:=befs ops.toList 0 .e
 let n:=ops.size
 zMa ops&&nodupB (opsOf phs)&&allBelow (fun i=>inL i (opsOf phs)) n&&(opsOf phs).all (fun i=>Nat.blt i n) &&
  allBelow (fun j=>allBelow (fun q=>pairOk ops B (louds phs) j q) n) n&&phasesOk B [] none phs
def eqL(f:Value→Value→Bool):List Value→List Value→Bool
 | [],[]=>true
 |a::l,b::m=>f a b&&eqL f l m
 |_,_=>false
def eqV:Nat→Value→Value→Bool
 |0,_,_=>false
 |n+1,a,b=>
  match a,b with
  |.bool x,.bool y=>decide (x=y)
  |.int k x,.int j y=>decide (k=j)&&decide (x=y)
  |.string x,.string y=>decide (x=y)
  |.pointer none,.pointer none=>true
  |.pointer (some ⟨b,o,none⟩),.pointer (some ⟨c,q,none⟩)=>Nat.beq b c&&Nat.beq o q
  |.slice none x y,.slice none u v=>Nat.beq x u&&Nat.beq y v
  |.slice (some ⟨b,o,none⟩) x y,.slice (some ⟨c,q,none⟩) u v=>Nat.beq b c&&Nat.beq o q&&Nat.beq x u&&Nat.beq y v
  |.map none,.map none=>true
  |.map (some x),.map (some y)=>Nat.beq x y
  |.func (.func x) a c,.func (.func y) a' c'=>Nat.beq x y&&eqL (eqV n) a.toList a'.toList&&eqL (eqV n) c.toList c'.toList
  |.func (.yield x) a c,.func (.yield y) a' c'=>Nat.beq x y&&eqL (eqV n) a.toList a'.toList&&eqL (eqV n) c.toList c'.toList
  |.nilFunc,.nilFunc=>true
  |.nilIface,.nilIface=>true
  |.agg x,.agg y=>eqL (eqV n) x.toList y.toList
  |.tuple x,.tuple y=>eqL (eqV n) x.toList y.toList
  |_,_=>false
def eqC:List Value→List (Option Value)→Bool
 | [],[]=>true
 |a::l,some b::m=>eqV 8 a b&&eqC l m
 |_,_=>false
def evOn(o:Oper)(t:T Value):Ev:=fun x=>
 match x with
 |.tmp i=>match zhc i o.op.operands.toList with
  |true=>ev t x
  |false=>none
 |_=>ev t x
def putT(nt:Nat)(t:T Value)(d:Option Tmp)(v:Value):Option (T Value):=
 match d with
 |none=>some t
 |some d=>match Nat.blt d nt with
  |true=>some (t.set d v)
  |false=>none
def quiet1(p:Tab)(ops:Array Oper)(fr:AF)(h:AHeap)(o:Oper):Option (Value×AHeap):=
 match zX ops fr o with
 |false=>some (undef,h)
 |true=>match zHb p (evOn o fr.tmps) o with
  |some (vs,k)=>some (k.val h.next,h.row vs 0)
  |none=>match zxb o with
   |true=>match aop p h (evOn o fr.tmps) o with
    |some (.val v _)=>some (v,h)
    |_=>none
   |false=>none
def reckon(p:Tab)(ops:Array Oper)(fr:AF):List Nat→T Value→AHeap→Option (T Value×AHeap)
 | [],t,h=>some (t,h)
 |i::is,t,h=>match ops[i]? with
  |some o=>match quiet1 p ops {fr with tmps:=t} h o with
   |some (v,h)=>match putT fr.nt t o.dst v with
    |some t=>reckon p ops fr is t h
    |none=>none
   |none=>none
  |none=>none
def labelOf(k:FK)(v:Option Value):Option Nat:=
 match k,v with
 |.ptr,some (.pointer (some ⟨l,0,none⟩))=>some l
 |.slice n,some (.slice (some ⟨l,0,none⟩) m c)=>match Nat.beq n m&&Nat.beq n c with
  |true=>some l
  |false=>none
 |_,_=>none
def sameRow(vs:List Value)(l:Nat):Option AObj→Bool
 |some (.cells c 0 r 0 [m])=>Nat.beq r l&&Nat.beq m l&&eqC vs c
 |_=>false
def zWa(p:Tab)(ops:Array Oper)(fr:AF)(h:AHeap)(o:Oper):Option (Option Nat):=
 match zX ops fr o with
 |false=>match o.dst with
  |some d=>match eqV 1 undef ((fr.tmps.get d).getD undef) || (match fr.tmps.get d with|some (.tuple a)=>(match a.toList with | []=>true|_=>false)|_=>false) with
   |true=>some none
   |false=>none
  |none=>some none
 |true=>match zHb p (evOn o fr.tmps) o with
  |some (vs,k)=>match o.dst with
   |some d=>match labelOf k (fr.tmps.get d) with
    |some l=>match sameRow vs l (h.objs.get l) with
     |true=>some (some l)
     |false=>none
    |none=>none
   |none=>none
  |none=>match zxb o with
   |true=>match aop p h (evOn o fr.tmps) o with
    |some (.val v _)=>match o.dst with
     |some d=>match fr.tmps.get d with
      |some u=>match eqV 8 v u with
       |true=>some none
       |false=>none
      |none=>none
     |none=>some none
    |_=>none
   |false=>none
def checkAll(p:Tab)(ops:Array Oper)(fr:AF)(h:AHeap):List Nat→List Nat→Bool
 | [],_=>true
 |i::is,ls=>match ops[i]? with
  |some o=>match zWa p ops fr h o with
   |some (some l)=>!inL l ls&&checkAll p ops fr h is (l::ls)
   |some none=>checkAll p ops fr h is ls
   |none=>false
  |none=>false
def phaseA(p:Tab)(ops:Array Oper)(fr:AF)(ph:Phase)(h:AHeap):Option (T Value×AHeap):=
 match reckon p ops fr ph.quiet fr.tmps h with
 |some (t,h)=>match checkAll p ops {fr with tmps:=t} h ph.again [] with
  |true=>some (t,h)
  |false=>none
 |none=>none
structure Lay where
 fr:AF
 cs:List AF
 ops:Array Oper
 o:Oper
 phs:List Phase
structure L where
 s:S
 reg:Option (Array Oper×List Phase)
 lay:List Lay
inductive RL where
 |next (x:L)
 |done (v:Value) (h:AHeap)
 |stop (x:L)
 |stuck
def loudD(p:Tab)(x:L)(ops:Array Oper)(o:Oper)(phs:List Phase)(t:T Value)(h:AHeap):RL:=
 let fr:={x.s.fr with tmps:=t}
 match zX ops fr o with
 |false=>match putT fr.nt t o.dst undef with
  |some t=>.next {x with s:={x.s with fr:={fr with tmps:=t},h},reg:=some (ops,phs)}
  |none=>.stuck
 |true=>match aop p h (evOn o t) o with
  |some (.val v h)=>match putT fr.nt t o.dst v with
   |some t=>.next {x with s:={x.s with fr:={fr with tmps:=t},h},reg:=some (ops,phs)}
   |none=>.stuck
  |some (.call g args h)=>match zIa p g args false with
   |some c=>.next {s:={fr:=c,cs:=[],h},reg:=none,lay:=⟨fr,x.s.cs,ops,o,phs⟩::x.lay}
   |none=>.stuck
  |some (.yield l args h)=>match h.objs.get l with
   |some (.loop r)=>match setParams r.nt r.params.toList args r.tmps with
    |some t=>.next {s:={fr:={fn:=r.fn,nt:=r.nt,tmps:=t,todo:=[.code r.assign,.beginRound,.code r.body],defers:=[],ret:=false,deferred:=false,round:=some l},cs:=[],h},reg:=none,lay:=⟨fr,x.s.cs,ops,o,phs⟩::x.lay}
    |none=>.stuck
   |_=>.stuck
  |_=>.stuck
def drawAt(fr:AF):Option (Nat×Array Oper×List AI):=
 match fr.ret,fr.todo with
 |false,.code (.region id ops true)::k=>some (id,ops,k)
 |_,_=>none
def stepL(p:Tab)(pl:T (T (List Phase)))(x:L):RL:=
 match x.reg with
 |some (ops,phs)=>match phs with
  | []=>.stuck
  |ph::phs=>match phaseA p ops x.s.fr ph x.s.h with
   |some (t,h)=>match ph.loud with
    |some i=>match ops[i]? with
     |some o=>loudD p x ops o phs t h
     |none=>.stuck
    |none=>match phs with
     | []=>.next {x with s:={x.s with fr:={x.s.fr with tmps:=t},h},reg:=none}
     |_::_=>.stuck
   |none=>.stuck
 |none=>match drawAt x.s.fr with
  |some (id,ops,k)=>match pl.get x.s.fr.fn with
   |some q=>match q.get id with
    |some phs=>match planOk ops phs with
     |true=>.next {x with s:={x.s with fr:={x.s.fr with todo:=k}},reg:=some (ops,phs)}
     |false=>.stuck
    |none=>.stuck
   |none=>.stuck
  |none=>match step p x.s with
   |.next s=>.next {x with s}
   |.stop s=>.stop {x with s}
   |.stuck=>.stuck
   |.done v h=>match x.lay with
    | []=>.done v h
    |y::lay=>match x.s.fr.deferred,putT y.fr.nt y.fr.tmps y.o.dst v with
     |false,some t=>.next {s:={fr:={y.fr with tmps:=t},cs:=y.cs,h},reg:=some (y.ops,y.phs),lay}
     |_,_=>.stuck
def runL(p:Tab)(pl:T (T (List Phase))):Nat→L→RL
 |0,x=>.next x
 |n+1,x=>match stepL p pl x with
  |.next x=>runL p pl n x
  |r=>r
end
section
theorem inL_iff{i:Nat}:∀{l:List Nat},inL i l=true↔i∈l
 | []=>by simp[inL]
 |j::l=>by
  simp only[inL,Bool.or_eq_true,inL_iff (l:=l),List.mem_cons];constructor
  ·rintro(h|h)
   ·exact .inl (Nat.eq_of_beq_eq_true h).symm
   ·exact .inr h
  ·rintro(h|h)
   ·exact .inl (by rw[h];exact Nat.beq_refl j)
   ·exact .inr h
theorem inL_false{i:Nat}{l:List Nat}:inL i l=false↔i∉l:=by rw[←Bool.not_eq_true,inL_iff]
theorem nodupB_spec:∀{l:List Nat},nodupB l=true→l.Nodup
 | [],_=>.nil
 |i::l,h=>by simp only[nodupB,Bool.and_eq_true,Bool.not_eq_true'] at h;exact List.nodup_cons.2 ⟨inL_false.1 h.1,nodupB_spec h.2⟩
theorem allBelow_spec{f:Nat→Bool}:∀{n:Nat},allBelow f n=true→∀ i,i<n→f i=true
 |0,_,i,hi=>absurd hi (by omega)
 |n+1,h,i,hi=>by
  simp only[allBelow,Bool.and_eq_true] at h;by_cases e:i=n
  ·rw[e];exact h.1
  ·exact allBelow_spec h.2 i (by omega)
theorem befMask_spec{acc:T Nat}{j:Nat}:∀{es:List Edge} {m:Nat},(befMask acc es m).testBit j=true→m.testBit j=true∨∃ e∈es,Region.binds .any e=true∧(e.on=j∨((acc.get e.on).getD 0).testBit j=true)
 | [],m,h=>.inl h
 |e::es,m,h=>by
  simp only[befMask] at h;rcases befMask_spec h with h|⟨e',h1,h2⟩
  ·cases hb:Region.binds .any e with
   |false=>rw[hb] at h;exact .inl h
   |true=>
    rw[hb] at h;simp only[Nat.testBit_or,Bool.or_eq_true,Nat.testBit_two_pow,decide_eq_true_eq] at h;rcases h with(h|h)|h
    ·exact .inl h
    ·exact .inr ⟨e,List.mem_cons_self,hb,.inl h⟩
    ·exact .inr ⟨e,List.mem_cons_self,hb,.inr h⟩
  ·exact .inr ⟨e',List.mem_cons_of_mem _ h1,h2⟩
theorem befs_lt:∀{os:List Oper} {i:Nat} {acc:T Nat} {k:Nat},k<i→(befs os i acc).get k=acc.get k
 | [],_,_,_,_=>rfl
 |o::os,i,acc,k,hk=>by simp only[befs];rw[befs_lt (by omega),T.get_set_ne _ _ (by omega)]
theorem befs_at:∀{os:List Oper} {i:Nat} {acc:T Nat} {j:Nat} {o:Oper},os[j]? = some o→∃ acc',(befs os i acc).get (i+j)=some (befMask acc' o.after.toList 0)∧∀ k,k<i+j→acc'.get k=(befs os i acc).get k
 | [],_,_,_,_,h=>by simp at h
 |o'::os,i,acc,0,o,h=>by
  simp at h;subst h;refine⟨acc,?_,fun k hk=>?_⟩
  ·simp only[befs];rw[befs_lt (by omega)];exact T.get_set_same _ _ _
  ·simp only[befs];rw[befs_lt (by omega),T.get_set_ne _ _ (by omega)]
 |o'::os,i,acc,j+1,o,h=>by
  obtain⟨acc',h1,h2⟩:=befs_at (i:=Nat.succ i) (acc:=acc.set i (befMask acc o'.after.toList 0)) (j:=j) (os:=os) (by simpa using h);refine⟨acc',?_,fun k hk=>?_⟩
  ·simp only[befs];rw[show i+(j+1)=Nat.succ i+j by omega];exact h1
  ·simp only[befs];exact h2 k (by omega)
theorem bef_edge{ops:Array Oper}(hdn:zMa ops=true){i j:Nat}{o:Oper}(ho:ops[i]? = some o)(h:bef (befs ops.toList 0 .e) i j=true) :
  ∃ e∈o.after,Region.binds .any e=true∧(e.on=j∨bef (befs ops.toList 0 .e) e.on j=true):=by
 obtain⟨acc',h1,h2⟩:=befs_at (os:=ops.toList) (i:=0) (acc:=.e) (j:=i) (o:=o) (by simpa using ho);unfold bef at h;rw[Nat.zero_add] at h1;rw[h1] at h;simp only[Option.getD_some] at h;rcases befMask_spec h with h|⟨e,g1,g2,g3⟩
 ·simp at h
 ·have g1':e∈o.after:=by simpa using g1
  refine⟨e,g1',g2,?_⟩;rcases g3 with g3|g3
  ·exact .inl g3
  ·refine .inr ?_;unfold bef;rw[←h2 e.on (by have:=downward_spec hdn ho e g1' g2;omega)];exact g3
def zwb(ops:Array Oper)(D:Nat→Prop):Prop:=∀ i,D i→∀ j,bef (befs ops.toList 0 .e) i j=true→D j
theorem zwb.head{ops:Array Oper}(hdn:zMa ops=true){D:Nat→Prop}(hc:zwb ops D){i:Nat}{o:Oper}(ho:ops[i]? = some o)(he:∀ e∈o.after,Region.binds .any e=true→D e.on) :
  ∀ j,bef (befs ops.toList 0 .e) i j=true→D j:=by
 intro j hj;obtain⟨e,h1,h2,h3⟩:=bef_edge hdn ho hj;rcases h3 with rfl|h3
 ·exact he e h1 h2
 ·exact hc e.on (he e h1 h2) j h3
theorem zwb.cons{ops:Array Oper}(hdn:zMa ops=true){D:Nat→Prop}(hc:zwb ops D){i:Nat}{o:Oper}(ho:ops[i]? = some o)(he:∀ e∈o.after,Region.binds .any e=true→D e.on) :
  zwb ops (fun j=>D j∨j=i):=by
 intro a ha j hj;rcases ha with ha|rfl
 ·exact .inl (hc a ha j hj)
 ·exact .inl (hc.head hdn ho he j hj)
theorem zwb.none{ops:Array Oper}:zwb ops (fun _=>False):=fun _ h=>h.elim
structure PlanOk(ops:Array Oper)(phs:List Phase):Prop where
 dn:zMa ops=true
 nd:(opsOf phs).Nodup
 cov:∀ i,i<ops.size→i∈opsOf phs
 lt:∀ i∈opsOf phs,i<ops.size
 pair:∀ j q,j<ops.size→q<ops.size→pairOk ops (befs ops.toList 0 .e) (louds phs) j q=true
 ok:phasesOk (befs ops.toList 0 .e) [] none phs=true
theorem planOk_spec{ops:Array Oper}{phs:List Phase}(h:planOk ops phs=true):PlanOk ops phs:=by unfold planOk at h;simp only[Bool.and_eq_true] at h;obtain⟨⟨⟨⟨⟨h1,h2⟩,h3⟩,h4⟩,h5⟩,h6⟩:=h;refine⟨h1,nodupB_spec h2,fun i hi=>inL_iff.1 (allBelow_spec h3 i hi),fun i hi=>?_,fun j q hj hq=>allBelow_spec (allBelow_spec h5 j hj) q hq,h6⟩;rw[List.all_eq_true] at h4;have:=h4 i hi;exact Nat.lt_of_succ_le (by simpa[Nat.blt] using this)
theorem zUa{ops:Array Oper}{q t:Nat}:dstIs ops q t=true↔∃ o,ops[q]? = some o∧o.dst=some t:=by
 unfold dstIs;cases e:ops[q]? with
 |none=>simp
 |some o=>
  cases e':o.dst with
  |none=>simp[e']
  |some d=>simp only[Option.some.injEq,exists_eq_left',e'];exact⟨fun h=>Nat.eq_of_beq_eq_true h,fun h=>by rw[h];exact Nat.beq_refl t⟩
theorem pairOk_spec{ops:Array Oper}{B:T Nat}{ls:List Nat}{j q t:Nat}{oj oq:Oper}(hj:ops[j]? = some oj)(hq:ops[q]? = some oq)(hd:oq.dst=some t)(h:pairOk ops B ls j q=true) :
  (looks ops oj t=true→bef B j q=true∨(q∈ls∧(bef B q j=true∨q=j)))∧(q≠j→dstIs ops j t=false):=by
 unfold pairOk at h;rw[hj,hq] at h;simp only[hd,Bool.and_eq_true,Bool.or_eq_true,Bool.not_eq_true'] at h;refine⟨fun hl=>?_,fun hne=>?_⟩
 ·rcases h.1 with(h1|h1)|h1
  ·rw[hl] at h1;cases h1
  ·exact .inl h1
  ·refine .inr ⟨inL_iff.1 h1.1,?_⟩;rcases h1.2 with h2|h2
   ·exact .inl h2
   ·exact .inr (Nat.eq_of_beq_eq_true h2)
 ·rcases h.2 with h1|h1
  ·exact absurd (Nat.eq_of_beq_eq_true h1) hne
  ·exact h1
theorem eqL_eq{f:Value→Value→Bool}(hf:∀ a b,f a b=true→a=b):∀{l m:List Value},eqL f l m=true→l=m
 | [],[],_=>rfl
 |a::l,b::m,h=>by simp only[eqL,Bool.and_eq_true] at h;rw[hf a b h.1,eqL_eq hf h.2]
 | [],_::_,h=>by simp[eqL] at h
 |_::_,[],h=>by simp[eqL] at h
theorem eqV_eq:∀{n:Nat} {a b:Value},eqV n a b=true→a=b
 |0,_,_,h=>by simp[eqV] at h
 |n+1,a,b,h=>by
  have ih:∀{l m:Array Value},eqL (eqV n) l.toList m.toList=true→l=m:=fun h=>Array.toList_inj.1 (eqL_eq (fun a b h=>eqV_eq h) h)
  unfold eqV at h;split at h<;>(try simp only[Bool.and_eq_true,decide_eq_true_eq,reduceCtorEq] at h)<;>first
   |rfl
   |(cases h;rfl)
   |(obtain⟨h1,h2⟩:=h;cases h1;cases h2;rfl)
   |(obtain⟨h1,h2⟩:=h;rw[Nat.eq_of_beq_eq_true h1,Nat.eq_of_beq_eq_true h2])
   |(rw[Nat.eq_of_beq_eq_true h])
   |(obtain⟨⟨⟨h1,h2⟩,h3⟩,h4⟩:=h;rw[Nat.eq_of_beq_eq_true h1,Nat.eq_of_beq_eq_true h2,Nat.eq_of_beq_eq_true h3,Nat.eq_of_beq_eq_true h4])
   |(obtain⟨⟨h1,h2⟩,h3⟩:=h;rw[Nat.eq_of_beq_eq_true h1,ih h2,ih h3])
   |(rw[ih h])
theorem eqC_eq:∀{l:List Value} {m:List (Option Value)},eqC l m=true→m=l.map some
 | [],[],_=>rfl
 |a::l,some b::m,h=>by simp only[eqC,Bool.and_eq_true] at h;rw[eqV_eq h.1,eqC_eq h.2];rfl
 | [],_::_,h=>by simp[eqC] at h
 |_::_,[],h=>by simp[eqC] at h
 |_::_,none::_,h=>by simp[eqC] at h
theorem sameRow_spec{vs:List Value}{l:Nat}{o:Option AObj}(h:sameRow vs l o=true):o=some (.cells (vs.map some) 0 l 0 [l]):=by
 unfold sameRow at h;split at h
 ·simp only[Bool.and_eq_true] at h;obtain⟨⟨h1,h2⟩,h3⟩:=h;rw[Nat.eq_of_beq_eq_true h1,Nat.eq_of_beq_eq_true h2,eqC_eq h3]
 ·cases h
theorem zGa{k:FK}{v:Option Value}{l:Nat}(h:labelOf k v=some l):v=some (k.val l):=by
 unfold labelOf at h;split at h
 ·cases h;rfl
 ·split at h
  ·next hb=>cases h;simp only[Bool.and_eq_true] at hb;rw[←Nat.eq_of_beq_eq_true hb.1,←Nat.eq_of_beq_eq_true hb.2];rfl
  ·cases h
 ·cases h
end
end Go.Cx
