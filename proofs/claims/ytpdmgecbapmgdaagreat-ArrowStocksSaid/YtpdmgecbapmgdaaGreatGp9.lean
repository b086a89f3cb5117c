/- A part of the proof that ArrowStocks returns true for every input: no further condition. -/
import Derived.Test.YtpdmgecbapmgdaaGreatGp8
set_option linter.unusedVariables false
set_option maxHeartbeats 2000000
set_option maxRecDepth 100000
namespace Go.Proofs.YtpdmgecbapmgdaaGreat
section
open Go.RowKit Go.Cx Go.Conc Go.ChangeShapes Go.WideShapes Go.ChangeAt
theorem enter11(v0 v1 v2 v3 v4:Value):Frame.enter Tryz.prog 11 #[v0,v1,v2,v3,v4] .normal=(lawFr 11).atR {tmps:=#[v0,v1,v2,v3,v4]++Array.replicate 168 undef,defers:=[]} [.code A11]:=by have hb:Tryz.f11.body=some A11:=rfl;have hn:Tryz.f11.ntmps=173:=rfl;simp[Frame.enter,Frame.atR,Tryz.func11,hb]
theorem stocks_run(rs rl rw many:Int)(A:Option Addr)(n c:Nat)(sh:Nat→Shaft)(x:Shaft)(sk wv:Nat)(y0 y1:Int)(W:World)(hsk:sk≤255)(hwv:wv≤255)(hc:n≤c)(hsh:zA W A n sh) :
  ∃ M last o w' t',runNT Tryz.prog (M+1) (solo (G (Frame.enter Tryz.prog 11 #[zga rs rl rw many A n c,yVa x,.int .u8 sk,.int .u8 wv,spanV y0 y1] .normal) []) W) #[]=(.ended o w',t') ∧
   runN Tryz.prog M (solo (G (Frame.enter Tryz.prog 11 #[zga rs rl rw many A n c,yVa x,.int .u8 sk,.int .u8 wv,spanV y0 y1] .normal) []) W)=.next last∧Go.step Tryz.prog last=.ended o w' ∧
   Go.Conc.Good Tryz.prog (fun v w1=>v=.bool true∧Below W.heap.size W w1) last o w' t':=
 law_run (enter11 _ _ _ _ _) fin11 Tryz.func11 rfl (by omega) (stocks_walk rs rl rw many A n c sh x sk wv y0 y1 (strike W) hsk hwv hc (Lib.hid (shafts_strike hsh)))
section
variable {H:Type}{enc:TypeId×Value→H}{P:Program}{w:World}{base:Nat}{spare:Nat→Bool}{held:Bool}
theorem trodAll_five{t0 t1 t2 t3 t4:TypeId}{args:Array Value}{ds:List (DataW H)}{ps:List MemPlace}(h:DataW.TrodAll enc P w base spare held [t0,t1,t2,t3,t4] args.toList ds ps) :
  ∃ v0 v1 v2 v3 v4 d0 d1 d2 d3 d4 p0 p1 p2 p3 p4,args=#[v0,v1,v2,v3,v4]∧ds=[d0,d1,d2,d3,d4]∧ps=p0++(p1++(p2++(p3++p4)))∧DataW.Trod enc P w base spare held t0 v0 d0 p0∧DataW.Trod enc P w base spare held t1 v1 d1 p1 ∧
   DataW.Trod enc P w base spare held t2 v2 d2 p2∧DataW.Trod enc P w base spare held t3 v3 d3 p3∧DataW.Trod enc P w base spare held t4 v4 d4 p4:=by
 obtain⟨v0,vs0,d0,e0,p0,q0,hargs,rfl,rfl,h0,r0⟩:=trodAll_cons h;obtain⟨v1,vs1,d1,e1,p1,q1,rfl,rfl,rfl,h1,r1⟩:=trodAll_cons r0;obtain⟨v2,vs2,d2,e2,p2,q2,rfl,rfl,rfl,h2,r2⟩:=trodAll_cons r1;obtain⟨v3,vs3,d3,e3,p3,q3,rfl,rfl,rfl,h3,r3⟩:=trodAll_cons r2;obtain⟨v4,vs4,d4,e4,p4,q4,rfl,rfl,rfl,h4,r4⟩:=trodAll_cons r3;obtain⟨rfl,rfl,rfl⟩:=trodAll_nil r4;exact⟨v0,v1,v2,v3,v4,d0,d1,d2,d3,d4,p0,p1,p2,p3,p4,by cases args;simp_all,rfl,by simp,h0,h1,h2,h3,h4⟩
theorem trodAll_mk5{t0 t1 t2 t3 t4:TypeId}{v0 v1 v2 v3 v4:Value}{d0 d1 d2 d3 d4:DataW H}{p0 p1 p2 p3 p4:List MemPlace}(h0:DataW.Trod enc P w base spare held t0 v0 d0 p0)(h1:DataW.Trod enc P w base spare held t1 v1 d1 p1)
  (h2:DataW.Trod enc P w base spare held t2 v2 d2 p2) (h3:DataW.Trod enc P w base spare held t3 v3 d3 p3) (h4:DataW.Trod enc P w base spare held t4 v4 d4 p4) :
  DataW.TrodAll enc P w base spare held [t0,t1,t2,t3,t4] [v0,v1,v2,v3,v4] [d0,d1,d2,d3,d4] (p0++(p1++(p2++(p3++p4)))):=
 ⟨p0,_,h0,⟨p1,_,h1,⟨p2,_,h2,trodAll_mk2 h3 h4,rfl⟩,rfl⟩,rfl⟩
end
theorem agg_of{W:World}{b0:Nat}{r:Go.Reach}{t:TypeId}{v:Value}{fs:Array Field}(e:Tryz.prog.underlying t=some (.struct fs))(h:Value.okWide Tryz.prog W r b0 t v):∃ cs,v=.agg cs:=by unfold Value.okWide at h;rw[e] at h;obtain⟨cs,h,_⟩:=h;exact⟨cs,h⟩
theorem two_ofS{l:List Value}(h:l.length=2):∃ a b,l=[a,b]:=by
 match l,h with
 | [a,b],_=>exact⟨a,b,rfl⟩
theorem open_spanS{H:Type}{enc:TypeId×Value→H}{W:World}{b0 base:Nat}{r:Go.Reach}{sp:Nat→Bool}{held:Bool}{v:Value}{d:DataW H}{ps:List MemPlace}(hv4:Value.okWide Tryz.prog W r b0 52 v)(h:DataW.Trod enc Tryz.prog W base sp held 52 v d ps):∃ x0 x1:Int,v=spanV x0 x1:=by obtain⟨f2,f3,e52,_⟩:=yO fo52;obtain⟨fuel4,hf4⟩:=h;obtain⟨⟨l⟩,rfl⟩:=agg_of e52 hv4;have hf5:DataW.trod enc Tryz.prog W base sp held fuel4 52 l=some (d,ps):=hf4;obtain⟨y0,y1,m,_,hl,t0,t1⟩:=trod_struct2 e52 hf5;rw[co52] at hl;obtain⟨c0,c1,rfl⟩:=two_ofS hl;obtain⟨u,v,rfl,rfl⟩:=yX hf5;exact⟨u,v,rfl⟩
theorem open_shaftS{H:Type}{enc:TypeId×Value→H}{W:World}{b0 base:Nat}{r:Go.Reach}{sp:Nat→Bool}{held:Bool}{v:Value}{d:DataW H}{ps:List MemPlace}(hv4:Value.okWide Tryz.prog W r b0 65 v)(h:DataW.Trod enc Tryz.prog W base sp held 65 v d ps):∃ x:Shaft,v=yVa x:=by obtain⟨f0,f1,f2,f3,e65,_⟩:=yS fo65;obtain⟨fuel4,hf4⟩:=h;obtain⟨⟨l⟩,rfl⟩:=agg_of e65 hv4;have hf5:DataW.trod enc Tryz.prog W base sp held fuel4 65 l=some (d,ps):=hf4;obtain⟨y,rfl⟩:=yia hf5;exact⟨y,rfl⟩
theorem ul5s:Tryz.prog.underlying 5=some (.int .u8):=by kernel_rfl
theorem params11:Tryz.f11.params.toList=[26,65,5,5,52]:=rfl
theorem stocks_lifted(os:Os)(started:os.Started)(H:Type)(enc:TypeId×Value→H) :
  ReturnsInLeavingWide {} Tryz.checked os 11 .any (Rows.arrowStocksSpec.pre6 enc Tryz.prog Tryz.f11 Rows.arrowStocksRow.domain false) (Rows.arrowStocksSpec.post enc Tryz.prog Tryz.f11 false true false false):=by
 refine returnsInLeavingWide_of_change_sized (C:=Tryz.checked) own started Tryz.func11
  (ChangeSpec.witness6 (enc:=enc) (C:=Tryz.checked) false ⟨#[],#[.agg #[.int .i64 0,.int .i64 0,.int .i64 0,.int .i64 0,.slice none 0 0],.agg #[.string .empty,.int .i64 0,.int .i64 0,.int .i64 0,.int .i64 0,.int .i64 0,.int .i64 0],.int .u8 0,.int .u8 0,.agg #[.int .i64 0,.int .i64 0]],[]⟩ 8 (by kernel_rfl) (by kernel_rfl) (by kernel_rfl) (by kernel_rfl)) ?_
 intro W base args ds gs before hval0 hW _ _ _;have hval:∀(j:Nat) t v,Tryz.f11.params[j]? = some t→args[j]? = some v→Value.okWide Tryz.prog W .any base t v:=hval0;have hW':=hW;obtain⟨p,q,hA0,hV,rfl,_,_⟩:=hW;have hA:DataW.TrodAll enc Tryz.prog W 0 (fun _=>true) true Tryz.f11.params.toList args.toList ds p:=hA0;rw[params11] at hA;obtain⟨v0,v1,v2,v3,v4,d0,d1,d2,d3,d4,p0,p1,p2,p3,p4,rfl,rfl,rfl,h0,h1,h2,h3,h4⟩:=trodAll_five hA;obtain⟨rfl,rfl⟩:=trodVars_none hV;obtain⟨sn,rfl,rfl,rfl,hws⟩:=open_int ul5s (hval 2 5 v2 rfl rfl) h2;obtain⟨vn,rfl,rfl,rfl,hwv⟩:=open_int ul5s (hval 3 5 v3 rfl rfl) h3;obtain⟨s,rfl,hs⟩:∃ s:Nat,sn=s∧s≤255:=by simp[Lit.wf,IntKind.min,IntKind.max,IntKind.signed,IntKind.bits] at hws;exact⟨sn.toNat,by omega,by omega⟩
 obtain⟨v,rfl,hv⟩:∃ v:Nat,vn=v∧v≤255:=by simp[Lit.wf,IntKind.min,IntKind.max,IntKind.signed,IntKind.bits] at hwv;exact⟨vn.toNat,by omega,by omega⟩
 obtain⟨x,rfl⟩:=open_shaftS (hval 1 65 v1 rfl rfl) h1;obtain⟨y0,y1,rfl⟩:=open_spanS (hval 4 52 v4 rfl rfl) h4;obtain⟨f0,f1,e26,_⟩:=yO fo26;obtain⟨cs,rfl⟩:=agg_of e26 (hval 0 26 v0 rfl rfl);have h0k:=h0;have h1k:=h1;have h4k:=h4;obtain⟨fuel,hf⟩:=h0;obtain⟨rs,rl,rw',many,A,n,c,sh,hcs,hc,hsh⟩:=open_stock hf;have hcs':cs=#[.int .i64 rs,.int .i64 rl,.int .i64 rw',.int .i64 many,.slice A n c]:=by have:cs.toList=[.int .i64 rs,.int .i64 rl,.int .i64 rw',.int .i64 many,.slice A n c]:=hcs;exact Array.toList_inj.1 this
 subst hcs';clear hA0 hval0;have hlt:∀ z,z∈p0∨z∈p1∨z∈p4→z.block<W.heap.size:=fun z hz=>hW'.lt z (by simp;rcases hz with h|h|h<;>simp[h])
 obtain⟨M,last,o,w',t',r1,r2,r3,r4⟩:=stocks_run rs rl rw' many A n c sh x s v y0 y1 W hs hv hc hsh;refine⟨M,last,o,w',t',r1,r2,r3,r4.mono fun v hF=>?_⟩;obtain⟨rfl,hb⟩:=hF;refine⟨_,_,_,[],p0++(p1++([]++([]++p4))),[],hW',?_,?_,rfl,hb.frame _,fun h=>by cases h⟩
 ·exact trodAll_mk1 (t:=4) (v:=.bool true) (d:=.lit (.bool true)) shut_true
 ·exact trodAll_mk5 (Below.trod yMb (by kernel_rfl) (of_decide_eq_true (by kernel_rfl)) h0k hb fun z hz=>hlt z (.inl hz)) (Below.trod yMb (by kernel_rfl) (of_decide_eq_true (by kernel_rfl)) h1k hb fun z hz=>hlt z (.inr (.inl hz)))
   (shut_int (enc:=enc) (w:=w') (base:=0) (spare:=fun b=>decide (b<W.heap.size)) (held:=true) ul5s hws) (shut_int (enc:=enc) (w:=w') (base:=0) (spare:=fun b=>decide (b<W.heap.size)) (held:=true) ul5s hwv)
   (Below.trod yMb (by kernel_rfl) (of_decide_eq_true (by kernel_rfl)) h4k hb fun z hz=>hlt z (.inr (.inr hz)))
theorem arrowStocks_holds:Rows.ArrowStocksSaid:=
 OpenClaim.holds_of_wide_leaving 11 Tryz.f11 rfl rfl rfl rfl rfl rfl rfl ⟨rfl,rfl,rfl,rfl,rfl⟩ rfl rfl rfl rfl rfl (by kernel_rfl) Tryz.func11 (by kernel_rfl)
  (of_decide_eq_true (by kernel_rfl)) (by unfold Func.isWrapper;first|(rw[if_pos (by decide +kernel)];kernel_rfl)|(rw[if_neg (by decide +kernel)];exact⟨rfl,rfl⟩))
  (fun os started H enc _=>stocks_lifted os started H enc)
end
end Go.Proofs.YtpdmgecbapmgdaaGreat
