/- A part of the proof that ArrowStocks returns true for every input: no further condition. -/
import Derived.Test.YtpdmgecbapmgdaaGreatGp5
import Derived.Test.YtpdmgecbapmgdaaGreatGp2
import Derived.Lib.AppendZeros
import Derived.Stop.RegionWithIn
set_option linter.unusedSimpArgs false
set_option linter.unusedVariables false
set_option maxHeartbeats 8000000
set_option maxRecDepth 100000
namespace Go.Proofs.YtpdmgecbapmgdaaGreat
section
open Go.RowKit
section
variable (rs rl rw many:Int)(A:Option Addr)(n c k m:Nat)(x0 x1:Int)
def ChkF:Nat→List Value→World→Prop
 |0,vs,_=>vs=[zga rs rl rw many A n c]
 |1,vs,_=>vs=[.func (.func 56) #[zga rs rl rw many A n c] #[]]
 |2,vs,_=>vs=[zga rs rl rw many A n c]
 |3,vs,_=>vs=[.int .i64 k]
 |4,vs,w=>∃ v,vs=[v]∧yg v 0 w
 |5,vs,_=>vs=[.int .i64 m]
 |6,vs,w=>∃ v,vs=[v]∧yg v 0 w
 |7,vs,_=>vs=[spanV x0 x1]
 |8,vs,w=>∃ v,vs=[v]∧yg v (outZ x0 x1 0 9999) w
 |9,vs,w=>∃ g:Nat,vs=[.slice (some ⟨g,0,none⟩) 4 4]∧∀ i,i<4→∃ v,w.cell? ⟨g,i,none⟩=some v∧yg v (if i=3 then outZ x0 x1 0 9999 else 0) w
 |10,vs,_=>∃ f:Int,vs=[.int .i64 f]∧(f=0↔outZ x0 x1 0 9999=0)
 |11,vs,_=>∃ f:Int,vs=[.int .i64 f]∧(f=0↔outZ x0 x1 0 9999=0)
 |_,_,_=>True
theorem ChkF.below{w w':World}(hb:Below w.heap.size w w')(i:Nat)(vs:List Value)(h:ChkF rs rl rw many A n c k m x0 x1 i vs w):ChkF rs rl rw many A n c k m x0 x1 i vs w':=by
  unfold ChkF at h ⊢;split
  all_goals simp only at h
  all_goals first
    |exact h
    |(obtain⟨v,h1,h2⟩:=h;exact⟨v,h1,h2.below hb⟩)
    | (obtain⟨g,h1,h2⟩:=h
       refine⟨g,h1,fun i hi=>?_⟩;obtain⟨v,h3,h4⟩:=h2 i hi;exact⟨v,Below.old hb h3,h4.below hb⟩)
    |trivial
end
theorem yg.shape{v:Value}{f:Int}{w:World}(h:yg v f w):∃(i:Nat) (x y:Array Value),v=.func (.func i) x y:=by rcases h with⟨i,sv,_,rfl,_⟩|⟨p,q,rfl,_⟩|⟨p,q,r,rfl,_⟩|⟨p,q,r,rfl,_⟩<;>exact⟨_,_,_,rfl⟩
def yfb(sh:Nat→Shaft)(k m:Nat)(x0 x1:Int):Prop:=outZ x0 x1 0 9999=0∧max (spanA (sh k) m) x0≤min (spanB (sh k) m) x1
def HandsMeas(rs rl rw many:Int)(n:Nat)(sh:Nat→Shaft)(k m:Nat)(x0 x1:Int)(W:World)(e:Ending)(w':World):Prop:=
 Below W.heap.size W w'∧((∃ f:Int,f≠0∧¬ yfb sh k m x0 x1∧(outZ x0 x1 0 9999=0→f=10)∧e=.returned (.tuple #[zga 0 0 0 0 none 0 0,.int .i64 f])) ∨
  (yfb sh k m x0 x1∧∃(A':Option Addr) (c':Nat),e=.returned (.tuple #[zga rs rl rw many A' n c',.int .i64 0])∧n≤c'∧zA w' A' n (putSh sh k m (max (spanA (sh k) m) x0) (min (spanB (sh k) m) x1))))
def ToF(s g n cap k m:Nat):Nat→List Value→World→Prop
 |0,vs,w=>∃ q:Nat,vs=[.slice (some ⟨q,0,none⟩) 3 3]∧w.heap[q]? = some (.cells measuresV 119 (0,0))
 |1,vs,_=>vs=[.int .i64 m]
 |2,vs,w=>∃ q:Nat,vs=[.pointer (some ⟨q,m*2,none⟩)]∧w.heap[q]? = some (.cells measuresV 119 (0,0))
 |3,vs,w=>∃ q:Nat,vs=[.pointer (some ⟨q,m*2,none⟩)]∧w.heap[q]? = some (.cells measuresV 119 (0,0))
 |4,vs,_=>vs=[.func (.func (105+2*m)) #[] #[]]
 |5,vs,_=>vs=[.pointer (some ⟨s,4,none⟩)]
 |6,vs,_=>vs=[.slice (some ⟨g,0,none⟩) n cap]
 |7,vs,_=>vs=[.int .i64 k]
 |8,vs,_=>vs=[.pointer (some ⟨g,k*7,none⟩)]
 |9,vs,_=>vs=[.pointer (some ⟨g,k*7+(1+2*m),none⟩)]
 |10,vs,_=>vs=[.pointer (some ⟨g,k*7+(1+2*m),none⟩)]
 |_,_,_=>True
theorem ToF.below(s g n cap k m:Nat){w w':World}(hb:Below w.heap.size w w')(i:Nat)(vs:List Value)(h:ToF s g n cap k m i vs w):ToF s g n cap k m i vs w':=by
 unfold ToF at h ⊢;split
 all_goals simp only at h
 all_goals first
  |exact h
  |(obtain⟨q,h1,h2⟩:=h;exact⟨q,h1,by rw[hb.block _ (Array.getElem?_eq_some_iff.1 h2).1];exact h2⟩)
  |trivial
def comU(a b x y:Int):Int:=if max a x≤min b y then max a x else 0
def comV(a b x y:Int):Int:=if max a x≤min b y then min b y else 0
def comT(a b x y:Int):Bool:=decide (max a x≤min b y)
theorem yta.eq{a b x y:Int}{w w':World}{e:Ending}(h:yta a b x y w e w'):e=.returned (.tuple #[spanV (comU a b x y) (comV a b x y),.bool (comT a b x y)])∧Below w.heap.size w w':=by
 obtain⟨hb,⟨h,rfl⟩|⟨h,rfl⟩⟩:=h
 ·exact⟨by simp only[comU,comV,comT,if_pos h,decide_eq_true h],hb⟩
 ·exact⟨by simp only[comU,comV,comT,if_neg h,decide_eq_false h],hb⟩
def ComF(g P lo:Nat)(a b x y:Int):Nat→List Value→World→Prop
 |0,vs,_=>vs=[.pointer (some ⟨g,P,none⟩)]
 |1,vs,_=>vs=[.pointer (some ⟨g,P,none⟩)]
 |2,vs,_=>vs=[spanV a b]
 |3,vs,_=>vs=[spanV x y]
 |4,vs,_=>vs=[.tuple #[spanV (comU a b x y) (comV a b x y),.bool (comT a b x y)]]
 |5,vs,_=>vs=[.tuple #[spanV (comU a b x y) (comV a b x y),.bool (comT a b x y)]]
 |6,vs,_=>vs=[spanV (comU a b x y) (comV a b x y)]
 |7,vs,_=>vs=[.bool (comT a b x y)]
 |8,vs,w=>∃ p:Nat,vs=[.pointer (some ⟨p,0,none⟩)]∧lo≤p∧∃ u v,zI w p u v
 |9,vs,w=>∃ p:Nat,vs=[.pointer (some ⟨p,0,none⟩)]∧lo≤p∧zI w p (comU a b x y) (comV a b x y)
 |10,vs,_=>vs=[.bool (comT a b x y)]
 |_,_,_=>True
theorem ComF.below(g P lo:Nat)(a b x y:Int){w w':World}(hb:Below w.heap.size w w')(i:Nat)(vs:List Value)(h:ComF g P lo a b x y i vs w):ComF g P lo a b x y i vs w':=by
 unfold ComF at h ⊢;split
 all_goals simp only at h
 all_goals first
  |exact h
  |(obtain⟨p,h1,h2,u,v,h3⟩:=h;exact⟨p,h1,h2,u,v,h3.below hb⟩)
  |(obtain⟨p,h1,h2,h3⟩:=h;exact⟨p,h1,h2,h3.below hb⟩)
  |trivial
theorem ComF.store(g P lo:Nat)(a b x y:Int){w:World}{p:Nat}{u v:Int}(hp:zI w p u v)(i:Nat)(hi:i≠9){vs:List Value}(hv:i=8→vs=[.pointer (some ⟨p,0,none⟩)])(s t:Int)(h:ComF g P lo a b x y i vs w):ComF g P lo a b x y i vs ((w.setCell ⟨p,0,none⟩ (.int .i64 s)).setCell ⟨p,1,none⟩ (.int .i64 t)):=by
  unfold ComF at h ⊢;split
  all_goals simp only at h
  all_goals first
    |exact h
    |exact absurd rfl hi
    | (obtain⟨p',h1,h2,u,v,h3⟩:=h
       have e:=hv rfl;rw[h1] at e;simp only[List.cons.injEq,Value.pointer.injEq,Option.some.injEq,Addr.mk.injEq,and_true] at e;subst e;exact⟨p',h1,h2,s,t,hp.set s t⟩)
    |trivial
theorem Measure_any(rs rl rw many:Int)(A:Option Addr)(n c k m:Nat)(sh:Nat→Shaft)(x0 x1:Int)(W:World)(hk:k<n)(hc:n≤c)(hm:m<3)(hst:Hid (zxa rs rl rw many n sh))(hsh:Hid (zA W A n sh)) :
    CallsIn Fc 0 Tryz.prog 30 #[zga rs rl rw many A n c,.int .i64 k,.int .i64 m,spanV x0 x1] W (HandsMeas rs rl rw many n sh k m x0 x1 W):=by
  have hn:=hst.out.count;obtain⟨b,o,rfl,_⟩:=hsh.out k hk;gi_enter Tryz.func30,Tryz.ntmps30;gi_wp2;have hW4:Hid (Below W.heap.size W ((((W.alloc (.cells #[.int .i64 rs,.int .i64 rl,.int .i64 rw,.int .i64 many,.slice (some ⟨b,o,none⟩) n c] 26)).alloc (.cells #[.int .i64 x0,.int .i64 x1] 52)).alloc (.cells #[.int .i64 0,.int .i64 0,.int .i64 0,.int .i64 0,.slice none 0 0] 26)).alloc (.cells #[.int .i64 rs,.int .i64 rl,.int .i64 rw,.int .i64 many,.slice (some ⟨b,o,none⟩) n c] 99))):=Lib.hid ((((((Below.refl _ _).alloc (Nat.le_refl _) _).alloc (by simp) _).alloc (by simp<;>omega) _).alloc (by simp<;>omega) _))
  have b0:(((((W.alloc (.cells #[.int .i64 rs,.int .i64 rl,.int .i64 rw,.int .i64 many,.slice (some ⟨b,o,none⟩) n c] 26)).alloc (.cells #[.int .i64 x0,.int .i64 x1] 52)).alloc (.cells #[.int .i64 0,.int .i64 0,.int .i64 0,.int .i64 0,.slice none 0 0] 26)).alloc (.cells #[.int .i64 rs,.int .i64 rl,.int .i64 rw,.int .i64 many,.slice (some ⟨b,o,none⟩) n c] 99))).heap[W.heap.size]? = some (.cells #[.int .i64 rs,.int .i64 rl,.int .i64 rw,.int .i64 many,.slice (some ⟨b,o,none⟩) n c] 26 (0,0)):=by rw[heap_alloc_old _ _ (by simp<;>omega),heap_alloc_old _ _ (by simp<;>omega),heap_alloc_old _ _ (by simp),yA _ _ rfl]
  have b1:(((((W.alloc (.cells #[.int .i64 rs,.int .i64 rl,.int .i64 rw,.int .i64 many,.slice (some ⟨b,o,none⟩) n c] 26)).alloc (.cells #[.int .i64 x0,.int .i64 x1] 52)).alloc (.cells #[.int .i64 0,.int .i64 0,.int .i64 0,.int .i64 0,.slice none 0 0] 26)).alloc (.cells #[.int .i64 rs,.int .i64 rl,.int .i64 rw,.int .i64 many,.slice (some ⟨b,o,none⟩) n c] 99))).heap[W.heap.size+1]? = some (.cells #[.int .i64 x0,.int .i64 x1] 52 (0,0)):=by rw[heap_alloc_old _ _ (by simp<;>omega),heap_alloc_old _ _ (by simp),yA _ _ (by simp)]
  have b2:(((((W.alloc (.cells #[.int .i64 rs,.int .i64 rl,.int .i64 rw,.int .i64 many,.slice (some ⟨b,o,none⟩) n c] 26)).alloc (.cells #[.int .i64 x0,.int .i64 x1] 52)).alloc (.cells #[.int .i64 0,.int .i64 0,.int .i64 0,.int .i64 0,.slice none 0 0] 26)).alloc (.cells #[.int .i64 rs,.int .i64 rl,.int .i64 rw,.int .i64 many,.slice (some ⟨b,o,none⟩) n c] 99))).heap[W.heap.size+1+1]? = some (.cells #[.int .i64 0,.int .i64 0,.int .i64 0,.int .i64 0,.slice none 0 0] 26 (0,0)):=by rw[heap_alloc_old _ _ (by simp),yA _ _ (by simp)]
  have b3:(((((W.alloc (.cells #[.int .i64 rs,.int .i64 rl,.int .i64 rw,.int .i64 many,.slice (some ⟨b,o,none⟩) n c] 26)).alloc (.cells #[.int .i64 x0,.int .i64 x1] 52)).alloc (.cells #[.int .i64 0,.int .i64 0,.int .i64 0,.int .i64 0,.slice none 0 0] 26)).alloc (.cells #[.int .i64 rs,.int .i64 rl,.int .i64 rw,.int .i64 many,.slice (some ⟨b,o,none⟩) n c] 99))).heap[W.heap.size+1+1+1]? = some (.cells #[.int .i64 rs,.int .i64 rl,.int .i64 rw,.int .i64 many,.slice (some ⟨b,o,none⟩) n c] 99 (0,0)):=by rw[yA _ _ (by simp)]
  have hs4:(((((W.alloc (.cells #[.int .i64 rs,.int .i64 rl,.int .i64 rw,.int .i64 many,.slice (some ⟨b,o,none⟩) n c] 26)).alloc (.cells #[.int .i64 x0,.int .i64 x1] 52)).alloc (.cells #[.int .i64 0,.int .i64 0,.int .i64 0,.int .i64 0,.slice none 0 0] 26)).alloc (.cells #[.int .i64 rs,.int .i64 rl,.int .i64 rw,.int .i64 many,.slice (some ⟨b,o,none⟩) n c] 99))).heap.size=W.heap.size+4:=by simp
  generalize((((W.alloc (.cells #[.int .i64 rs,.int .i64 rl,.int .i64 rw,.int .i64 many,.slice (some ⟨b,o,none⟩) n c] 26)).alloc (.cells #[.int .i64 x0,.int .i64 x1] 52)).alloc (.cells #[.int .i64 0,.int .i64 0,.int .i64 0,.int .i64 0,.slice none 0 0] 26)).alloc (.cells #[.int .i64 rs,.int .i64 rl,.int .i64 rw,.int .i64 many,.slice (some ⟨b,o,none⟩) n c] 99))=W4 at *
  refine yU (M:=fun a w=>∃(x17 x18 x19 x20 x21 x22 x23 x24 x25 x26 x27:Value) (f:Int),a={tmps:=#[zga rs rl rw many (some ⟨b,o,none⟩) n c,.int .i64 k,.int .i64 m,spanV x0 x1,.pointer (some ⟨W.heap.size,0,none⟩),undef,undef,.pointer (some ⟨W.heap.size+1,0,none⟩),.pointer (some ⟨W.heap.size+1+1,0,none⟩),.int .i64 0,.pointer (some ⟨W.heap.size+1+1+1,0,none⟩),.int .i64 f,undef,undef,undef,zga rs rl rw many (some ⟨b,o,none⟩) n c,zga rs rl rw many (some ⟨b,o,none⟩) n c,x17,x18,x19,x20,x21,x22,x23,x24,x25,x26,x27,undef,undef,undef,undef,undef,undef,undef,undef,undef,undef,undef,undef,undef,undef,undef,undef,undef,undef,undef,undef,undef,undef,undef,undef,undef,undef,undef,undef,undef,undef,undef,undef,undef],defers:=[]}∧(f=0↔outZ x0 x1 0 9999=0)∧Below W4.heap.size W4 w) ?_ ?_
  · refine yy (sup:=fun j=>([[17],[18],[19],[20],[21],[22],[23],[24],[25],[26],[27],[11]]:List (List Nat)).getD j []) (Ψ:=ChkF rs rl rw many (some ⟨b,o,none⟩) n c k m x0 x1) (I:=fun w=>Below W4.heap.size W4 w) (z:=61) (by kernel_rfl) (by kernel_rfl) (by kernel_rfl) rfl rfl (Below.refl _ _).drew (fun listed a w j' hj hr=>?_) fun listed a w hj hall=>?_
    · have hjs':j'<12:=by obtain⟨_,o',h3,_⟩:=mem_ready.1 hr;exact(Array.getElem?_eq_some_iff.1 h3).1
      have hI:=hj.inv;obtain⟨tm,df⟩:=a;have hdf:=hj.defers;simp only at hdf;subst hdf;have hz':∀{d:Nat},d<61→d<(Act.mk tm []).tmps.size:=fun h=>by rw[hj.size];exact h
      have g1:=zc hj.size (show Act.eval _ (.tmp 1)=.int .i64 k from(hj.old 1 (yk (by kernel_rfl)))) (by omega);have g2:=zc hj.size (show Act.eval _ (.tmp 2)=.int .i64 m from(hj.old 2 (yk (by kernel_rfl)))) (by omega);have g7:=zc hj.size (show Act.eval _ (.tmp 7)=.pointer (some ⟨W.heap.size+1,0,none⟩) from(hj.old 7 (yk (by kernel_rfl)))) (by omega);have g10:=zc hj.size (show Act.eval _ (.tmp 10)=.pointer (some ⟨W.heap.size+1+1+1,0,none⟩) from(hj.old 10 (yk (by kernel_rfl)))) (by omega);have y1:w.heap[W.heap.size+1]? = _:=(hI.block _ (by omega)).trans b1;have y3:w.heap[W.heap.size+1+1+1]? = _:=(hI.block _ (by omega)).trans b3;have E0:w.cell? ⟨W.heap.size+1+1+1,0,none⟩=some (.int .i64 rs):=by simp[World.cell?,y3]
      have E1:w.cell? ⟨W.heap.size+1+1+1,1,none⟩=some (.int .i64 rl):=by simp[World.cell?,y3]
      have E2:w.cell? ⟨W.heap.size+1+1+1,2,none⟩=some (.int .i64 rw):=by simp[World.cell?,y3]
      have E3:w.cell? ⟨W.heap.size+1+1+1,3,none⟩=some (.int .i64 many):=by simp[World.cell?,y3]
      have E4:w.cell? ⟨W.heap.size+1+1+1,4,none⟩=some (.slice (some ⟨b,o,none⟩) n c):=by simp[World.cell?,y3]
      have X0:w.cell? ⟨W.heap.size+1,0,none⟩=some (.int .i64 x0):=by simp[World.cell?,y1]
      have X1:w.cell? ⟨W.heap.size+1,1,none⟩=some (.int .i64 x1):=by simp[World.cell?,y1]
      clear y1 y3;have hjs:j'=0∨j'=1∨j'=2∨j'=3∨j'=4∨j'=5∨j'=6∨j'=7∨j'=8∨j'=9∨j'=10∨j'=11:=by omega
      rcases hjs with rfl|rfl|rfl|rfl|rfl|rfl|rfl|rfl|rfl|rfl|rfl|rfl
      · refine wpOpIn_step rfl fun K hK=>?_
        go_simp;exact hK _ _ (yd.pure (d:=17) rfl hI (hz' (by omega)) rfl rfl)
      · have f17:=zc hj.size (show Act.eval _ (.tmp 17)=zga rs rl rw many (some ⟨b,o,none⟩) n c from(List.cons.inj (hj.fact 0 (by decide) (dep hr (by kernel_rfl)))).1) (by omega);refine wpOpIn_step rfl fun K hK=>?_
        go_simp;exact hK _ _ (yd.pure (d:=18) rfl hI (hz' (by omega)) rfl rfl)
      · refine wpOpIn_step rfl fun K hK=>?_
        go_simp;exact hK _ _ (yd.pure (d:=19) rfl hI (hz' (by omega)) rfl rfl)
      · refine wpOpIn_step rfl fun K hK=>?_
        go_simp;exact hK _ _ (yd.pure (d:=20) rfl hI (hz' (by omega)) rfl rfl)
      · have f19:=zc hj.size (show Act.eval _ (.tmp 19)=zga rs rl rw many (some ⟨b,o,none⟩) n c from(List.cons.inj (hj.fact 2 (by decide) (dep hr (by kernel_rfl)))).1) (by omega);have f20:=zc hj.size (show Act.eval _ (.tmp 20)=.int .i64 k from(List.cons.inj (hj.fact 3 (by decide) (dep hr (by kernel_rfl)))).1) (by omega);refine wpOpIn_step rfl fun K hK=>?_
        go_simp;refine(ywa rs rl rw many (some ⟨b,o,none⟩) n c k w).mono ?_;rintro e w' ⟨sp,ip,rfl,hbox,hb'⟩;exact hK _ _ (yd.grow (d:=21) (fun i vs h=>ChkF.below _ _ _ _ _ _ _ _ _ _ _ hb' i vs h) rfl (hI.trans (hb'.mono hI.size)) (hz' (by omega)) rfl ⟨_,rfl,hbox.is hn hk⟩)
      · refine wpOpIn_step rfl fun K hK=>?_
        go_simp;exact hK _ _ (yd.pure (d:=22) rfl hI (hz' (by omega)) rfl rfl)
      · have f22:=zc hj.size (show Act.eval _ (.tmp 22)=.int .i64 m from(List.cons.inj (hj.fact 5 (by decide) (dep hr (by kernel_rfl)))).1) (by omega);refine wpOpIn_step rfl fun K hK=>?_
        go_simp;refine(yv m 0 2 w).mono ?_;rintro e w' ⟨v,rfl,hl,hb'⟩;exact hK _ _ (yd.grow (d:=23) (fun i vs h=>ChkF.below _ _ _ _ _ _ _ _ _ _ _ hb' i vs h) rfl (hI.trans (hb'.mono hI.size)) (hz' (by omega)) rfl ⟨_,rfl,hl.is (by omega) (by omega)⟩)
      · refine wpOpIn_step rfl fun K hK=>?_
        go_simp;exact hK _ _ (yd.pure (d:=24) rfl hI (hz' (by omega)) rfl rfl)
      · have f24:=zc hj.size (show Act.eval _ (.tmp 24)=spanV x0 x1 from(List.cons.inj (hj.fact 7 (by decide) (dep hr (by kernel_rfl)))).1) (by omega);refine wpOpIn_step rfl fun K hK=>?_
        go_simp;refine(yi x0 x1 0 9999 w).mono ?_;rintro e w' ⟨v,rfl,hl,hb'⟩;exact hK _ _ (yd.grow (d:=25) (fun i vs h=>ChkF.below _ _ _ _ _ _ _ _ _ _ _ hb' i vs h) rfl (hI.trans (hb'.mono hI.size)) (hz' (by omega)) rfl ⟨_,rfl,hl.is⟩)
      · have f18:=zc hj.size (show Act.eval _ (.tmp 18)=.func (.func 56) #[zga rs rl rw many (some ⟨b,o,none⟩) n c] #[] from(List.cons.inj (hj.fact 1 (by decide) (dep hr (by kernel_rfl)))).1) (by omega);obtain⟨v21,g21,p21⟩:=hj.fact 4 (by decide) (dep hr (by kernel_rfl));have f21:=zc hj.size (show Act.eval _ (.tmp 21)=v21 from(List.cons.inj g21).1) (by omega);obtain⟨v23,g23,p23⟩:=hj.fact 6 (by decide) (dep hr (by kernel_rfl));have f23:=zc hj.size (show Act.eval _ (.tmp 23)=v23 from(List.cons.inj g23).1) (by omega);obtain⟨v25,g25,p25⟩:=hj.fact 8 (by decide) (dep hr (by kernel_rfl));have f25:=zc hj.size (show Act.eval _ (.tmp 25)=v25 from(List.cons.inj g25).1) (by omega);obtain⟨i21,y21,z21,rfl⟩:=p21.shape;obtain⟨i23,y23,z23,rfl⟩:=p23.shape;obtain⟨i25,y25,z25,rfl⟩:=p25.shape
        refine wpOpIn_step rfl fun K hK=>?_
        go_simp;have hb':Below w.heap.size w (w.alloc (.cells #[.func (.func 56) #[zga rs rl rw many (some ⟨b,o,none⟩) n c] #[],.func (.func i21) y21 z21,.func (.func i23) y23 z23,.func (.func i25) y25 z25] 101)):=(Below.refl _ _).alloc (Nat.le_refl _) _;refine hK _ _ (yd.grow (d:=26) (fun i vs h=>ChkF.below _ _ _ _ _ _ _ _ _ _ _ hb' i vs h) rfl (hI.trans (hb'.mono hI.size)) (hz' (by omega)) rfl ⟨w.heap.size,rfl,fun i hi=>?_⟩);have hi4:i=0∨i=1∨i=2∨i=3:=by omega
        rcases hi4 with rfl|rfl|rfl|rfl
        · exact⟨_,by simp,.inl ⟨56,_,by simp,rfl,fun w' hw=>yrb rs rl rw many _ n c sh w' hc hst (Lib.hid (hsh.out.below ((hW4.out.trans ((hI.trans (hb'.mono hI.size)).mono hW4.out.size)).trans (hw.mono (by have:=hW4.out.size;have:=hI.size;simp;omega)))))⟩⟩
        · exact⟨_,by simp,p21.below hb'⟩
        · exact⟨_,by simp,p23.below hb'⟩
        · exact⟨_,by simp,p25.below hb'⟩
      · obtain⟨g,g26,hall⟩:=hj.fact 9 (by decide) (dep hr (by kernel_rfl));have f26:=zc hj.size (show Act.eval _ (.tmp 26)=.slice (some ⟨g,0,none⟩) 4 4 from(List.cons.inj g26).1) (by omega);refine wpOpIn_step rfl fun K hK=>?_
        go_simp;refine(yda g 4 4 (fun i=>if i=3 then outZ x0 x1 0 9999 else 0) w (by omega) (Lib.hid hall)).mono ?_;rintro e w' ⟨f,rfl,hf,hb'⟩;have hz:f=0↔outZ x0 x1 0 9999=0:=by
          rw[hf];refine yo.trans ⟨fun h=>by simpa using h 3 (by omega),fun h i hi=>?_⟩;split
          · exact h
          · rfl
        exact hK _ _ (yd.grow (d:=27) (fun i vs h=>ChkF.below _ _ _ _ _ _ _ _ _ _ _ hb' i vs h) rfl (hI.trans (hb'.mono hI.size)) (hz' (by omega)) rfl ⟨f,rfl,hz⟩)
      · obtain⟨f,g27,hf⟩:=hj.fact 10 (by decide) (dep hr (by kernel_rfl));have f27:=zc hj.size (show Act.eval _ (.tmp 27)=.int .i64 f from(List.cons.inj g27).1) (by omega);refine wpOpIn_step rfl fun K hK=>?_
        go_simp;exact hK _ _ (yd.pure (d:=11) rfl hI (hz' (by omega)) rfl ⟨f,rfl,hf⟩)
    · obtain⟨f,g11,hf⟩:=hall 11 (by decide);have e11:a.eval (.tmp 11)=.int .i64 f:=(List.cons.inj g11).1;refine⟨a.eval (.tmp 17),a.eval (.tmp 18),a.eval (.tmp 19),a.eval (.tmp 20),a.eval (.tmp 21),a.eval (.tmp 22),a.eval (.tmp 23),a.eval (.tmp 24),a.eval (.tmp 25),a.eval (.tmp 26),a.eval (.tmp 27),f,?_,hf,hj.inv⟩;have e:=hj.act rfl [17,18,19,20,21,22,23,24,25,26,27,11] (by kernel_rfl);simp only[List.map_cons,List.map_nil,List.foldl_cons,List.foldl_nil,e11] at e;exact e.trans (by kernel_rfl)
  · rintro a w ⟨x17,x18,x19,x20,x21,x22,x23,x24,x25,x26,x27,f,rfl,hf,hb⟩;have y0:w.heap[W.heap.size]? = _:=(hb.block _ (by omega)).trans b0;have y1:w.heap[W.heap.size+1]? = _:=(hb.block _ (by omega)).trans b1;have y2:w.heap[W.heap.size+1+1]? = _:=(hb.block _ (by omega)).trans b2;have ls:W.heap.size+4≤w.heap.size:=hs4▸hb.size;have HB:Hid (Below W.heap.size W w):=Lib.hid (hW4.out.trans (hb.mono hW4.out.size));have HF:=Lib.hid hf;clear hb hf b0 b1 b2 b3 hs4 hW4;by_cases h0:f=0
    · subst h0;have HO:Hid (outZ x0 x1 0 9999=0):=Lib.hid (HF.out.1 rfl);have C4:w.cell? ⟨W.heap.size,4,none⟩=some (.slice (some ⟨b,o,none⟩) n c):=by simp[World.cell?,y0]
      have Y0:=Lib.hid y0;have Y1:=Lib.hid y1;have Y2:=Lib.hid y2;clear y0 y1 y2
      gi_wp2_with (gi_at_call 79;refine(Clone_any b o n c sh w hn (by omega) hc (Lib.hid (hsh.out.below HB.out))).mono ?_;rintro e w5 ⟨g,cap,rfl,hcap,hg0,hgz,hrow,hb5⟩
                   have y0:=(hb5.block _ (by omega)).trans Y0.out;have C4':w5.cell? ⟨W.heap.size,4,none⟩=some (.slice (some ⟨b,o,none⟩) n c):=by simp[World.cell?,y0]
                   have z0:=yc y0;have HB5:=Lib.hid hb5;have HR:=Lib.hid hrow;have HZ:=Lib.hid hgz;clear hb5 hrow hgz y0 C4)
      have hgs:W.heap.size≠g:=by omega
      have y0:=(HB5.out.block _ (by omega)).trans Y0.out;have y1:=(HB5.out.block _ (by omega)).trans Y1.out;have y2:=(HB5.out.block _ (by omega)).trans Y2.out;have ls5:=HB5.out.size;have u0:(w5.setCell ⟨W.heap.size,4,none⟩ (.slice (some ⟨g,0,none⟩) n cap)).heap[W.heap.size]? = some (.cells #[.int .i64 rs,.int .i64 rl,.int .i64 rw,.int .i64 many,.slice (some ⟨g,0,none⟩) n cap] 26 (0,0)):=by simp[World.setCell,Array.getElem?_modify,y0]
      have u1:(w5.setCell ⟨W.heap.size,4,none⟩ (.slice (some ⟨g,0,none⟩) n cap)).heap[W.heap.size+1]? = some (.cells #[.int .i64 x0,.int .i64 x1] 52 (0,0)):=by simp[World.setCell,Array.getElem?_modify,y1]
      have u2:(w5.setCell ⟨W.heap.size,4,none⟩ (.slice (some ⟨g,0,none⟩) n cap)).heap[W.heap.size+1+1]? = some (.cells #[.int .i64 0,.int .i64 0,.int .i64 0,.int .i64 0,.slice none 0 0] 26 (0,0)):=by simp[World.setCell,Array.getElem?_modify,y2];intro h;omega
      have ur:=yl (j:=4) HR.out hgs (.slice (some ⟨g,0,none⟩) n cap);have uz:∀ j,(w5.setCell ⟨W.heap.size,4,none⟩ (.slice (some ⟨g,0,none⟩) n cap)).frozen? ⟨g,j,none⟩=false:=fun j=>by have:=HZ.out j;simpa using this
      have ub:Below W.heap.size W (w5.setCell ⟨W.heap.size,4,none⟩ (.slice (some ⟨g,0,none⟩) n cap)):=(HB.out.trans (HB5.out.mono HB.out.size)).setCell (Nat.le_refl _) _;have us:W.heap.size+4≤(w5.setCell ⟨W.heap.size,4,none⟩ (.slice (some ⟨g,0,none⟩) n cap)).heap.size:=by simp;omega
      generalize w5.setCell ⟨W.heap.size,4,none⟩ (.slice (some ⟨g,0,none⟩) n cap)=w6 at *;clear y0 y1 y2 ls5 HB5 HR HZ Y0 Y1 Y2 C4' z0 HB;have h3:Hid (m=0∨m=1∨m=2):=Lib.hid (by omega)
      refine yU (M:=fun a w=>∃ x36 x38 x39:Value,a={tmps:=#[zga rs rl rw many (some ⟨b,o,none⟩) n c,.int .i64 k,.int .i64 m,spanV x0 x1,.pointer (some ⟨W.heap.size,0,none⟩),undef,undef,.pointer (some ⟨W.heap.size+1,0,none⟩),.pointer (some ⟨W.heap.size+1+1,0,none⟩),.int .i64 0,.pointer (some ⟨W.heap.size+1+1+1,0,none⟩),.int .i64 0,.pointer (some ⟨g,k*7+(1+2*m),none⟩),undef,undef,zga rs rl rw many (some ⟨b,o,none⟩) n c,zga rs rl rw many (some ⟨b,o,none⟩) n c,x17,x18,x19,x20,x21,x22,x23,x24,x25,x26,x27,.int .i64 0,.bool false,undef,undef,.pointer (some ⟨W.heap.size,4,none⟩),.slice (some ⟨b,o,none⟩) n c,.slice (some ⟨g,0,none⟩) n cap,.pointer (some ⟨W.heap.size,4,none⟩),x36,.int .i64 m,x38,x39,.func (.func (105+2*m)) #[] #[],.pointer (some ⟨W.heap.size,4,none⟩),.slice (some ⟨g,0,none⟩) n cap,.int .i64 k,.pointer (some ⟨g,k*7,none⟩),.pointer (some ⟨g,k*7+(1+2*m),none⟩),undef,undef,undef,undef,undef,undef,undef,undef,undef,undef,undef,undef,undef,undef,undef],defers:=[]}∧Below w6.heap.size w6 w) ?_ ?_
      · refine yy (sup:=fun j=>([[36],[37],[38],[39],[40],[41],[42],[43],[44],[45],[12]]:List (List Nat)).getD j []) (Ψ:=ToF W.heap.size g n cap k m) (I:=fun w=>Below w6.heap.size w6 w) (z:=61) (by kernel_rfl) (by kernel_rfl) (by kernel_rfl) rfl rfl (Below.refl _ _).drew (fun listed a w j' hj hr=>?_) fun listed a w hj hall=>?_
        · have hjs':j'<11:=by obtain⟨_,o',h3,_⟩:=mem_ready.1 hr;exact(Array.getElem?_eq_some_iff.1 h3).1
          have hI:=hj.inv;obtain⟨tm,df⟩:=a;have hdf:=hj.defers;simp only at hdf;subst hdf;have hz':∀{d:Nat},d<61→d<(Act.mk tm []).tmps.size:=fun h=>by rw[hj.size];exact h
          have g1:=zc hj.size (show Act.eval _ (.tmp 1)=.int .i64 k from(hj.old 1 (yk (by kernel_rfl)))) (by omega);have g2:=zc hj.size (show Act.eval _ (.tmp 2)=.int .i64 m from(hj.old 2 (yk (by kernel_rfl)))) (by omega);have g4:=zc hj.size (show Act.eval _ (.tmp 4)=.pointer (some ⟨W.heap.size,0,none⟩) from(hj.old 4 (yk (by kernel_rfl)))) (by omega);have y0:=(hI.block _ (by omega)).trans u0;have E4:w.cell? ⟨W.heap.size,4,none⟩=some (.slice (some ⟨g,0,none⟩) n cap):=by simp[World.cell?,y0]
          clear y0;have hjs:j'=0∨j'=1∨j'=2∨j'=3∨j'=4∨j'=5∨j'=6∨j'=7∨j'=8∨j'=9∨j'=10:=by omega
          rcases hjs with rfl|rfl|rfl|rfl|rfl|rfl|rfl|rfl|rfl|rfl|rfl
          · refine wpOpIn_step rfl fun K hK=>?_
            go_simp;refine(yp w).mono ?_;rintro e w' ⟨rfl,rfl⟩;have hb':Below w.heap.size w (w.alloc (.cells measuresV 119)):=(Below.refl _ _).alloc (Nat.le_refl _) _;exact hK _ _ (yd.grow (d:=36) (fun i vs h=>ToF.below _ _ _ _ _ _ hb' i vs h) rfl (hI.trans (hb'.mono hI.size)) (hz' (by omega)) rfl ⟨w.heap.size,rfl,zNb _ _⟩)
          · refine wpOpIn_step rfl fun K hK=>?_
            go_simp;exact hK _ _ (yd.pure (d:=37) rfl hI (hz' (by omega)) rfl rfl)
          · obtain⟨q,g36,hq⟩:=hj.fact 0 (by decide) (dep hr (by kernel_rfl));have f36:=zc hj.size (show Act.eval _ (.tmp 36)=.slice (some ⟨q,0,none⟩) 3 3 from(List.cons.inj g36).1) (by omega);have f37:=zc hj.size (show Act.eval _ (.tmp 37)=.int .i64 m from(List.cons.inj (hj.fact 1 (by decide) (dep hr (by kernel_rfl)))).1) (by omega);have hmi:(m:Int)<3:=by omega
            have hmn:(m:Int).toNat<3:=by omega
            refine wpOpIn_step rfl fun K hK=>?_
            go_simp;exact hK _ _ (yd.pure (d:=38) rfl hI (hz' (by omega)) rfl ⟨q,rfl,hq⟩)
          · obtain⟨q,g38,hq⟩:=hj.fact 2 (by decide) (dep hr (by kernel_rfl));have f38:=zc hj.size (show Act.eval _ (.tmp 38)=.pointer (some ⟨q,m*2,none⟩) from(List.cons.inj g38).1) (by omega);refine wpOpIn_step rfl fun K hK=>?_
            go_simp;exact hK _ _ (yd.pure (d:=39) rfl hI (hz' (by omega)) rfl ⟨q,rfl,hq⟩)
          · obtain⟨q,g39,hq⟩:=hj.fact 3 (by decide) (dep hr (by kernel_rfl));have f39:=zc hj.size (show Act.eval _ (.tmp 39)=.pointer (some ⟨q,m*2,none⟩) from(List.cons.inj g39).1) (by omega);have hcell:w.cell? ⟨q,m*2,none⟩=some (.func (.func (105+2*m)) #[] #[]):=by rcases h3.out with rfl|rfl|rfl<;>simp[World.cell?,hq,measuresV]
            refine wpOpIn_step rfl fun K hK=>?_
            go_simp;exact hK _ _ (yd.pure (d:=40) rfl hI (hz' (by omega)) rfl rfl)
          · refine wpOpIn_step rfl fun K hK=>?_
            go_simp;exact hK _ _ (yd.pure (d:=41) rfl hI (hz' (by omega)) rfl rfl)
          · have f41:=zc hj.size (show Act.eval _ (.tmp 41)=.pointer (some ⟨W.heap.size,4,none⟩) from(List.cons.inj (hj.fact 5 (by decide) (dep hr (by kernel_rfl)))).1) (by omega);refine wpOpIn_step rfl fun K hK=>?_
            go_simp;exact hK _ _ (yd.pure (d:=42) rfl hI (hz' (by omega)) rfl rfl)
          · refine wpOpIn_step rfl fun K hK=>?_
            go_simp;exact hK _ _ (yd.pure (d:=43) rfl hI (hz' (by omega)) rfl rfl)
          · have f42:=zc hj.size (show Act.eval _ (.tmp 42)=.slice (some ⟨g,0,none⟩) n cap from(List.cons.inj (hj.fact 6 (by decide) (dep hr (by kernel_rfl)))).1) (by omega);have f43:=zc hj.size (show Act.eval _ (.tmp 43)=.int .i64 k from(List.cons.inj (hj.fact 7 (by decide) (dep hr (by kernel_rfl)))).1) (by omega);refine wpOpIn_step rfl fun K hK=>?_
            go_simp;exact hK _ _ (yd.pure (d:=44) rfl hI (hz' (by omega)) rfl rfl)
          · have f40:=zc hj.size (show Act.eval _ (.tmp 40)=.func (.func (105+2*m)) #[] #[] from(List.cons.inj (hj.fact 4 (by decide) (dep hr (by kernel_rfl)))).1) (by omega);have f44:=zc hj.size (show Act.eval _ (.tmp 44)=.pointer (some ⟨g,k*7,none⟩) from(List.cons.inj (hj.fact 8 (by decide) (dep hr (by kernel_rfl)))).1) (by omega);rcases h3.out with rfl|rfl|rfl
            · refine wpOpIn_step rfl fun K hK=>?_
              go_simp;refine(zAb g (k*7) w).mono ?_;rintro e w' ⟨rfl,rfl⟩;exact hK _ _ (yd.pure (d:=45) rfl hI (hz' (by omega)) rfl rfl)
            · refine wpOpIn_step rfl fun K hK=>?_
              go_simp;refine(zzb g (k*7) w).mono ?_;rintro e w' ⟨rfl,rfl⟩;exact hK _ _ (yd.pure (d:=45) rfl hI (hz' (by omega)) rfl rfl)
            · refine wpOpIn_step rfl fun K hK=>?_
              go_simp;refine(zyb g (k*7) w).mono ?_;rintro e w' ⟨rfl,rfl⟩;exact hK _ _ (yd.pure (d:=45) rfl hI (hz' (by omega)) rfl rfl)
          · have f45:=zc hj.size (show Act.eval _ (.tmp 45)=.pointer (some ⟨g,k*7+(1+2*m),none⟩) from(List.cons.inj (hj.fact 9 (by decide) (dep hr (by kernel_rfl)))).1) (by omega);refine wpOpIn_step rfl fun K hK=>?_
            go_simp;exact hK _ _ (yd.pure (d:=12) rfl hI (hz' (by omega)) rfl rfl)
        · have e12:a.eval (.tmp 12)=.pointer (some ⟨g,k*7+(1+2*m),none⟩):=(List.cons.inj (hall 10 (by decide))).1;have e37:a.eval (.tmp 37)=.int .i64 m:=(List.cons.inj (hall 1 (by decide))).1;have e40:a.eval (.tmp 40)=.func (.func (105+2*m)) #[] #[]:=(List.cons.inj (hall 4 (by decide))).1;have e41:a.eval (.tmp 41)=.pointer (some ⟨W.heap.size,4,none⟩):=(List.cons.inj (hall 5 (by decide))).1;have e42:a.eval (.tmp 42)=.slice (some ⟨g,0,none⟩) n cap:=(List.cons.inj (hall 6 (by decide))).1;have e43:a.eval (.tmp 43)=.int .i64 k:=(List.cons.inj (hall 7 (by decide))).1;have e44:a.eval (.tmp 44)=.pointer (some ⟨g,k*7,none⟩):=(List.cons.inj (hall 8 (by decide))).1;have e45:a.eval (.tmp 45)=.pointer (some ⟨g,k*7+(1+2*m),none⟩):=(List.cons.inj (hall 9 (by decide))).1
          refine⟨a.eval (.tmp 36),a.eval (.tmp 38),a.eval (.tmp 39),?_,hj.inv⟩;have e:=hj.act rfl [36,37,38,39,40,41,42,43,44,45,12] (by kernel_rfl);simp only[List.map_cons,List.map_nil,List.foldl_cons,List.foldl_nil,e12,e37,e40,e41,e42,e43,e44,e45] at e;exact e.trans (by kernel_rfl)
      · rintro a w ⟨x36,x38,x39,rfl,hb⟩;have hgl:g<w6.heap.size:=by obtain⟨g',o',e',hx⟩:=ur k hk;cases e';exact hx.lt
        have v0:=(hb.block _ (by omega)).trans u0;have v1:=(hb.block _ (by omega)).trans u1;have v2:=(hb.block _ (by omega)).trans u2;have vr:=ur.below hb;have vz:∀ j,w.frozen? ⟨g,j,none⟩=false:=fun j=>by have h:=uz j;simp only[World.frozen?] at h ⊢;rw[hb.block _ hgl];exact h
        have vb:=Lib.hid (ub.trans (hb.mono ub.size));have vs:W.heap.size+4≤w.heap.size:=Nat.le_trans us hb.size;have hgl:g<w.heap.size:=Nat.lt_of_lt_of_le hgl hb.size;clear u0 u1 u2 ur uz ub us hb;have cP:w.cell? ⟨g,k*7+(1+2*m),none⟩=some (.int .i64 (spanA (sh k) m))∧w.cell? ⟨g,k*7+(1+2*m)+1,none⟩=some (.int .i64 (spanB (sh k) m)):=by
          obtain⟨g',o',e',hx⟩:=vr k hk;cases e';have q0:=hx.h1;have q1:=hx.h2;have q2:=hx.h3;have q3:=hx.h4;have q4:=hx.h5;have q5:=hx.h6;rw[Nat.zero_add] at q0 q1 q2 q3 q4 q5;rcases h3.out with rfl|rfl|rfl
          · exact⟨q0,q1⟩
          · exact⟨q2,q3⟩
          · exact⟨q4,q5⟩
        obtain⟨cP0,cP1⟩:=cP;obtain⟨a1,ha1⟩:∃ a1,a1=spanA (sh k) m:=⟨_,rfl⟩;obtain⟨b1,hb1⟩:∃ b1,b1=spanB (sh k) m:=⟨_,rfl⟩;rw[←ha1] at cP0;rw[←hb1] at cP1;have HA:=Lib.hid ha1;have HB:=Lib.hid hb1;clear ha1 hb1;gi_wp2
        refine yU (M:=fun a w'=>∃ p:Nat,a={tmps:=#[zga rs rl rw many (some ⟨b,o,none⟩) n c,.int .i64 k,.int .i64 m,spanV x0 x1,.pointer (some ⟨W.heap.size,0,none⟩),undef,undef,.pointer (some ⟨W.heap.size+1,0,none⟩),.pointer (some ⟨W.heap.size+1+1,0,none⟩),.int .i64 0,.pointer (some ⟨W.heap.size+1+1+1,0,none⟩),.int .i64 0,.pointer (some ⟨g,k*7+(1+2*m),none⟩),.pointer (some ⟨p,0,none⟩),.bool (comT a1 b1 x0 x1),zga rs rl rw many (some ⟨b,o,none⟩) n c,zga rs rl rw many (some ⟨b,o,none⟩) n c,x17,x18,x19,x20,x21,x22,x23,x24,x25,x26,x27,.int .i64 0,.bool false,undef,undef,.pointer (some ⟨W.heap.size,4,none⟩),.slice (some ⟨b,o,none⟩) n c,.slice (some ⟨g,0,none⟩) n cap,.pointer (some ⟨W.heap.size,4,none⟩),x36,.int .i64 m,x38,x39,.func (.func (105+2*m)) #[] #[],.pointer (some ⟨W.heap.size,4,none⟩),.slice (some ⟨g,0,none⟩) n cap,.int .i64 k,.pointer (some ⟨g,k*7,none⟩),.pointer (some ⟨g,k*7+(1+2*m),none⟩),.tuple #[spanV (comU a1 b1 x0 x1) (comV a1 b1 x0 x1),.bool (comT a1 b1 x0 x1)],.pointer (some ⟨g,k*7+(1+2*m),none⟩),.pointer (some ⟨g,k*7+(1+2*m),none⟩),spanV a1 b1,spanV x0 x1,.tuple #[spanV (comU a1 b1 x0 x1) (comV a1 b1 x0 x1),.bool (comT a1 b1 x0 x1)],spanV (comU a1 b1 x0 x1) (comV a1 b1 x0 x1),.bool (comT a1 b1 x0 x1),undef,undef,undef,undef,undef,undef,undef],defers:=[]}∧w.heap.size≤p∧zI w' p (comU a1 b1 x0 x1) (comV a1 b1 x0 x1)∧Below w.heap.size w w') ?_ ?_
        · refine yy (sup:=fun j=>([[47],[48],[49],[50],[51],[46],[52],[53],[13],[13],[14]]:List (List Nat)).getD j []) (Ψ:=ComF g (k*7+(1+2*m)) w.heap.size a1 b1 x0 x1) (I:=fun w'=>Below w.heap.size w w') (z:=61) (by kernel_rfl) (by kernel_rfl) (by kernel_rfl) rfl rfl (Below.refl _ _).drew (fun listed a w' j' hj hr=>?_) fun listed a w' hj hall=>?_
          · have hjs':j'<11:=by obtain⟨_,o',h3,_⟩:=mem_ready.1 hr;exact(Array.getElem?_eq_some_iff.1 h3).1
            have hI:=hj.inv;obtain⟨tm,df⟩:=a;have hdf:=hj.defers;simp only at hdf;subst hdf;have hz':∀{d:Nat},d<61→d<(Act.mk tm []).tmps.size:=fun h=>by rw[hj.size];exact h
            have g7:=zc hj.size (show Act.eval _ (.tmp 7)=.pointer (some ⟨W.heap.size+1,0,none⟩) from(hj.old 7 (yk (by kernel_rfl)))) (by omega);have g12:=zc hj.size (show Act.eval _ (.tmp 12)=.pointer (some ⟨g,k*7+(1+2*m),none⟩) from(hj.old 12 (yk (by kernel_rfl)))) (by omega);have y1:=(hI.block _ (by omega)).trans v1;have X0:w'.cell? ⟨W.heap.size+1,0,none⟩=some (.int .i64 x0):=by simp[World.cell?,y1]
            have X1:w'.cell? ⟨W.heap.size+1,1,none⟩=some (.int .i64 x1):=by simp[World.cell?,y1]
            have P0:=Below.old hI cP0;have P1:=Below.old hI cP1;clear y1;have hjs:j'=0∨j'=1∨j'=2∨j'=3∨j'=4∨j'=5∨j'=6∨j'=7∨j'=8∨j'=9∨j'=10:=by omega
            rcases hjs with rfl|rfl|rfl|rfl|rfl|rfl|rfl|rfl|rfl|rfl|rfl
            · refine wpOpIn_step rfl fun K hK=>?_
              go_simp;exact hK _ _ (yd.pure (d:=47) rfl hI (hz' (by omega)) rfl rfl)
            · have f47:=zc hj.size (show Act.eval _ (.tmp 47)=.pointer (some ⟨g,k*7+(1+2*m),none⟩) from(List.cons.inj (hj.fact 0 (by decide) (dep hr (by kernel_rfl)))).1) (by omega);refine wpOpIn_step rfl fun K hK=>?_
              go_simp;exact hK _ _ (yd.pure (d:=48) rfl hI (hz' (by omega)) rfl rfl)
            · have f48:=zc hj.size (show Act.eval _ (.tmp 48)=.pointer (some ⟨g,k*7+(1+2*m),none⟩) from(List.cons.inj (hj.fact 1 (by decide) (dep hr (by kernel_rfl)))).1) (by omega);refine wpOpIn_step rfl fun K hK=>?_
              go_simp;exact hK _ _ (yd.pure (d:=49) rfl hI (hz' (by omega)) rfl rfl)
            · refine wpOpIn_step rfl fun K hK=>?_
              go_simp;exact hK _ _ (yd.pure (d:=50) rfl hI (hz' (by omega)) rfl rfl)
            · have f49:=zc hj.size (show Act.eval _ (.tmp 49)=spanV a1 b1 from(List.cons.inj (hj.fact 2 (by decide) (dep hr (by kernel_rfl)))).1) (by omega);have f50:=zc hj.size (show Act.eval _ (.tmp 50)=spanV x0 x1 from(List.cons.inj (hj.fact 3 (by decide) (dep hr (by kernel_rfl)))).1) (by omega);refine wpOpIn_step rfl fun K hK=>?_
              go_simp;refine(common_any a1 b1 x0 x1 w').mono ?_;intro e w2 he;obtain⟨rfl,hb'⟩:=he.eq;exact hK _ _ (yd.grow (d:=51) (fun i vs h=>ComF.below _ _ _ _ _ _ _ hb' i vs h) rfl (hI.trans (hb'.mono hI.size)) (hz' (by omega)) rfl rfl)
            · have f51:=zc hj.size (show Act.eval _ (.tmp 51)=.tuple #[spanV (comU a1 b1 x0 x1) (comV a1 b1 x0 x1),.bool (comT a1 b1 x0 x1)] from(List.cons.inj (hj.fact 4 (by decide) (dep hr (by kernel_rfl)))).1) (by omega);refine wpOpIn_step rfl fun K hK=>?_
              go_simp;exact hK _ _ (yd.pure (d:=46) rfl hI (hz' (by omega)) rfl rfl)
            · have f46:=zc hj.size (show Act.eval _ (.tmp 46)=.tuple #[spanV (comU a1 b1 x0 x1) (comV a1 b1 x0 x1),.bool (comT a1 b1 x0 x1)] from(List.cons.inj (hj.fact 5 (by decide) (dep hr (by kernel_rfl)))).1) (by omega);refine wpOpIn_step rfl fun K hK=>?_
              go_simp;exact hK _ _ (yd.pure (d:=52) rfl hI (hz' (by omega)) rfl rfl)
            · have f46:=zc hj.size (show Act.eval _ (.tmp 46)=.tuple #[spanV (comU a1 b1 x0 x1) (comV a1 b1 x0 x1),.bool (comT a1 b1 x0 x1)] from(List.cons.inj (hj.fact 5 (by decide) (dep hr (by kernel_rfl)))).1) (by omega);refine wpOpIn_step rfl fun K hK=>?_
              go_simp;exact hK _ _ (yd.pure (d:=53) rfl hI (hz' (by omega)) rfl rfl)
            · refine wpOpIn_step rfl fun K hK=>?_
              go_simp;have hb':Below w'.heap.size w' (w'.alloc (.cells #[.int .i64 0,.int .i64 0] 52)):=(Below.refl _ _).alloc (Nat.le_refl _) _;exact hK _ _ (yd.grow (d:=13) (fun i vs h=>ComF.below _ _ _ _ _ _ _ hb' i vs h) rfl (hI.trans (hb'.mono hI.size)) (hz' (by omega)) rfl ⟨w'.heap.size,rfl,hI.size,0,0,zNb _ _⟩)
            · obtain⟨p,g13,hlo,u,v,hp⟩:=hj.fact 8 (by decide) (dep hr (by kernel_rfl));have f13:=zc hj.size (show Act.eval _ (.tmp 13)=.pointer (some ⟨p,0,none⟩) from(List.cons.inj g13).1) (by omega);have f52:=zc hj.size (show Act.eval _ (.tmp 52)=spanV (comU a1 b1 x0 x1) (comV a1 b1 x0 x1) from(List.cons.inj (hj.fact 6 (by decide) (dep hr (by kernel_rfl)))).1) (by omega);obtain⟨cp,cq⟩:=hp.cell;have fz0:=hp.frozen 0;have fz1:=hp.frozen 1;refine wpOpIn_step rfl fun K hK=>?_
              go_simp;refine hK _ _ ⟨⟨undef,rfl⟩,(hI.setCell hlo _).setCell hlo _,fun i hi hne hl h=>ComF.store _ _ _ _ _ _ _ hp i hne (fun e=>by subst e;exact g13) _ _ h,p,g13,hlo,hp.set _ _⟩
            · have f53:=zc hj.size (show Act.eval _ (.tmp 53)=.bool (comT a1 b1 x0 x1) from(List.cons.inj (hj.fact 7 (by decide) (dep hr (by kernel_rfl)))).1) (by omega);refine wpOpIn_step rfl fun K hK=>?_
              go_simp;exact hK _ _ (yd.pure (d:=14) rfl hI (hz' (by omega)) rfl rfl)
          · obtain⟨p,g13,hlo,hp⟩:=hall 9 (by decide);have e13:a.eval (.tmp 13)=.pointer (some ⟨p,0,none⟩):=(List.cons.inj g13).1;have e14:a.eval (.tmp 14)=.bool (comT a1 b1 x0 x1):=(List.cons.inj (hall 10 (by decide))).1;have e46:a.eval (.tmp 46)=.tuple #[spanV (comU a1 b1 x0 x1) (comV a1 b1 x0 x1),.bool (comT a1 b1 x0 x1)]:=(List.cons.inj (hall 5 (by decide))).1;have e47:a.eval (.tmp 47)=.pointer (some ⟨g,k*7+(1+2*m),none⟩):=(List.cons.inj (hall 0 (by decide))).1;have e48:a.eval (.tmp 48)=.pointer (some ⟨g,k*7+(1+2*m),none⟩):=(List.cons.inj (hall 1 (by decide))).1;have e49:a.eval (.tmp 49)=spanV a1 b1:=(List.cons.inj (hall 2 (by decide))).1;have e50:a.eval (.tmp 50)=spanV x0 x1:=(List.cons.inj (hall 3 (by decide))).1
            have e51:a.eval (.tmp 51)=.tuple #[spanV (comU a1 b1 x0 x1) (comV a1 b1 x0 x1),.bool (comT a1 b1 x0 x1)]:=(List.cons.inj (hall 4 (by decide))).1;have e52:a.eval (.tmp 52)=spanV (comU a1 b1 x0 x1) (comV a1 b1 x0 x1):=(List.cons.inj (hall 6 (by decide))).1;have e53:a.eval (.tmp 53)=.bool (comT a1 b1 x0 x1):=(List.cons.inj (hall 7 (by decide))).1;refine⟨p,?_,hlo,hp,hj.inv⟩;have e:=hj.act rfl [47,48,49,50,51,46,52,53,13,14] (by kernel_rfl);simp only[List.map_cons,List.map_nil,List.foldl_cons,List.foldl_nil,e13,e14,e46,e47,e48,e49,e50,e51,e52,e53] at e;exact e.trans (by kernel_rfl)
        · rintro a w' ⟨p,rfl,hlo,hp,hb⟩;have y0:=(hb.block _ (by omega)).trans v0;have y2:=(hb.block _ (by omega)).trans v2;have hgp:p≠g:=by omega
          have vr':=Lib.hid (vr.below hb);have vz':∀ j,w'.frozen? ⟨g,j,none⟩=false:=fun j=>by have h:=vz j;simp only[World.frozen?] at h ⊢;rw[hb.block _ hgl];exact h
          have P0:=Below.old hb cP0;have P1:=Below.old hb cP1;have VB:=Lib.hid (vb.out.trans (hb.mono vb.out.size));have e0:w'.cell? ⟨W.heap.size+1+1,0,none⟩=some (.int .i64 0):=by simp[World.cell?,y2]
          have e1:w'.cell? ⟨W.heap.size+1+1,1,none⟩=some (.int .i64 0):=by simp[World.cell?,y2]
          have e2:w'.cell? ⟨W.heap.size+1+1,2,none⟩=some (.int .i64 0):=by simp[World.cell?,y2]
          have e3:w'.cell? ⟨W.heap.size+1+1,3,none⟩=some (.int .i64 0):=by simp[World.cell?,y2]
          have e4:w'.cell? ⟨W.heap.size+1+1,4,none⟩=some (.slice none 0 0):=by simp[World.cell?,y2]
          have z2:=yc y2;have d0:w'.cell? ⟨W.heap.size,0,none⟩=some (.int .i64 rs):=by simp[World.cell?,y0]
          have d1:w'.cell? ⟨W.heap.size,1,none⟩=some (.int .i64 rl):=by simp[World.cell?,y0]
          have d2:w'.cell? ⟨W.heap.size,2,none⟩=some (.int .i64 rw):=by simp[World.cell?,y0]
          have d3:w'.cell? ⟨W.heap.size,3,none⟩=some (.int .i64 many):=by simp[World.cell?,y0]
          have d4:w'.cell? ⟨W.heap.size,4,none⟩=some (.slice (some ⟨g,0,none⟩) n cap):=by simp[World.cell?,y0]
          have hs1:g≠W.heap.size+1+1:=by omega
          have hs2:g≠W.heap.size:=by omega
          have hg0':W.heap.size≤g:=by omega
          clear y0 y2 v0 v1 v2 vr vz vb hb cP0 cP1 hlo vs ls;have l2:W.heap.size≤W.heap.size+1+1:=by omega
          by_cases hcm:max a1 x0≤min b1 x1
          · have hT:comT a1 b1 x0 x1=true:=decide_eq_true hcm;have hU:comU a1 b1 x0 x1=max a1 x0:=if_pos hcm;have hV:comV a1 b1 x0 x1=min b1 x1:=if_pos hcm;have hOk:Hid (yfb sh k m x0 x1):=Lib.hid ⟨HO.out,by rw[←HA.out,←HB.out];exact hcm⟩;have HUV:Hid (∃ u v,u=max a1 x0∧v=min b1 x1∧zI w' p u v):=Lib.hid ⟨_,_,rfl,rfl,by rw[←hU,←hV];exact hp⟩;simp only[hT,hU,hV];obtain⟨u,v,hu,hv,hp⟩:=HUV.out;rw[←hu,←hv];have HU:=Lib.hid hu;have HV:=Lib.hid hv;obtain⟨cp,cq⟩:=hp.cell;clear hT hU hV hcm hu hv hp HUV;gi_wp2;refine bodyPost_ret (v:=.tuple #[zga rs rl rw many (some ⟨g,0,none⟩) n cap,.int .i64 0]) (ym rfl rfl rfl (by go_simp) (by go_simp) (by go_simp) (by go_simp) (by go_simp)) rfl ?_;rw[show k*7+(1+2*m)+1=k*7+(2+2*m) by omega]
            refine⟨?_,.inr ⟨hOk.out,some ⟨g,0,none⟩,cap,rfl,hcap,?_⟩⟩
            · exact((((((VB.out.setCell hg0' _).setCell hg0' _).setCell l2 _).setCell l2 _).setCell l2 _).setCell l2 _).setCell l2 _
            · have h1:=shafts_put vr'.out hk hm u v;rw[HU.out,HV.out,HA.out,HB.out] at h1 ⊢;exact yl (yl (yl (yl (yl h1 hs1.symm _) hs1.symm _) hs1.symm _) hs1.symm _) hs1.symm _
          · have hT:comT a1 b1 x0 x1=false:=decide_eq_false hcm;have hNo:Hid (¬ yfb sh k m x0 x1):=Lib.hid fun h=>hcm (by rw[HA.out,HB.out];exact h.2)
            simp only[hT];clear hT hcm hp;gi_wp2;refine bodyPost_ret (v:=.tuple #[zga 0 0 0 0 none 0 0,.int .i64 10]) (ym rfl rfl rfl (by go_simp) (by go_simp) (by go_simp) (by go_simp) (by go_simp)) rfl ?_;refine⟨?_,.inl ⟨10,by omega,hNo.out,fun _=>rfl,rfl⟩⟩;exact((((VB.out.setCell l2 _).setCell l2 _).setCell l2 _).setCell l2 _).setCell l2 _
    · have HN:Hid (¬ yfb sh k m x0 x1):=Lib.hid fun h=>h0 (HF.out.2 h.1)
      have e0:w.cell? ⟨W.heap.size+1+1,0,none⟩=some (.int .i64 0):=by simp[World.cell?,y2]
      have e1:w.cell? ⟨W.heap.size+1+1,1,none⟩=some (.int .i64 0):=by simp[World.cell?,y2]
      have e2:w.cell? ⟨W.heap.size+1+1,2,none⟩=some (.int .i64 0):=by simp[World.cell?,y2]
      have e3:w.cell? ⟨W.heap.size+1+1,3,none⟩=some (.int .i64 0):=by simp[World.cell?,y2]
      have e4:w.cell? ⟨W.heap.size+1+1,4,none⟩=some (.slice none 0 0):=by simp[World.cell?,y2]
      have z2:=yc y2;clear y0 y1 y2;gi_wp2;refine bodyPost_ret (v:=.tuple #[zga 0 0 0 0 none 0 0,.int .i64 f]) (ym rfl rfl rfl (by go_simp) (by go_simp) (by go_simp) (by go_simp) (by go_simp)) rfl ?_;refine⟨?_,.inl ⟨f,h0,HN.out,fun h=>absurd (HF.out.2 h) h0,rfl⟩⟩;have l2:W.heap.size≤W.heap.size+1+1:=by omega
      exact((((HB.out.setCell l2 _).setCell l2 _).setCell l2 _).setCell l2 _).setCell l2 _
end
section
open Go.RowKit
end
section
open Go.RowKit
end
section
open Go.RowKit
end
section
open Go.RowKit
end
section
open Go.RowKit
theorem Index_any(LA:Option Addr)(lc:Nat)(x:List Nat)(s:Nat)(W:World)(hx:x.length≤99)(hs:s≤99)(hc:x.length≤lc)(ha:Hid (zca W LA x.length fun k=>((x.getD k 0:Nat):Int))) :
  CallsIn Fc 0 Tryz.prog 121 #[.slice LA x.length lc,.int .i64 s] W fun e w'=>∃ z:Int,e=.returned (.int .i64 z)∧(0≤z↔s∈x)∧W=w':=by
 gi_enter Tryz.func121,Tryz.ntmps121;gi_wp2
 gi_loopw [8] (fun z wr=>∃ k:Nat,k≤x.length∧z=.int .i64 k∧wr=W∧∀ j,j<k→x.getD j 0≠s) (fun z _=>x.length-(intOf z).toNat)
 case atStart=>exact⟨0,by omega,rfl,rfl,fun j hj=>by omega⟩
 case round=>
  obtain⟨k,hkx,rfl,rfl,heq⟩:=hrel;have HEQ:=Lib.hid heq;clear heq;by_cases hlt:k<x.length
  ·obtain⟨b1,o1,rfl,q1⟩:=ha.out k hlt;obtain⟨a,ha'⟩:∃ a,x.getD k 0=a:=⟨_,rfl⟩
   replace q1:wr.cell? ⟨b1,o1+k,none⟩=some (.int .i64 (a:Int)):=by rw[q1,←ha']
   have hltI:(k:Int)<(x.length:Int):=by omega
   have h99:k<99:=by omega
   have HA:=Lib.hid ha';clear ha';by_cases h1:s=a
   ·have h1I:(s:Int)=(a:Int):=by omega
    have hm:s∈x:=by
     have h:=HA.out;rw[List.getD_eq_getElem?_getD,List.getElem?_eq_getElem hlt] at h;have:x[k]=s:=by rw[h1];exact h
     rw[←this];exact List.getElem_mem hlt
    have HM:=Lib.hid hm;clear hm h1;gi_wp2;go_ret;exact⟨k,rfl,⟨fun _=>HM.out,fun _=>by omega⟩,rfl⟩
   ·have h1I:¬(s:Int)=(a:Int):=by omega
    have H1:=Lib.hid h1;clear h1;gi_wp2;go_roundw
    case rel=>exact⟨k+1,by omega,by go_num,trivial,fun j hj=>by
     by_cases e:j=k
     ·subst e;rw[HA.out];exact fun e=>H1.out e.symm
     ·exact HEQ.out j (by omega)⟩
    case measure=>simp[intOf];omega
  ·obtain rfl:k=x.length:=by omega
   gi_wp2;go_ret;refine⟨-1,rfl,⟨fun h=>by omega,fun h=>?_⟩,rfl⟩;obtain⟨j,hj,e⟩:=List.mem_iff_getElem.1 h;refine absurd ?_ (HEQ.out j hj);rw[List.getD_eq_getElem?_getD,List.getElem?_eq_getElem hj];exact e
theorem Contains_any(LA:Option Addr)(lc:Nat)(x:List Nat)(s:Nat)(W:World)(hx:x.length≤99)(hs:s≤99)(hc:x.length≤lc)(ha:Hid (zca W LA x.length fun k=>((x.getD k 0:Nat):Int))) :
  CallsIn Fc 0 Tryz.prog 73 #[.slice LA x.length lc,.int .i64 s] W fun e w'=>e=.returned (.bool (decide (s∈x)))∧W=w':=by
 gi_enter Tryz.func73,Tryz.ntmps73
 gi_wp2_with (gi_at_call 121;refine(Index_any LA lc x s _ hx hs hc ha).mono ?_;rintro e w' ⟨z,rfl,hz,rfl⟩;have HZ:=Lib.hid hz;clear hz)
 go_ret;refine⟨?_,rfl⟩;have h:=HZ.out;simp[←h]
noncomputable def setsX(rs rl rw:Int)(sh:Nat→Shaft)(n m:Nat):List (List Nat):=(extE n m n []).filter fun x=>zoc rs rl rw sh (fun k=>x.getD k 0) x.length==1
theorem yHa{n m:Nat}:∀(d:Nat) (x y:List Nat),d≤n→(∀ a,a∈x→a<n-d)→x.Pairwise (· < ·)→y∈loopE n m d x→y.Pairwise (· < ·)
 |0,x,y,_,_,_,h=>by cases h
 |d+1,x,y,hd,hx,hp,h=>by
  have hp1:(x++[n-(d+1)]).Pairwise (· < ·):=by rw[List.pairwise_append];refine⟨hp,List.pairwise_singleton _ _,fun a ha b hb=>?_⟩;rcases List.mem_singleton.1 hb with rfl;exact hx a ha
  rw[loopE,List.mem_append] at h;rcases h with h|h
  ·split at h
   ·rcases List.mem_singleton.1 h with rfl;exact hp1
   ·refine yHa d _ y (by omega) (fun a ha=>?_) hp1 h;rcases List.mem_append.1 ha with h'|h'
    ·have:=hx a h';omega
    ·rcases List.mem_singleton.1 h' with rfl;omega
  ·exact yHa d x y (by omega) (fun a ha=>by have:=hx a ha;omega) hp h
theorem extE_asc{n m:Nat}{y:List Nat}(h:y∈extE n m n []):y.Pairwise (· < ·):=by
 unfold extE at h;split at h
 ·rcases List.mem_singleton.1 h with rfl;exact List.Pairwise.nil
 ·exact yHa n [] y (Nat.le_refl _) (fun a ha=>by cases ha) List.Pairwise.nil h
theorem asc_at{x:List Nat}(h:x.Pairwise (· < ·)){j i:Nat}(hji:j<i)(hi:i<x.length):x.getD j 0<x.getD i 0:=by have:=List.pairwise_iff_getElem.1 h j i (by omega) hi hji;rw[List.getD_eq_getElem?_getD,List.getD_eq_getElem?_getD,List.getElem?_eq_getElem hi,List.getElem?_eq_getElem (show j<x.length by omega)];exact this
theorem setsL_eq{rs rl rw:Int}{sh:Nat→Shaft}{n m:Nat}{P:Nat→Int}(h:∀ two one,one<two→two<n→P (one*9+two)=pairZ rs rl rw (sh one) (sh two)):setsL P n m=setsX rs rl rw sh n m:=by
 unfold setsL filt setsX;refine List.filter_congr fun x hx=>?_
 have e:yesZ P x=zoc rs rl rw sh (fun k=>x.getD k 0) x.length:=yIa x.length fun j i h1 h2=>h _ _ (asc_at (extE_asc hx) h1 h2) (by rw[List.getD_eq_getElem?_getD,List.getElem?_eq_getElem h2];exact yNb hx _ (List.getElem_mem h2))
 rw[e]
end
section
open Go.RowKit
theorem u3i:Tryz.prog.underlying 3=some (.int .i64):=by kernel_rfl
theorem wpListIn_append_eq{F:Fence}{ops:Array Oper}{rest:List Oper}{o:Oper}{a:Act}{w:World}{Q:Exit→Act→World→Prop}(hg:o.guard=none)(s x:Operand)(t tn:TypeId)(hop:o.op=.call {callee:=.builtin .append,args:=#[s,x],argTypes:=#[t,tn]})(vs vx:Value)(hs:a.eval s=vs)(hx:a.eval x=vx)
  (v':Value) (w':World) (hr:(Builtin.append_ #[t,tn] o.type #[vs,vx]).run Tryz.prog w=.ok v' w') (h:wpListIn F 0 Tryz.prog ops Q rest (a.put o.dst v') w'):wpListIn F 0 Tryz.prog ops Q (o::rest) a w:=by
 refine wpListIn_plain hg fun K hK=>?_
 unfold Oper.wpIn;refine⟨?_,?_⟩
 ·simp[Oper.about,hop,resolve,Target.leads,Sem.run_pure]
 ·rw[Oper.semAt_plain F _ _ (by rw[hop];intro c hc';cases hc')];simp[execOp,hop,resolve,invoke,builtin,hs,hx,hr,Result.andThen];exact hK _ _ h
theorem Grow_any(k:Nat)(W:World)(hk:k≤99):CallsIn Fc 0 Tryz.prog 120 #[.slice none 0 0,.int .i64 k] W (fun e w'=>∃ v,e=.returned v∧w'.ownsRow W.heap.size 3 1 v 0 []∧Below W.heap.size W w'):=by
 by_cases h0:k=0
 ·subst h0;gi_enter Tryz.func120,Tryz.ntmps120;gi_wp2;go_ret;exact⟨_,rfl,World.ownsRow_nil _ _ _ _,Below.refl _ _⟩
 ·have hkI:(0:Int)<(k:Int):=by omega
  obtain⟨i0,hi0,hz0,hz1,hz2⟩:=info_parts it3;have hr:=Lib.run_append_nil_zeros (P:=Tryz.prog) W 27 3 27 3 i0 (.int .i64 0) .i64 .i64 ut27 u3i hi0 hz0 k (by omega) (by rw[hz1];decide) (by omega) (by rw[hz2];omega);have hge:=grownCap_ge W k 0 3;have hle:=grownCap_le_maxLen W k 0 3 (by simp only[maxLen];omega);generalize grownCap W k 0 3=gc at *;obtain⟨w1,hw1⟩:∃ w1,w1=W.drew.alloc (.cells (Builtin.zeroCells (Value.int .i64 0).cells k++Builtin.zeroCells (Value.int .i64 0).cells (gc-k)) 3):=⟨_,rfl⟩;rw[←hw1] at hr;have hb1:Below W.heap.size W w1:=by rw[hw1];exact((Below.refl _ _).drew).alloc (by simp) _
  have hh:w1.heap[W.heap.size]? = some (.cells (Builtin.zeroCells (Value.int .i64 0).cells k++Builtin.zeroCells (Value.int .i64 0).cells (gc-k)) 3 (0,0)):=by rw[hw1];exact zG (by simp)
  have HR:=Lib.hid hr;have HB:=Lib.hid hb1;have HH:=Lib.hid hh;clear hr hb1 hh hw1 hi0 hz0 hz1 hz2;gi_enter Tryz.func120,Tryz.ntmps120
  gi_wp2_with (refine wpListIn_append_eq rfl _ _ 27 3 rfl _ _ rfl rfl _ _ HR.out ?_)
  go_ret;refine⟨_,rfl,⟨rfl,.inr ⟨W.heap.size,gc,_,rfl,Nat.le_refl _,HH.out,by omega,hle,?_,by simp⟩⟩,HB.out⟩;have h1:(Value.int .i64 0).cells.size=1:=rfl;rw[Array.size_append,size_zeroCells,size_zeroCells,h1];omega
theorem take_next{S:List (List Nat)}{k:Nat}(h:k<S.length):S.take (k+1)=S.take k++[S.getD k []]:=by rw[List.take_succ_eq_append_getElem h,List.getD_eq_getElem?_getD,List.getElem?_eq_getElem h];rfl
theorem yKa{S:List (List Nat)}{k:Nat}(h:k<S.length):(S.take (k+1)).flatten=(S.take k).flatten++S.getD k []:=by rw[take_next h,List.flatten_append];simp
theorem zWb{S:List (List Nat)}(h:Few S):∀ k,k≤S.length→(S.take k).flatten.length≤k*9
 |0,_=>by simp
 |k+1,hk=>by rw[yKa (by omega),List.length_append];have:=zWb h k (by omega);have:=h.2 k;omega
theorem ints_cells{w:World}{b o:Nat}{x:List Nat}(h:zca w (some ⟨b,o,none⟩) x.length (fun k=>((x.getD k 0:Nat):Int)))(j:Nat)(u:Value)(hj:(x.map intV)[j]? = some u):w.cell? ((⟨b,o,none⟩:Addr).add j)=some u:=by
 have hlt:j<x.length:=by have:=(List.getElem?_eq_some_iff.1 hj).1;simpa using this
 obtain⟨b',o',e,hc⟩:=h j hlt;cases e;rw[addr_add,hc];rw[List.getElem?_map,List.getElem?_eq_getElem hlt] at hj;cases hj;simp[intV,List.getD_eq_getElem?_getD,List.getElem?_eq_getElem hlt]
theorem Concat_any(LA:Option Addr)(lc:Nat)(S:List (List Nat))(W:World)(hf:Few S)(hpos:∀ k,k<S.length→0<(S.getD k []).length)(hl:Hid (zlc W (.slice LA S.length lc) S)) :
    CallsIn Fc 0 Tryz.prog 72 #[.slice LA S.length lc] W (fun e w'=>∃ v,e=.returned v∧ListAt w' W.heap.size v S.flatten∧Below W.heap.size W w'):=by
  obtain⟨i0,hi0,hz0,hz1,hz2⟩:=info_parts it3;have HI0:=Lib.hid hi0;have HZ0:=Lib.hid hz0;have HZ1:=Lib.hid hz1;have HZ2:=Lib.hid hz2;clear hi0 hz0 hz1 hz2;obtain⟨_,_,e,hlc,hr⟩:=hl.out;cases e;have HR:=Lib.hid hr;have HF:=Lib.hid hf;have HP:=Lib.hid hpos;have h9:=hf.1;have hfl:=zWb hf S.length (Nat.le_refl _);rw[List.take_length] at hfl;clear hr hl hf hpos;gi_enter Tryz.func72,Tryz.ntmps72;gi_wp2
  gi_loopw [3,11] (fun t y wr=>∃ k:Nat,k≤S.length∧t=.int .i64 ((S.take k).flatten.length:Nat)∧y=.int .i64 k∧wr=W) (fun _ y _=>S.length-(intOf y).toNat)
  case atStart=>exact⟨0,by omega,by simp,rfl,rfl⟩
  case round=>
    obtain⟨k,hk,rfl,rfl,hwr⟩:=hrel;have hwr':=hwr.symm;subst hwr';have h81:=zWb HF.out k hk;obtain⟨t,ht⟩:∃ t,(S.take k).flatten.length=t:=⟨_,rfl⟩;rw[ht] at h81 ⊢;have HT:=Lib.hid ht;clear ht;by_cases hlt:k<S.length
    · obtain⟨b1,o1,LX,kx,rfl,q1,hkx,hix⟩:=HR.out k hlt;obtain⟨x,hx⟩:∃ x,S.getD k []=x:=⟨_,rfl⟩;have hx9:=HF.out.2 k;rw[hx] at q1 hkx hx9;have HX:=Lib.hid hx;have hltI:(k:Int)<(S.length:Int):=by omega
      have h99:k<99:=by omega
      clear hix hx;have ht81:t≤81:=by omega
      clear h81;gi_wp2;go_roundw
      case rel=>exact⟨k+1,by omega,by rw[yKa hlt,List.length_append,HT.out,HX.out];go_num,by go_num,trivial⟩
      case measure=>simp[intOf];omega
    · obtain rfl:k=S.length:=by omega
      have hT:=HT.out;rw[List.take_length] at hT;have HTT:=Lib.hid hT;have ht99:t≤99:=by omega
      have hltI:¬(S.length:Int)<(S.length:Int):=by omega
      clear hT HT h81
      gi_wp2_with (gi_at_call 120;refine(Grow_any t _ ht99).mono ?_;rintro e w1 ⟨v1,rfl,ho1,hb1⟩;have HO1:=Lib.hid ho1;have HB1:=Lib.hid hb1;clear ho1 hb1)
      gi_loopw [6,27] (fun v y wr=>∃ k:Nat,k≤S.length∧y=.int .i64 k∧ListAt wr W.heap.size v (S.take k).flatten∧Below W.heap.size W wr) (fun _ y _=>S.length-(intOf y).toNat)
      case atStart=>exact⟨0,by omega,rfl,HO1.out,HB1.out⟩
      case round=>
        obtain⟨k,hk,rfl,hla,hbw⟩:=hrel;have h81:=zWb HF.out k hk;have HLA:=Lib.hid hla;have HBW:=Lib.hid hbw;clear hla hbw;by_cases hlt:k<S.length
        · obtain⟨b1,o1,LX,kx,rfl,q1,hkx,hix⟩:=HR.out k hlt;have hp:=HP.out k hlt;have hfn:=yKa hlt;obtain⟨x,hx⟩:∃ x,S.getD k []=x:=⟨_,rfl⟩;have hx9:=HF.out.2 k;rw[hx] at q1 hkx hx9 hix hp hfn;have HFN:=Lib.hid hfn;obtain⟨b2,o2,rfl,_⟩:=hix 0 hp;have hcl:=ints_cells (hix.below HBW.out);have HCL:=Lib.hid hcl;have q1w:=Below.old HBW.out q1;have hltI:(k:Int)<(S.length:Int):=by omega
          have h99:k<99:=by omega
          obtain⟨M,hM⟩:∃ M,(S.take k).flatten=M:=⟨_,rfl⟩;have hla:wr.ownsRow W.heap.size 3 1 u6 M.length (M.map intV):=by rw[←hM];exact HLA.out
          have hM81:M.length≤81:=by rw[←hM];omega
          rw[hM] at HFN;have HLA2:=Lib.hid hla;clear hix hx hfn hcl hM h81 hla HLA q1
          gi_wp2_with
            (gi_at_builtin
             refine wpListIn_append_own _ rfl _ _ 27 rfl W.heap.size 3 i0 (.int .i64 0) 1 8 ut27 HI0.out HZ0.out HZ1.out HZ2.out rfl (by decide) u6 M.length (M.map intV) rfl HLA2.out ⟨b2,o2,none⟩ x.length kx (x.map intV) rfl (by simp) HCL.out (by intro u hu;obtain⟨n,_,rfl⟩:=List.mem_map.1 hu;rfl) (by simp[maxLen];omega) (by omega) (HBW.out.size) ?_;intro v' w4 hown4 hg4 hnil4;have HO:=Lib.hid hown4;have HG:=Lib.hid hg4;clear hg4 hnil4 hown4)
          refine⟨⟨k+1,by omega,rfl,?_,HBW.out.grown HG.out HBW.out.size fun g hg=>(zfb HLA2.out hg).1⟩,by show S.length-(intOf (Value.int IntKind.i64 ((k:Int)+1))).toNat<S.length-(intOf (Value.int IntKind.i64 (k:Int))).toNat;simp only[intOf];omega⟩;rw[HFN.out];have h:=HO.out;show w4.ownsRow W.heap.size 3 1 v' (M++x).length ((M++x).map intV);rw[List.map_append,List.length_append];exact h
        · obtain rfl:k=S.length:=by omega
          have hltI:¬(S.length:Int)<(S.length:Int):=by omega
          have hla:=HLA.out;rw[List.take_length] at hla;obtain⟨F,hF⟩:∃ F,S.flatten=F:=⟨_,rfl⟩;rw[hF] at hla;obtain⟨LV,lv,rfl,hlv,_⟩:=hla.shape;have HLA2:=Lib.hid hla;have HF2:=Lib.hid hF;clear hla HLA h81 hF;gi_wp2;go_ret;rw[HF2.out];exact⟨_,rfl,HLA2.out,HBW.out⟩
end
section
open Go.RowKit
theorem yka{n m:Nat}:∀(d:Nat) (x y:List Nat),y∈loopE n m d x→y.length=m
 |0,x,y,h=>by cases h
 |d+1,x,y,h=>by
  rw[loopE,List.mem_append] at h;rcases h with h|h
  ·split at h
   ·next e=>rcases List.mem_singleton.1 h with rfl;rw[List.length_append,List.length_singleton];exact e
   ·exact yka d _ y h
  ·exact yka d x y h
theorem yDb{n m d:Nat}{x y:List Nat}(h:y∈extE n m d x):y.length=m:=by
 unfold extE at h;split at h
 ·next e=>rcases List.mem_singleton.1 h with rfl;exact e
 ·exact yka d x y h
theorem fold_all{p:List Nat→Prop}{f:List (List Nat)→List Nat→List (List Nat)}:∀(X B:List (List Nat)),(∀ B x,x∈X→(∀ y,y∈B→p y)→∀ y,y∈f B x→p y)→(∀ y,y∈B→p y)→∀ y,y∈X.foldl f B→p y
 | [],B,_,hB=>hB
 |x::X,B,hf,hB=>fold_all X (f B x) (fun B z hz=>hf B z (List.mem_cons_of_mem _ hz)) (hf B x (List.mem_cons_self ..) hB)
theorem yjb{p:List Nat→Prop}{n:Nat}{O:Nat→List (List Nat)}(hO:∀ s x,x∈O s→p x):∀(d:Nat) (T:Nat→Bool) (S B:List (List Nat)),(∀ y,y∈S→p y)→(∀ y,y∈B→p y)→∀ y,y∈tryE n O d T S B→p y
 |0,T,S,B,hS,hB=>by
  rw[tryE];split
  ·exact hS
  ·exact hB
 |d+1,T,S,B,hS,hB=>by
  rw[tryE];refine yjb hO d _ S _ hS ?_;split
  ·exact hB
  ·refine fold_all _ B (fun B x hx hB=>?_) hB;split
   ·refine yjb hO d _ _ B (fun y hy=>?_) hB;rcases List.mem_append.1 hy with h|h
    ·exact hS y h
    ·rcases List.mem_singleton.1 h with rfl;exact hO _ _ hx
   ·exact hB
theorem evs_fst{M:List (List Nat)}{ev:Nat×Nat}(h:ev∈evs M M.length 0):ev.2<M.length:=by simp only[evs,List.take_zero,List.map_nil,List.append_nil,List.mem_flatMap,List.mem_range,List.mem_map] at h;obtain⟨k,hk,s,_,rfl⟩:=h;exact hk
theorem ofE_mem'{M:List (List Nat)}{s:Nat}{x:List Nat}(h:x∈ofE M (evs M M.length 0) s):x∈M:=by obtain⟨ev,he,rfl⟩:=List.mem_map.1 h;have hlt:=evs_fst (List.mem_filter.1 he).1;rw[List.getD_eq_getElem?_getD,List.getElem?_eq_getElem hlt];exact List.getElem_mem hlt
theorem shareL_mem{P:Nat→Int}{n m:Nat}{T:Nat→Bool}{x:List Nat}(h:x∈zPb P n m T):x∈setsL P n m:=
 yjb (p:=fun x=>x∈setsL P n m) (fun s x hx=>ofE_mem' hx) n T [] [] (fun y hy=>by cases hy) (fun y hy=>by cases hy) x h
theorem setsL_mem{P:Nat→Int}{n m:Nat}{x:List Nat}(h:x∈setsL P n m):x∈extE n m n []:=(List.mem_filter.1 h).1
theorem shareL_pos{P:Nat→Int}{n m:Nat}{T:Nat→Bool}(hm:0<m)(k:Nat)(hk:k<(zPb P n m T).length):0<((zPb P n m T).getD k []).length:=by rw[List.getD_eq_getElem?_getD,List.getElem?_eq_getElem hk];show 0<((zPb P n m T)[k]).length;rw[yDb (setsL_mem (shareL_mem (List.getElem_mem hk)))];exact hm
noncomputable def zgc(rs rl rw:Int)(sh:Nat→Shaft)(n m:Nat)(T:Nat→Bool):List (List Nat):=tryE n (fun s=>ofE (setsX rs rl rw sh n m) (evs (setsX rs rl rw sh n m) (setsX rs rl rw sh n m).length 0) s) n T [] []
theorem yyb{rs rl rw:Int}{sh:Nat→Shaft}{n m:Nat}{P:Nat→Int}(h:∀ two one,one<two→two<n→P (one*9+two)=pairZ rs rl rw (sh one) (sh two))(T:Nat→Bool):zPb P n m T=zgc rs rl rw sh n m T:=by
 unfold zPb zgc;have e:zab P n m=fun s=>ofE (setsX rs rl rw sh n m) (evs (setsX rs rl rw sh n m) (setsX rs rl rw sh n m).length 0) s:=by funext s;unfold zab;rw[setsL_eq h]
 rw[e]
theorem zS.below{w w':World}{b1 b2:Nat}{v:Value}{M:List (List Nat)}(h:zS w b1 b2 v M)(hb:Below w.heap.size w w'):zS w' b1 b2 v M:=
 h.keep (fun g hg=>hb.block g (h.own hg).2) fun k cs fz hk=>hb.block k (Array.getElem?_eq_some_iff.1 hk).1
theorem zS.read{w:World}{b1 b2:Nat}{v:Value}{S:List (List Nat)}(h:zS w b1 b2 v S):zlc w v S:=by
 obtain⟨vs,h1,h2⟩:=h;obtain⟨hl,⟨rfl,h0⟩|⟨g,cap,cur,rfl,hbg,hg,hc,hm,hs,ht⟩⟩:=id h1
 ·refine⟨none,0,by rw[h0],by omega,fun k hk=>by omega⟩
 ·refine⟨_,cap,rfl,hc,fun k hk=>?_⟩;obtain⟨LX,kx,e,q1,q2⟩:=(h2 k hk).shape;refine⟨g,0,LX,kx,rfl,?_,q1,q2⟩;have hv:k<vs.length:=by omega
  rw[Nat.zero_add,h1.cellAt k (by omega),←e,List.getD_eq_getElem?_getD,List.getElem?_eq_getElem hv];rfl
def leftL(n:Nat)(M:List (List Nat)):List Nat:=(List.range n).filter fun s=>decide (s∉M.flatten)
def SaysFill(M:List (List Nat))(L:List Nat)(z:Int)(W:World)(e:Ending)(w':World):Prop:=∃ v u,e=.returned (.tuple #[v,u,.int .i64 z])∧zS w' W.heap.size W.heap.size v M∧ListAt w' W.heap.size u L∧Below W.heap.size W w'
theorem yGb (rs rl rw:Int) (m:Nat) (A:Option Addr) (n c:Nat) (sh:Nat→Shaft) (W:World) (hc:n≤c) (hsh:Hid (zA W A n sh)) (hst:zxa rs rl rw m n sh) :
    CallsIn Fc 0 Tryz.prog 25 #[zga rs rl rw m A n c] W (SaysFill (zgc rs rl rw sh n m fun _=>false) (leftL n (zgc rs rl rw sh n m fun _=>false)) 0 W):=by
  obtain⟨i0,hi0,hz0,hz1,hz2⟩:=info_parts it3;have HI0:=Lib.hid hi0;have HZ0:=Lib.hid hz0;have HZ1:=Lib.hid hz1;have HZ2:=Lib.hid hz2;clear hi0 hz0 hz1 hz2;have hn9:=hst.count;have hm2:=hst.rule.m0;have hB1:∀ X Y,Below W.heap.size W ((W.alloc X).alloc Y):=fun X Y=>((Below.refl _ _).alloc (Nat.le_refl _) _).alloc (by simp) _
  have HB1:=Lib.hid hB1;have hck:=fun w (hb:Below W.heap.size W w)=>yrb rs rl rw m A n c sh w hc (Lib.hid hst) (Lib.hid (hsh.out.below hb))
  have HCK:=Lib.hid hck;have hcd:=fun w (hb:Below W.heap.size W w)=>yQa rs rl rw m A n c sh w (Lib.hid hst) (Lib.hid (hsh.out.below hb))
  have HCD:=Lib.hid hcd;clear hcd hck hst hB1;gi_enter Tryz.func25,Tryz.ntmps25
  gi_wp2_with (first
    | (gi_at_call 56;refine(HCK.out _ (HB1.out _ _)).mono ?_;rintro e w2 ⟨rfl,hb2⟩
       have e0:w2.cell? ⟨W.heap.size+1,0,none⟩=some (.int .i64 rs):=Below.old hb2 (by go_simp);have e1:w2.cell? ⟨W.heap.size+1,1,none⟩=some (.int .i64 rl):=Below.old hb2 (by go_simp);have e2:w2.cell? ⟨W.heap.size+1,2,none⟩=some (.int .i64 rw):=Below.old hb2 (by go_simp);have e3:w2.cell? ⟨W.heap.size+1,3,none⟩=some (.int .i64 m):=Below.old hb2 (by go_simp);have e4:w2.cell? ⟨W.heap.size+1,4,none⟩=some (.slice A n c):=Below.old hb2 (by go_simp);have e5:w2.cell? ⟨W.heap.size,4,none⟩=some (.slice A n c):=Below.old hb2 (by go_simp);have HB2:=Lib.hid ((HB1.out _ _).trans (hb2.mono (HB1.out _ _).size));clear hb2)
    |(gi_at_call 58;refine(HCD.out _ HB2.out).mono ?_;rintro e w7 ⟨P,rfl,hP,hb7⟩;have e7:=Below.old (hb7.mono (Nat.le_refl _)) e5;have HB7:=Lib.hid (HB2.out.trans (hb7.mono HB2.out.size));have HP:=Lib.hid (yyb hP (m:=m) fun _=>false);clear hb7 hP e0 e1 e2 e3 e4 e5)
    |(gi_at_call 71;refine(yxb rs rl rw A n c P m (fun _=>false) _ hn9).mono ?_;rintro e w8 ⟨v,rfl,hl,hf,hb8⟩;have e8:=Below.old hb8 e7;have HL:=Lib.hid hl;have HF:=Lib.hid hf;have HB8:=Lib.hid (HB7.out.trans (hb8.mono HB7.out.size));clear hb8 hl hf e7))
  have hpos:=fun k hk=>shareL_pos (P:=P) (n:=n) (m:=m) (T:=fun _=>false) (by omega) k hk
  obtain⟨M,hM⟩:∃ M,zPb P n m (fun _=>false)=M:=⟨_,rfl⟩;have hrd:=HL.out.read;rw[hM] at hpos hrd HP HL HF;obtain⟨LA,lc,rfl,hlc,_⟩:=id hrd;have hfl:M.flatten.length≤81:=by have:=zWb HF.out M.length (Nat.le_refl _);rw[List.take_length] at this;have:=HF.out.1;omega
  refine(Concat_any LA lc M w8 HF.out hpos (Lib.hid hrd)).mono ?_;rintro e w9 ⟨u,rfl,hu,hb9⟩;have e9:=Below.old hb9 e8;obtain⟨LU,ku,rfl,hku,hiu⟩:=hu.shape;obtain⟨F,hF⟩:∃ F,M.flatten=F:=⟨_,rfl⟩;rw[hF] at hu hku hiu hfl ⊢;have HU:=Lib.hid hiu;have HL9:=Lib.hid (HL.out.below hb9);have HB9:=Lib.hid (HB8.out.trans (hb9.mono HB8.out.size));have HB89:=Lib.hid hb9;have HF2:=Lib.hid hF;have k9:=World.block_lt_of_cell? w9 _ e9;have hcon:=fun s (hs:s≤99) w (hw:Below w9.heap.size w9 w)=>Contains_any LU ku F s w (by omega) hs hku (Lib.hid (hiu.below hw))
  have HC:=Lib.hid hcon;clear hpos hM hrd hu hiu hF hb9 hcon e8;gi_wp2
  gi_loopw [3,25] (fun lv y wr=>∃ k:Nat,k≤n∧y=.int .i64 k∧ListAt wr w9.heap.size lv ((List.range k).filter fun s=>decide (s∉F))∧Below w9.heap.size w9 wr) (fun _ y _=>n-(intOf y).toNat)
  case atStart=>exact⟨0,by omega,rfl,ListAt.nil _ _,Below.refl _ _⟩
  case round=>
    obtain⟨k,hk,rfl,hla,hbw⟩:=hrel;have HLA:=Lib.hid hla;have HBW:=Lib.hid hbw;clear hla hbw;by_cases hlt:k<n
    · have hltI:(k:Int)<(n:Int):=by omega
      have h99:k<9:=by omega
      have hck:=HC.out k (by omega) wr HBW.out;have hnext:(List.range (k+1)).filter (fun s=>decide (s∉F))=(List.range k).filter (fun s=>decide (s∉F))++if k∈F then[] else[k]:=by rw[List.range_succ,List.filter_append];by_cases h:k∈F<;>simp[h]
      have hlen:((List.range k).filter fun s=>decide (s∉F)).length≤9:=Nat.le_trans (List.length_filter_le _ _) (by simp;omega);by_cases hin:k∈F
      · rw[show decide (k∈F)=true from decide_eq_true hin] at hck;rw[if_pos hin,List.append_nil] at hnext;have HN:=Lib.hid hnext;have HCK:=Lib.hid hck;clear hnext hck hin hlen
        gi_wp2_with (gi_at_call 73;refine HCK.out.mono ?_;rintro e w6 ⟨rfl,rfl⟩)
        exact⟨⟨k+1,by omega,rfl,by rw[HN.out];exact HLA.out,HBW.out⟩,by show n-(intOf (Value.int IntKind.i64 ((k:Int)+1))).toNat<n-(intOf (Value.int IntKind.i64 (k:Int))).toNat;simp only[intOf];omega⟩
      · rw[show decide (k∈F)=false from decide_eq_false hin] at hck;rw[if_neg hin] at hnext;have HN:=Lib.hid hnext;have HCK:=Lib.hid hck;obtain⟨L,hL⟩:∃ L,(List.range k).filter (fun s=>decide (s∉F))=L:=⟨_,rfl⟩;rw[hL] at hlen HN;have hla:∀ X,(wr.alloc X).ownsRow w9.heap.size 3 1 u3 L.length (L.map intV):=fun X=>by rw[←hL];exact zu HLA.out ((Below.refl _ _).alloc (Nat.le_refl _) X)
        have HLA2:=Lib.hid hla;clear hnext hck hin hL hla
        gi_wp2_with (first
          |(gi_at_call 73;refine HCK.out.mono ?_;rintro e w6 ⟨rfl,rfl⟩)
          | (gi_at_builtin
             refine wpListIn_append_own _ rfl _ _ 27 rfl w9.heap.size 3 i0 (.int .i64 0) 1 8 ut27 HI0.out HZ0.out HZ1.out HZ2.out rfl (by decide) u3 L.length (L.map intV) rfl (HLA2.out _) ⟨_,0,none⟩ 1 1 [.int .i64 (k:Int)] rfl rfl (cells_new _ _ _) (by intro u hu;rcases List.mem_singleton.1 hu with rfl;rfl) (by simp[maxLen];omega) (by omega) (by have:=HBW.out.size;simp;omega) ?_;intro v' w4 hown4 hg4 hnil4;have HO:=Lib.hid hown4;have HG:=Lib.hid hg4;clear hg4 hnil4 hown4))
        refine⟨⟨k+1,by omega,rfl,?_,(HBW.out.alloc HBW.out.size _).grown HG.out (by have:=HBW.out.size;simp;omega) fun g hg=>(zfb (HLA2.out (.cells #[.int .i64 (k:Int)] 3)) hg).1⟩,by show n-(intOf (Value.int IntKind.i64 ((k:Int)+1))).toNat<n-(intOf (Value.int IntKind.i64 (k:Int))).toNat;simp only[intOf];omega⟩;rw[HN.out];have h:=HO.out;show w4.ownsRow w9.heap.size 3 1 v' (L++[k]).length ((L++[k]).map intV);rw[List.map_append,List.length_append];exact h
    · obtain rfl:k=n:=by omega
      have hltI:¬(k:Int)<(k:Int):=by omega
      gi_wp2;refine bodyPost_ret (results_tmp3 rfl _ _ _) rfl ?_;refine⟨_,_,rfl,?_,?_,HB9.out.trans (HBW.out.mono HB9.out.size)⟩
      · rw[←HP.out];exact(HL9.out.below HBW.out).mono HB7.out.size HB7.out.size
      · unfold leftL;rw[←HP.out,HF2.out];exact HLA.out.mono HB9.out.size
end
section
open Go.RowKit
section
variable {rs rl rw many:Int}{n k:Nat}{sh:Nat→Shaft}{z:Int}
end
end
section
open Go.RowKit
end
section
open Go.RowKit
section
variable {F:Fence}{n:Nat}{P:Program}{Post:Act→World→Prop}{a:Act}{w:World}{b:Frame}{k:List Item}{cs:List Frame}
def zJb(Post:Act→World→Prop):Exit→Act→World→Prop
 |.normal,a,w=>Post a w
 |_,_,_=>False
abbrev Comes(F:Fence)(P:Program)(b:Frame)(cs:List Frame)(a:Act)(k:List Item)(w:World)(a':Act)(k':List Item)(w':World):Prop:=
 StepsIn (Machine.fenced P F) P (lone (b.atR a k) cs w) (lone (b.atR a' k') cs w')
theorem comes_code{c:Code}(h:c.wpIn F n P (zJb Post) a w)(hro:b.roundOf=F.round)(hb:F.fn b.fn)(hr:F.room (cs.length+1+n)) :
  ∃ a' w',Post a' w'∧Comes F P b cs a (.code c::k) w a' k w':=by
 obtain⟨e,a',w',hp,harr⟩:=h b k cs hro hb hr;cases e with
 |normal=>exact⟨a',w',hp,harr⟩
 |_=>exact hp.elim
theorem comes_seq{x y:Code}(hb:F.fn b.fn)(hr:F.room (cs.length+1+n)):Comes F P b cs a (.code (.seq x y)::k) w a (.code x::.code y::k) w:=
 .one (fenced_calm hb hr rfl) stepR_seq
theorem comes_cond{c:Operand}{x y:Code}{t:Bool}(hc:a.eval c=.bool t)(hb:F.fn b.fn)(hr:F.room (cs.length+1+n)):Comes F P b cs a (.code (.cond c x y)::k) w a (.code (if t then x else y)::k) w:=
 .one (fenced_calm hb hr rfl) (stepR_cond hc)
theorem comes_region{id:Nat}{ops:Array Oper}(hb:F.fn b.fn)(hr:F.room (cs.length+1+n)):Comes F P b cs a (.code (.region id ops false)::k) w a (.inRegion ops (List.range ops.size)::k) w:=
 .one (fenced_calm hb hr rfl) stepR_region
def reckons:Op→Bool
 |.move _|.assign _|.pick _ _ _|.binOp _ _ _ _ _|.load _ _|.fieldAddr _ _ _|.unOp _ _ _|.indexAddr _ _ _=>true
 |.call c=>match c.callee with
  |.builtin .len=>true
  |_=>false
 |_=>false
theorem reckons_about{o:Oper}(h:reckons o.op=true)(P:Program)(w:World)(ρ:Operand→Value):o.about P w ρ=none:=by
 unfold Oper.about;cases hop:o.op with
 |call c=>
  rw[hop] at h;simp only[reckons] at h;cases hc:c.callee with
  |builtin b=>simp[resolve,hc,Target.leads,Sem.run_pure]
  |invoke x y=>rw[hc] at h;cases h
  |value f=>rw[hc] at h;cases h
 |_=>simp_all [reckons]
theorem zDb{s:Sem Value}{P:Program}{w:World}:(∃ v w',(do let v ←s;pure (Next.value v):Sem Next).run P w=.ok (.value v) w')∨∃ x w',(do let v ←s;pure (Next.value v):Sem Next).run P w=.halt x w':=by
 rw[Sem.run_bind];cases s.run P w with
 |ok v w'=>exact .inl ⟨v,w',rfl⟩
 |halt x w'=>exact .inr ⟨x,w',rfl⟩
theorem yFa{o:Oper}(h:reckons o.op=true)(P:Program)(w:World)(ρ:Operand→Value):(∃ v w',(execOp ρ o).run P w=.ok (.value v) w')∨∃ x w',(execOp ρ o).run P w=.halt x w':=by
 cases hop:o.op<;>simp only[hop,reckons] at h<;>try (cases h)
 all_goals unfold execOp;simp only[hop]
 case move x=>exact .inl ⟨_,_,rfl⟩
 case assign x=>exact .inl ⟨_,_,rfl⟩
 case pick c x y=>
  rw[Sem.run_bind];cases(asBool (ρ c)).run P w with
  |ok v w'=>exact .inl ⟨_,w',rfl⟩
  |halt x w'=>exact .inr ⟨x,w',rfl⟩
 case binOp op t x y u=>exact zDb
 case load t x=>exact zDb
 case fieldAddr t x f=>exact zDb
 case indexAddr t x i=>exact zDb
 case unOp o t x=>exact zDb
 case call c=>
  cases hc:c.callee with
  |builtin b=>
   rw[hc] at h;cases b with
   |len=>
    have e:(do let d ←resolve ρ c o.type;invoke d.target d.args:Sem Next)=(do let v ←Builtin.len_ c.argTypes o.type (c.args.map ρ);pure (Next.value v):Sem Next):=by simp[resolve,hc,invoke,builtin]
    rw[e];exact zDb
   |_=>cases h
  |invoke x y=>rw[hc] at h;cases h
  |value f=>rw[hc] at h;cases h
theorem comes_pre{ops:Array Oper}(l:List Oper):∀(i:Nat) (rest:List Nat) (a:Act) (w:World),(∀ j,j<l.length→ops[i+j]? = l[j]?)→(l.all fun o=>reckons o.op)=true →
  wpListIn F n P ops (zJb Post) l a w→b.roundOf=F.round→F.fn b.fn→F.room (cs.length+1+n) →
  ∃ a' w',Post a' w'∧Comes F P b cs a (.inRegion ops (List.range' i l.length++rest)::k) w a' (.inRegion ops rest::k) w':=by
 induction l with
 |nil=>exact fun i rest a w _ _ h _ _ _=>⟨a,w,h,.refl _⟩
 |cons o l ih=>
  intro i rest a w hops hall h hro hb hr;have ho:ops[i]? = some o:=by simpa using hops 0 (by simp)
  have hops':∀ j,j<l.length→ops[i+1+j]? = l[j]?:=fun j hj=>by have:=hops (j+1) (by simp;omega);simpa[Nat.add_assoc,Nat.add_comm 1 j] using this
  simp only[List.all_cons,Bool.and_eq_true] at hall;have hab:∀ f,o.about P w a.eval=some f→F.fn f:=fun f hf=>by rw[reckons_about hall.1] at hf;cases hf
  have h0:(lone (b.atR a (.inRegion ops (i::(List.range' (i+1) l.length++rest))::k)) cs w).fenced P F:=fenced_oper hb hr ho hab;have hfin:∀ v,(b.atR a (.inRegion ops (i::(List.range' (i+1) l.length++rest))::k)).finish v=b.atR (a.put o.dst v) (.inRegion ops (List.range' (i+1) l.length++rest)::k):=by intro v;rw[Frame.finish_atR,ho];rfl
  simp only[wpListIn] at h;rw[List.length_cons,List.range'_succ,List.cons_append];by_cases hw:Region.wanted o (yielded ops a.tmps)=true
  ·rw[if_pos hw] at h;have h2:=h.2;have hsem:o.semAt F.round a.eval=execOp a.eval o:=by
    refine Oper.semAt_eq _ _ _ fun c hc=>?_
    rw[hc] at hall;exact absurd hall.1 (by simp[reckons])
   rw[hsem] at h2;rcases yFa hall.1 P w a.eval with⟨v,w1,hrun⟩|⟨x,w1,hrun⟩
   ·rw[hrun] at h2;obtain⟨a',w',hp,hs⟩:=ih (i+1) rest _ _ hops' hall.2 h2 hro hb hr;refine⟨a',w',hp,.head h0 (step_lone_go ?_) hs⟩;rw[stepGR_op (P:=P) ho hw,hro,hsem,←hfin];simp[stepG.apply,hrun]
   ·rw[hrun] at h2;cases x with
    |panic v=>exact h2.elim
    |_=>exact h2.elim
  ·rw[if_neg hw] at h;obtain⟨a',w',hp,hs⟩:=ih (i+1) rest _ _ hops' hall.2 h.2 hro hb hr;have hk:=stepR_op_skip (P:=P) (b:=b) (a:=a) (k:=k) (cs:=cs) (w:=w) (ops:=ops) (i:=i) (rest:=List.range' (i+1) l.length++rest) (by simp[ho];simpa using hw);simp only[ho,Option.bind_some] at hk;exact⟨a',w',hp,.head h0 hk hs⟩
end
end
end Go.Proofs.YtpdmgecbapmgdaaGreat
