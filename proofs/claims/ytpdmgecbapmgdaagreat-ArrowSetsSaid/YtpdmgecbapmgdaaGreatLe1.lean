/- Ground of proofs about package arrow: it says nothing by itself, without a condition. -/
import Derived.Test.YtpdmgecbapmgdaaGreatLe0
import Derived.Test.YtpdmgecbapmgdaaGreatLp0
import Derived.Test.YtpdmgecbapmgdaaGreatLp1
import Derived.Test.YtpdmgecbapmgdaaGreatLp2
import Derived.Test.YtpdmgecbapmgdaaGreatLp3
import Derived.Test.YtpdmgecbapmgdaaGreatLp4
import Derived.Test.YtpdmgecbapmgdaaGreatLp5
import Derived.Test.YtpdmgecbapmgdaaGreatLp6
import Derived.Test.YtpdmgecbapmgdaaGreatLp7
import Derived.Test.YtpdmgecbapmgdaaGreatLp8
import Derived.Test.YtpdmgecbapmgdaaGreatLp9
import Derived.Test.YtpdmgecbapmgdaaGreatLp10
import Derived.Test.YtpdmgecbapmgdaaGreatLp11
import Derived.Test.YtpdmgecbapmgdaaGreatLp12
import Derived.Test.YtpdmgecbapmgdaaGreatLp13
import Derived.Test.YtpdmgecbapmgdaaGreatLp14
import Derived.Test.YtpdmgecbapmgdaaGreatLp15
import Derived.Test.YtpdmgecbapmgdaaGreatLp16
import Derived.Test.YtpdmgecbapmgdaaGreatLp17
import Derived.Test.YtpdmgecbapmgdaaGreatLp18
import Derived.Test.YtpdmgecbapmgdaaGreatLp19
set_option maxRecDepth 100000
section
open Go Go.Cx Go.Conc Go.ConcN
open Go.ConcR (Payload DC0)
namespace Go.Proofs
theorem Tryz.reach1:∃ k,zy Tryz.tab Tryz.plans k Tryz.S0 Tryz.S11:=by
  exact(zy.piece Tryz.piece0 (zy.piece Tryz.piece1 (zy.piece Tryz.piece2 (zy.piece Tryz.piece3 (zy.piece Tryz.piece4 (zy.piece Tryz.piece5 (zy.piece Tryz.piece6 (zy.piece Tryz.piece7 (zy.piece Tryz.piece8 (zy.piece Tryz.piece9 (zy.piece Tryz.piece10 zy.none)))))))))))
theorem Tryz.reach2:∃ k,zy Tryz.tab Tryz.plans k Tryz.S18 Tryz.S20:=by
  exact(zy.piece Tryz.piece18 (zy.piece Tryz.piece19 zy.none))
noncomputable def Tryz.v16:List (List Value):=Tryz.vals16
theorem Tryz.starts16:startsA Tryz.tab Tryz.plans Tryz.cfg 22 69 Tryz.S16=some (Tryz.v16,Tryz.S17):=Tryz.piece16
noncomputable def Tryz.v15:List (List Value):=Tryz.vals15++Tryz.v16
theorem Tryz.starts15:startsA Tryz.tab Tryz.plans Tryz.cfg 45 46 Tryz.S15=some (Tryz.v15,Tryz.S17):=startsA_split _ _ _ 23 46 22 Tryz.piece15 Tryz.starts16
noncomputable def Tryz.v14:List (List Value):=Tryz.vals14++Tryz.v15
theorem Tryz.starts14:startsA Tryz.tab Tryz.plans Tryz.cfg 68 23 Tryz.S14=some (Tryz.v14,Tryz.S17):=startsA_split _ _ _ 23 23 45 Tryz.piece14 Tryz.starts15
noncomputable def Tryz.v13:List (List Value):=Tryz.vals13++Tryz.v14
theorem Tryz.starts13:startsA Tryz.tab Tryz.plans Tryz.cfg 91 0 Tryz.S13=some (Tryz.v13,Tryz.S17):=startsA_split _ _ _ 23 0 68 Tryz.piece13 Tryz.starts14
theorem Tryz.vals_eq:Tryz.v13=Tryz.vals:=by kernel_rfl
theorem Tryz.fill:∃ h2,fillA Tryz.cfg Tryz.v13 Tryz.S17.s.h=some h2∧(⟨{Tryz.S17.s with h:=h2},none,[]⟩:L)=Tryz.S18:=by
  have h:=Tryz.piece17
  rw[←Tryz.vals_eq] at h
  split at h
  · next h2 e=>exact⟨h2,e,Option.some.inj h⟩
  · cases h
theorem Tryz.fin:∃ hA,stepL Tryz.tab Tryz.plans Tryz.S20=.done (.bool true) hA∧Tryz.S20.s.fr.deferred=false:=by
  have h:=Tryz.pieceEnd
  split at h
  · next hA e=>exact⟨hA,e,by simpa using h⟩
  · cases h
theorem Tryz.shot_run{b:Frame}{bot:List Frame}{f:Inj}{M:Loc→Prop}{a:Goroutine}{w:World}{sl:Option (Nat×Nat)}{t:Trace}(ht:Lone t)(hM:∀ l,¬ M l)(hr:XRel f M (fun _=>False) (b::bot) Tryz.S0 a w)
    {Post:Value→World→Prop} {n:Nat} (hfin:∀ w',Env (OldL w) w w'→Goes Tryz.prog true (fun w0 w1=>Env (OldL w) w0 w1) DC0 (AtRet Tryz.prog Post) n (G (b.finish (.bool true)) bot) w') :
    ∃ N last o w' t',runNT Tryz.prog (N+1) (crowd #[a] w sl) t=(.ended o w',t')∧runN Tryz.prog N (crowd #[a] w sl)=.next last∧Go.step Tryz.prog last=.ended o w'∧Go.Conc.Good Tryz.prog Post last o w' t':=by
  obtain⟨m1,r1⟩:=Tryz.reach1
  obtain⟨m2,r2⟩:=Tryz.reach2
  obtain⟨h2,e5,e6⟩:=Tryz.fill
  obtain⟨hA,d1,d2⟩:=Tryz.fin
  rw[←e6] at r2
  have e4:=Tryz.starts13
  rw[←Tryz.piece12] at e4
  exact whole_run (p:=Tryz.tab) (pl:=Tryz.plans) (Lk:=Tryz.link) (c:=Tryz.cfg) Tryz.wgLib Tryz.tabOk Tryz.hmix rfl rfl rfl (by decide) (by decide) r1 Tryz.piece11 Tryz.ready e4 e5 r2 d1 d2 rfl ht hM hr hfin
end Go.Proofs
end
