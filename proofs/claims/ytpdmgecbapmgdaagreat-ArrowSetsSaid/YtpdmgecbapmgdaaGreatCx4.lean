/- Ground of proofs about package arrow: it says nothing by itself, without a condition. -/
import Derived.Test.YtpdmgecbapmgdaaGreatCx3
import Derived.Conc.Beside
set_option linter.unusedSectionVars false
set_option linter.unusedVariables false
namespace Go.Cx
section
open Go.Conc Go.ConcN
open Go.ConcR (KK wgBlock WgAt stA smA rd wr mk Payload DC0 Bk g_of_ofEvents)
theorem Env.wg{K:Loc→Prop}{w w':World}{ty:TypeId}{Wg:Nat}{st sm:Int}(h:Env K w w')(hK:∀ i,K (cellAt Wg i))(hw:WgAt ty Wg w st sm):WgAt ty Wg w' st sm:=by
 obtain⟨c',h1,h2,h3⟩:=h.same Wg _ hw;have:c'=#[.int .u64 st,.int .u32 sm]:=Array.ext_getElem? fun i=>h3 i (hK _)
 rw[this] at h1;exact h1
theorem Env.pay[Payload]{K:Loc→Prop}{w w':World}{C n:Nat}(h:Env K w w')(hp:PayAt C n w):PayAt C n w':=by obtain⟨cs,h1,h2⟩:=hp;obtain⟨c',k1,k2,_⟩:=h.same C _ h1;exact⟨c',k1,k2.trans h2⟩
theorem Env.payCell[Payload]{K:Loc→Prop}{w w':World}{C n i:Nat}(h:Env K w w')(hp:PayAt C n w)(hK:K (cellAt C i)):w'.cell? ⟨C,i,none⟩=w.cell? ⟨C,i,none⟩:=by obtain⟨cs,h1,h2⟩:=hp;obtain⟨c',k1,k2,k3⟩:=h.same C _ h1;simp only[World.cell?,h1,k1,k3 i hK]
theorem Env.of_aside{Wg:Nat}{w w':World}{K:Loc→Prop}(h:Aside Wg w w')(hw:∀ o,w.heap[Wg]? = some o→∃ c e fr,o=.cells c e fr∧∃ c',w'.heap[Wg]? = some (.cells c' e fr)∧c'.size=c.size)(hK:∀ i,¬ K (cellAt Wg i)):Env K w w':=by
 refine⟨by rw[h.size];exact Nat.le_refl _,h.tape,h.os,h.output,fun b o e=>?_⟩;by_cases hb:b=Wg
 ·subst hb;obtain⟨c,ety,fr,rfl,c',h1,h2⟩:=hw o e;exact⟨c',h1,h2,fun i hi=>absurd hi (hK i)⟩
 ·have e':w'.heap[b]? = some o:=(h.block b hb).trans e;cases o<;>first|exact⟨_,e',rfl,fun _ _=>rfl⟩|exact fun _=>e'
theorem zqc(K:Loc→Prop)(w:World)(d:Nat):Env K w (w.at d):=⟨Nat.le_refl _,rfl,rfl,rfl,fun b o e=>by have:=zob.refl K b w o e;cases o<;>exact this⟩
section
variable [Payload]{X:Crew}
structure Own(X:Crew)(T0:Nat)(M S:Nat→Loc→Prop)(j:Nat)(w:World)(t:Trace):Prop where
 sep:Sep X.Sy M S j
 ti:TI X.Sy T0 w.heap.size M S t j
 tsz:T0≤t.size
 bnd:∀ g,g≤j→∀ l,(M g l∨S g l)→∃ b,locBlk l=some b∧b<w.heap.size
 norel:NoRelease (stA X.Wg) t
 wlt:X.Wg<w.heap.size
 pay:PayAt X.C X.nC w
 noC:∀ g,g≤j→∀ l,(M g l∨S g l)→∀ i,l≠cellAt X.C i
 fr:Env (OldL X.w0) X.w0 w
 noO:∀ g,g≤j→∀ l,M g l→¬ OldL X.w0 l
theorem sy_iff{X:Crew}{l:Loc}:X.Sy l→locBlk l=some X.Wg:=fun⟨a,h1,h2⟩=>by subst h1;simp[locBlk,h2]
variable {T0 j k:Nat}{M S:Nat→Loc→Prop}{w w':World}{t:Trace}{fn:FuncId}{pos:String}{es:Array Event}{Mk:Loc→Prop}
abbrev Aloof(X:Crew)(M:Loc→Prop)(k:Nat)(l:Loc):Prop:=¬ M l∧¬ X.Sy l∧∀ i,k=i+1→l≠cellAt X.C i
theorem Own.others(h:Own X T0 M S j w t)(hk:k≤j)(he:Env (Aloof X (M k) k) w w')(hl:WgLive X.ty X.Wg w'){g:Nat}(hg:g≤j)(hne:g≠k):Rely X.L (fun l=>M g l∨S g l) w w':=
 ⟨he.mono fun l hl'=>⟨fun hm=>hl'.elim (fun x=>h.sep.mm k g l hk hg (Ne.symm hne) hm x) (fun x=>h.sep.ms k g l hk hg (Ne.symm hne) hm x),fun hs=>hl'.elim (fun x=>h.sep.my g l hg x hs) (fun x=>h.sep.sy g l hg x hs),fun i _=>h.noC g hg l hl' i⟩,fun _=>hl⟩
theorem Own.rw(h:Own X T0 M S j w t)(hk:k≤j)(he:Env (Aloof X (M k) k) w w')(hl:WgLive X.ty X.Wg w'){i:Nat}(hne:i+1≠k):RW X.ty X.Wg X.C X.nC 0 i w w':=
 ⟨fun b hb=>by omega,fun _=>hl,fun hp=>he.pay hp,he.payCell h.pay ⟨fun hm=>h.noC k hk _ (.inl hm) i rfl,fun⟨a,e,hb⟩=>X.hCW (by cases e;exact hb),fun i' e e'=>hne (by cases e';exact e.symm)⟩⟩
theorem Own.act(h:Own X T0 M S j w t)(hk:k≤j)(he:Env (Aloof X (M k) k) w w')(hM:∀ l,Mk l→M k l∨∃ b,locBlk l=some b∧w.heap.size≤b∧b<w'.heap.size)
  (hok:∀ op∈MemOp.ofEvents k fn pos es,OpOk X.Sy Mk (S k) k op) (hnr:∀ e∈es,e.loc≠.mark (.release (stA X.Wg))):Own X T0 (upd M k Mk) S j w' (t++MemOp.ofEvents k fn pos es):=by
 have hub:∀ g l,g≤j→upd M k Mk g l→M g l∨(g=k∧∃ b,locBlk l=some b∧w.heap.size≤b∧b<w'.heap.size):=by
  intro g l hg hl;by_cases e:g=k
  ·subst e;rw[upd_same] at hl;exact(hM l hl).imp id fun x=>⟨rfl,x⟩
  ·rw[upd_ne M _ e] at hl;exact .inl hl
 have fresh:∀ g l,g≤j→(M g l∨S g l)→¬∃ b,locBlk l=some b∧w.heap.size≤b∧b<w'.heap.size:=by rintro g l hg hl ⟨b,h1,h2,_⟩;obtain⟨b',k1,k2⟩:=h.bnd g hg l hl;rw[h1] at k1;cases k1;omega
 have hbnd:∀ g,g≤j→∀ l,(upd M k Mk g l∨S g l)→∃ b,locBlk l=some b∧b<w'.heap.size:=by
  intro g hg l hl;rcases hl with hl|hl
  ·rcases hub g l hg hl with hl|⟨_,b,h1,_,h3⟩
   ·obtain⟨b,h1,h2⟩:=h.bnd g hg l (.inl hl);exact⟨b,h1,Nat.lt_of_lt_of_le h2 he.size⟩
   ·exact⟨b,h1,h3⟩
  ·obtain⟨b,h1,h2⟩:=h.bnd g hg l (.inr hl);exact⟨b,h1,Nat.lt_of_lt_of_le h2 he.size⟩
 have hCs:X.C<w.heap.size:=by obtain⟨cs,hc,_⟩:=h.pay;exact(Array.getElem?_eq_some_iff.1 hc).1
 have hnoC:∀ g,g≤j→∀ l,(upd M k Mk g l∨S g l)→∀ i,l≠cellAt X.C i:=by
  intro g hg l hl i e;rcases hl with hl|hl
  ·rcases hub g l hg hl with hl|⟨_,b,h1,h2,_⟩
   ·exact h.noC g hg l (.inl hl) i e
   ·subst e;cases h1;exact absurd hCs (Nat.not_lt.2 h2)
  ·exact h.noC g hg l (.inr hl) i e
 have hsep:Sep X.Sy (upd M k Mk) S j:=by
  refine⟨fun g g' l hg hg' hne h1 h2=>?_,fun g g' l hg hg' hne h1 h2=>?_,fun g l hg h1 hs=>?_,h.sep.sy⟩
  ·rcases hub g l hg h1 with m1|⟨e1,f1⟩<;>rcases hub g' l hg' h2 with m2|⟨e2,f2⟩
   ·exact h.sep.mm g g' l hg hg' hne m1 m2
   ·exact fresh g l hg (.inl m1) f2
   ·exact fresh g' l hg' (.inl m2) f1
   ·exact hne (e1.trans e2.symm)
  ·rcases hub g l hg h1 with m1|⟨e1,f1⟩
   ·exact h.sep.ms g g' l hg hg' hne m1 h2
   ·exact fresh g' l hg' (.inr h2) f1
  ·rcases hub g l hg h1 with m1|⟨e1,b,f1,f2,_⟩
   ·exact h.sep.my g l hg m1 hs
   ·rw[sy_iff hs] at f1;cases f1;have:=h.wlt;omega
 have hold:∀ l,OldL X.w0 l→Aloof X (M k) k l:=by
  intro l hl;refine⟨fun hm=>h.noO k hk l hm hl,fun hs=>?_,fun i _ e=>?_⟩
  ·obtain⟨b,h1,h2⟩:=hl;rw[sy_iff hs] at h1;cases h1;exact absurd h2 (Nat.not_lt.2 X.hWN)
  ·obtain⟨b,h1,h2⟩:=hl;subst e;cases h1;exact absurd h2 (Nat.not_lt.2 X.hCN)
 have hnoO:∀ g,g≤j→∀ l,upd M k Mk g l→¬ OldL X.w0 l:=by
  intro g hg l hl ⟨b,h1,h2⟩;rcases hub g l hg hl with hl|⟨_,b',k1,k2,_⟩
  ·exact h.noO g hg l hl ⟨b,h1,h2⟩
  ·rw[h1] at k1;cases k1;have:=h.fr.size;omega
 refine⟨hsep,?_,Nat.le_trans h.tsz (by simp),hbnd,h.norel.app (norel_of hnr),Nat.lt_of_lt_of_le h.wlt he.size,he.pay h.pay,hnoC,h.fr.trans (he.mono hold),hnoO⟩;have hti:TI X.Sy T0 w'.heap.size (upd M k Mk) S t j:=h.ti.grow he.size (fun g hg l hl=>(hub g l hg hl).imp id fun⟨_,b,h1,h2,_⟩=>⟨b,h1,h2⟩) (fun g hg l hl=>.inl hl);refine hti.app hsep h.tsz hk (fun op ho=>by rw[upd_same];exact hok op ho) (fun op ho x b hx hb=>?_);rcases(hok op ho).2 x hx with⟨hs,_⟩|⟨hm,_⟩|⟨hs,_⟩
 ·rw[sy_iff hs] at hb;cases hb;exact Nat.lt_of_lt_of_le h.wlt he.size
 ·obtain⟨b',h1,h2⟩:=hbnd k hk x.loc (.inl (by rw[upd_same];exact hm));rw[hb] at h1;cases h1;exact h2
 ·obtain⟨b',h1,h2⟩:=hbnd k hk x.loc (.inr hs);rw[hb] at h1;cases h1;exact h2
theorem Own.at(h:Own X T0 M S j w t)(d:Nat):Own X T0 M S j (w.at d) t:=⟨h.sep,h.ti,h.tsz,h.bnd,h.norel,h.wlt,h.pay,h.noC,h.fr.trans (zqc _ w d),h.noO⟩
theorem Own.fork(h:Own X T0 M S j w t){x y:MemOp}(hx:x.g=0∧x.act=.go (j+1))(hy:y.g=j+1∧y.act=.start)(h0:Deaf t 0=0){M' S' Mc Sc:Loc→Prop}
  (h1:∀ l,M' l→M 0 l) (h2:∀ l,S' l→S 0 l∨M 0 l) (h3:∀ l,Mc l→M 0 l) (h4:∀ l,Sc l→S 0 l∨M 0 l) (h5:∀ l,M' l→¬ Mc l∧¬ Sc l) (h6:∀ l,Mc l→¬ S' l) :
  Own X T0 (upd (upd M 0 M') (j+1) Mc) (upd (upd S 0 S') (j+1) Sc) (j+1) w (t++#[x,y]):=by
 have eM:∀ g,g≤j→∀ l,upd (upd M 0 M') (j+1) Mc g l→M g l:=by
  intro g hg l hl;rw[upd_ne _ _ (by omega)] at hl;by_cases e:g=0
  ·subst e;rw[upd_same] at hl;exact h1 l hl
  ·rw[upd_ne _ _ e] at hl;exact hl
 have eS:∀ g,g≤j→∀ l,upd (upd S 0 S') (j+1) Sc g l→(g=0∧S' l)∨(g≠0∧S g l):=by
  intro g hg l hl;rw[upd_ne _ _ (by omega)] at hl;by_cases e:g=0
  ·subst e;rw[upd_same] at hl;exact .inl ⟨rfl,hl⟩
  ·rw[upd_ne _ _ e] at hl;exact .inr ⟨e,hl⟩
 have eS':∀ g,g≤j→∀ l,upd (upd S 0 S') (j+1) Sc g l→S g l∨M g l:=fun g hg l hl=>by
  rcases eS g hg l hl with⟨rfl,x⟩|⟨_,x⟩
  ·exact h2 l x
  ·exact .inl x
 have cM:∀ l,upd (upd M 0 M') (j+1) Mc (j+1) l→Mc l:=fun l hl=>by rwa [upd_same] at hl
 have cS:∀ l,upd (upd S 0 S') (j+1) Sc (j+1) l→Sc l:=fun l hl=>by rwa [upd_same] at hl
 have zM:∀ l,upd (upd M 0 M') (j+1) Mc 0 l→M' l:=fun l hl=>by rwa [upd_ne _ _ (by omega),upd_same] at hl
 have no0:∀ g l,g≤j→g≠0→M g l→¬ M 0 l:=fun g l hg hne h1 h2=>h.sep.mm g 0 l hg (Nat.zero_le _) hne h1 h2
 have noS0:∀ g l,g≤j→g≠0→M g l→¬ S 0 l:=fun g l hg hne h1 h2=>h.sep.ms g 0 l hg (Nat.zero_le _) hne h1 h2
 have no0S:∀ g l,g≤j→g≠0→M 0 l→¬ S g l:=fun g l hg hne h1 h2=>h.sep.ms 0 g l (Nat.zero_le _) hg (Ne.symm hne) h1 h2
 have hsep:Sep X.Sy (upd (upd M 0 M') (j+1) Mc) (upd (upd S 0 S') (j+1) Sc) (j+1):=by
  refine⟨fun g g' l hg hg' hne m1 m2=>?_,fun g g' l hg hg' hne m1 m2=>?_,fun g l hg m1 hs=>?_,fun g l hg m1 hs=>?_⟩
  ·rcases Nat.lt_or_ge j g with a|a<;>rcases Nat.lt_or_ge j g' with b|b
   ·omega
   ·obtain rfl:g=j+1:=by omega
    by_cases e:g'=0
    ·subst e;exact(h5 l (zM l m2)).1 (cM l m1)
    ·exact no0 g' l b e (eM g' b l m2) (h3 l (cM l m1))
   ·obtain rfl:g'=j+1:=by omega
    by_cases e:g=0
    ·subst e;exact(h5 l (zM l m1)).1 (cM l m2)
    ·exact no0 g l a e (eM g a l m1) (h3 l (cM l m2))
   ·exact h.sep.mm g g' l a b hne (eM g a l m1) (eM g' b l m2)
  ·rcases Nat.lt_or_ge j g with a|a<;>rcases Nat.lt_or_ge j g' with b|b
   ·omega
   ·obtain rfl:g=j+1:=by omega
    rcases eS g' b l m2 with⟨rfl,x⟩|⟨e,x⟩
    ·exact h6 l (cM l m1) x
    ·exact no0S g' l b e (h3 l (cM l m1)) x
   ·obtain rfl:g'=j+1:=by omega
    by_cases e:g=0
    ·subst e;exact(h5 l (zM l m1)).2 (cS l m2)
    ·rcases h4 l (cS l m2) with x|x
     ·exact noS0 g l a e (eM g a l m1) x
     ·exact no0 g l a e (eM g a l m1) x
   ·rcases eS g' b l m2 with⟨rfl,x⟩|⟨e,x⟩
    ·rcases h2 l x with x|x
     ·exact h.sep.ms g 0 l a b hne (eM g a l m1) x
     ·exact h.sep.mm g 0 l a b hne (eM g a l m1) x
    ·exact h.sep.ms g g' l a b hne (eM g a l m1) x
  ·rcases Nat.lt_or_ge j g with a|a
   ·obtain rfl:g=j+1:=by omega
    exact h.sep.my 0 l (Nat.zero_le _) (h3 l (cM l m1)) hs
   ·exact h.sep.my g l a (eM g a l m1) hs
  ·rcases Nat.lt_or_ge j g with a|a
   ·obtain rfl:g=j+1:=by omega
    rcases h4 l (cS l m1) with x|x
    ·exact h.sep.sy 0 l (Nat.zero_le _) x hs
    ·exact h.sep.my 0 l (Nat.zero_le _) x hs
   ·rcases eS' g a l m1 with x|x
    ·exact h.sep.sy g l a x hs
    ·exact h.sep.my g l a x hs
 refine⟨hsep,h.ti.fork h.tsz hx hy h0 eM eS' (fun l hl=>h3 l (cM l hl)) (fun l hl=>h4 l (cS l hl)),Nat.le_trans h.tsz (by simp),fun g hg l hl=>?_,h.norel.app fun op ho=>?_,h.wlt,h.pay,fun g hg l hl=>?_,h.fr,fun g hg l hl=>?_⟩
 ·rcases Nat.lt_or_ge j g with a|a
  ·obtain rfl:g=j+1:=by omega
   rcases hl with hl|hl
   ·exact h.bnd 0 (Nat.zero_le _) l (.inl (h3 l (cM l hl)))
   ·exact h.bnd 0 (Nat.zero_le _) l ((h4 l (cS l hl)).elim .inr .inl)
  ·rcases hl with hl|hl
   ·exact h.bnd g a l (.inl (eM g a l hl))
   ·exact h.bnd g a l ((eS' g a l hl).elim .inr .inl)
 ·simp only[List.mem_toArray,List.mem_cons,List.not_mem_nil,or_false] at ho;rcases ho with rfl|rfl
  ·rw[hx.2];simp
  ·rw[hy.2];simp
 rotate_left
 ·rcases Nat.lt_or_ge j g with a|a
  ·obtain rfl:g=j+1:=by omega
   exact h.noO 0 (Nat.zero_le _) l (h3 l (cM l hl))
  ·exact h.noO g a l (eM g a l hl)
 ·rcases Nat.lt_or_ge j g with a|a
  ·obtain rfl:g=j+1:=by omega
   rcases hl with hl|hl
   ·exact h.noC 0 (Nat.zero_le _) l (.inl (h3 l (cM l hl)))
   ·exact h.noC 0 (Nat.zero_le _) l ((h4 l (cS l hl)).elim .inr .inl)
  ·rcases hl with hl|hl
   ·exact h.noC g a l (.inl (eM g a l hl))
   ·exact h.noC g a l ((eS' g a l hl).elim .inr .inl)
theorem sy_cell(X:Crew)(i:Nat):X.Sy (cellAt X.Wg i):=⟨_,rfl,rfl⟩
theorem env_aside(h:Aside X.Wg w w'){st sm st' sm':Int}(h1:WgAt X.ty X.Wg w st sm)(h2:WgAt X.ty X.Wg w' st' sm')(M:Loc→Prop)(k:Nat):Env (Aloof X M k) w w':=
 .of_aside h (fun o e=>by unfold WgAt wgBlock at h1 h2;rw[h1] at e;cases e;exact⟨_,_,_,rfl,_,h2,rfl⟩) fun i hi=>hi.2.1 (sy_cell X i)
theorem env_asideCell{i:Nat}(h:AsideCell X.C X.nC i w w')(hp:PayAt X.C X.nC w){K:Loc→Prop}(hM:¬ K (cellAt X.C i)):Env K w w':=by
 refine⟨by rw[h.size];exact Nat.le_refl _,h.tape,h.os,h.output,fun b o e=>?_⟩;by_cases hb:b=X.C
 ·subst hb;obtain⟨cs,h1,h2⟩:=hp;obtain⟨cs',k1,k2⟩:=h.pay ⟨cs,h1,h2⟩;rw[h1] at e;cases e;refine⟨cs',k1,k2.trans h2.symm,fun i' hi'=>?_⟩;have hne:i'≠i:=fun e=>hM (e▸hi')
  have:=h.cells i' hne;simpa[World.cell?,h1,k1] using this
 ·have e':w'.heap[b]? = some o:=(h.block b hb).trans e;cases o<;>first|exact⟨_,e',rfl,fun _ _=>rfl⟩|exact fun _=>e'
omit [Payload] in
theorem opOk_none{Sy M S:Loc→Prop}(h:∀ e∈es,(MemAct.ofEvent e).touch? = none):∀ op∈MemOp.ofEvents k fn pos es,OpOk Sy M S k op:=by intro op hop;rw[ofEvents_eq] at hop;obtain⟨e,he,rfl⟩:=Array.mem_map.1 hop;exact⟨rfl,fun x hx=>by simp only[h e he] at hx;cases hx⟩
theorem opOk_bk{M S:Loc→Prop}(h:∀ e∈es,Bk X.Wg e):∀ op∈MemOp.ofEvents k fn pos es,OpOk X.Sy M S k op:=by
 intro op hop;rw[ofEvents_eq] at hop;obtain⟨e,he,rfl⟩:=Array.mem_map.1 hop;refine⟨rfl,fun x hx=>?_⟩;rcases h e he with h1|h1|⟨a,wr,rfl,ha⟩
 ·obtain⟨l,y,z⟩:=e;simp only at h1;subst h1;simp[MemAct.ofEvent,MemAct.touch?] at hx
 ·obtain⟨l,y,z⟩:=e;simp only at h1;subst h1;simp[MemAct.ofEvent,MemAct.touch?] at hx
 ·simp only[MemAct.ofEvent,MemAct.touch?,Option.some.injEq,if_true] at hx;subst hx;exact .inl ⟨⟨a,rfl,ha⟩,by simp,by simp⟩
theorem opOk_evW{M S:Loc→Prop}(h:∀ e∈es,EvW X.Wg no no k e):∀ op∈MemOp.ofEvents k fn pos es,OpOk X.Sy M S k op:=by
 intro op hop;rw[ofEvents_eq] at hop;obtain⟨e,he,rfl⟩:=Array.mem_map.1 hop;obtain⟨h1,h2⟩:=(h e he).1 fn pos;refine⟨rfl,fun x hx=>?_⟩;rcases h2 x hx with⟨a,b,c⟩|a|⟨a,_⟩
 ·exact .inl ⟨a,b,fun e=>absurd e c⟩
 ·exact a.elim
 ·exact a.elim
omit [Payload] in
theorem zLa{Mi Sh:Loc→Prop}(hl:∀ l,Mi l∨Sh l→∃ b,locBlk l=some b){e:Event}(h:EvIn Mi Sh e):e.loc≠.mark .disable∧e.loc≠.mark .enable∧∀ a,e.loc≠.mark (.release a):=by
 rcases h with rfl|⟨_,h⟩
 ·exact⟨by simp,by simp,by simp⟩
 ·have:∃ b,locBlk e.loc=some b:=hl _ (h.imp id fun x=>x.2);obtain⟨b,hb⟩:=this;refine⟨?_,?_,fun a=>?_⟩<;>(intro e1;rw[e1] at hb;cases hb)
omit [Payload] in
theorem opOk_evIn{Sy M S:Loc→Prop}(hl:∀ l,M l∨S l→∃ b,locBlk l=some b)(h:∀ e∈es,EvIn M S e):∀ op∈MemOp.ofEvents k fn pos es,OpOk Sy M S k op:=by
 intro op hop;rw[ofEvents_eq] at hop;obtain⟨e,he,rfl⟩:=Array.mem_map.1 hop;refine⟨rfl,fun x hx=>?_⟩;have h1:=h e he;rcases h1 with rfl|⟨hs,h1⟩
 ·simp[MemAct.ofEvent,MemAct.touch?] at hx
 ·have hx':x=⟨e.loc,e.write,.plain⟩:=by
   obtain⟨l,wr,sy⟩:=e;simp only at hs;subst hs;obtain⟨b,hb⟩:=hl l (h1.imp id fun x=>x.2);cases l with
   |cell a=>simp[MemAct.ofEvent,MemAct.touch?] at hx;exact hx.symm
   |obj r=>simp[MemAct.ofEvent,MemAct.touch?] at hx;exact hx.symm
   |_=>cases hb
  subst hx';rcases h1 with h1|⟨h1,h2⟩
  ·exact .inr (.inl ⟨h1,rfl⟩)
  ·exact .inr (.inr ⟨h2,h1,rfl⟩)
end
end
section
open Go.Conc Go.ConcN
open Go.ConcR (KK wgBlock WgAt stA smA rd wr mk Payload DC0 Bk g_of_ofEvents again_blocked)
section
variable [Payload]{X:Crew}{Next:(Loc→Prop)→(Loc→Prop)→Goroutine→World→Prop}
omit [Payload] in
theorem rely_at{ty:TypeId}{Wg:Nat}(K:Loc→Prop)(w:World)(d:Nat):Rely (WgLive ty Wg) K w (w.at d):=⟨zqc K w d,id⟩
omit [Payload] in
theorem zD{P:Program}{main:Bool}{L:World→Prop}{K:Loc→Prop}{Stop:Goroutine→World→Prop}{m:Nat}{g:Goroutine}{w w1:World}(h:Goes P main (Rely L K) DC0 Stop m g w)(hr:Rely L K w w1):Goes P main (Rely L K) DC0 Stop m g w1:=
 Goes.rely (fun _ _ _ h1 h2=>h1.trans h2) h hr
theorem WS.rely{k:Nat}{M S:Loc→Prop}{s m d:Nat}{g:Goroutine}{w w1:World}(h:WS X k M S s m d g w)(hr:Rely X.L (fun l=>M l∨S l) w w1)(hrw:RW X.ty X.Wg X.C X.nC 0 (k-1) w w1)(hres:∀ l,X.ResM (k-1) l→M l):WS X k M S s m d g w1:=by
 cases h with
 |x h=>exact .x (h.rely hr)
 |lib h hR=>exact .lib (h.rely hrw) (X.stable _ _ _ (hr.1.mono fun l hl=>.inl (hres l hl)) hR)
theorem WDone.running{k:Nat}{M:Loc→Prop}{g:Goroutine}{w:World}(h:WDone X k M g w):g.status=.running:=let⟨_,_,h⟩:=h;Goes.running (fun _ _ x=>x.1) w (RW.refl w) h
theorem WS.status{k:Nat}{M S:Loc→Prop}{s m d:Nat}{g:Goroutine}{w:World}(h:WS X k M S s m d g w):g.status=.running∨g.status=.finished:=by
 cases h with
 |x h=>exact .inl (h.running fun _ _ _ hq=>hq.running)
 |lib h _=>exact h.status
theorem WS.running_of{k:Nat}{M S:Loc→Prop}{s m d:Nat}{g:Goroutine}{w:World}(h:WS X k M S s m d g w)(hs:s≠1):g.status=.running:=by
 cases h with
 |x h=>exact h.running fun _ _ _ hq=>hq.running
 |lib h _=>exact h.running_of hs
theorem WS.woken{k:Nat}{M S:Loc→Prop}{s m d:Nat}{g:Goroutine}{w:World}(h:WS X k M S s m d g w)(a a':Goroutine)(w':World):Go.Conc.woken X.P a a' w' g=g:=by
 unfold Go.Conc.woken;split
 ·exact again_running _ h.status
 ·rfl
theorem YFin.running{P:Program}{ty:TypeId}{Wg:Nat}{K:Loc→Prop}{J:World→Prop}{N:Goroutine→World→Prop}{g:Goroutine}{w:World}(h:YFin P ty Wg K J N g w):g.status=.running:=
 let⟨A,a,b,m,c⟩:=h;Goes.running (fun _ _ x=>x.1) w (.refl _ _ w) c
theorem XS.rely{M S:Loc→Prop}{tag:XT}{j f d:Nat}{a:Goroutine}{w w1:World}(h:XS X Next M S tag j f d a w)(hr:Rely X.L (fun l=>M l∨S l) w w1):XS X Next M S tag j f d a w1:=by
 cases h with
 |s6 hn h=>exact .s6 hn (h.rely hr)
 |s5 hn h=>exact .s5 hn (zD h hr)
 |s4 hn h=>exact .s4 hn (zD h hr)
 |s3 hn h=>exact .s3 hn (zD h hr)
 |s2 hn h=>exact .s2 hn (zD h hr)
 |s1 hn h=>exact .s1 hn (h.rely hr)
 |fn h=>exact .fn (h.rely hr)
 |kd ha hn h=>exact .kd ha hn (zD h hr)
 |anch ha hn h=>exact .anch ha hn (zD h hr)
 |w1 ha hn h=>exact .w1 ha hn (zD h hr)
 |w2 ha hn h=>exact .w2 ha hn (zD h hr)
 |sw h=>exact .sw (zD h hr)
 |w3 h=>exact .w3 (zD h hr)
 |blk h=>exact .blk fun w2 h2=>h w2 (hr.trans h2)
 |w4 h=>exact .w4 (zD h hr)
 |ke h=>exact .ke (zD h hr)
 |acq h=>exact .acq (zD h hr)
theorem XS.status{M S:Loc→Prop}{tag:XT}{j f d:Nat}{a:Goroutine}{w:World}(h:XS X Next M S tag j f d a w):(a.status=.running∧tag≠.blk)∨(a.status=.blocked∧tag=.blk):=by
 have gr:∀{Stop:Goroutine→World→Prop} {m:Nat} {g:Goroutine} {w:World},(∀ g w,Stop g w→g.status=.running)→GX X.P X.ty X.Wg (fun l=>M l∨S l) Stop m g w→g.status=.running:=fun hs h=>Goes.running hs _ (.refl _ _ _) h
 cases h with
 |s6 hn h=>exact .inl ⟨h.running fun _ _ w ⟨m,h⟩=>Goes.running (fun _ _ x=>x.1) w (.refl _ _ _) h,by simp⟩
 |s5 hn h=>exact .inl ⟨gr (fun _ _ x=>x.1) h,by simp⟩
 |s4 hn h=>exact .inl ⟨gr (fun _ _ x=>x.1) h,by simp⟩
 |s3 hn h=>exact .inl ⟨gr (fun _ _ x=>x.1) h,by simp⟩
 |s2 hn h=>exact .inl ⟨gr (fun _ _ x=>x.1) h,by simp⟩
 |s1 hn h=>exact .inl ⟨h.running fun _ _ _ x=>x.1,by simp⟩
 |fn h=>exact .inl ⟨h.running fun _ _ _ x=>x.running,by simp⟩
 |kd ha hn h=>exact .inl ⟨gr (fun _ _ x=>x.1) h,by simp⟩
 |anch ha hn h=>exact .inl ⟨gr ha h,by simp⟩
 |w1 ha hn h=>exact .inl ⟨gr (fun _ _ x=>x.1) h,by simp⟩
 |w2 ha hn h=>exact .inl ⟨gr (fun _ _ x=>x.1) h,by simp⟩
 |sw h=>exact .inl ⟨gr (fun _ _ x=>x.1) h,by simp⟩
 |w3 h=>exact .inl ⟨gr (fun _ _ x=>x.1) h,by simp⟩
 |blk h=>exact .inr ⟨rfl,rfl⟩
 |w4 h=>exact .inl ⟨gr (fun _ _ x=>x.1) h,by simp⟩
 |ke h=>exact .inl ⟨gr (fun _ _ x=>x.1) h,by simp⟩
 |acq h=>exact .inl ⟨gr (fun _ _ x=>x.1) h,by simp⟩
theorem XS.wokenBy{M S:Loc→Prop}{tag:XT}{j f d:Nat}{a:Goroutine}{w w1:World}(h:XS X Next M S tag j f d a w)(hr:Rely X.L (fun l=>M l∨S l) w w1)(g g':Goroutine) :
  ∃ tag' f',XS X Next M S tag' j f' d (Go.Conc.woken X.P g g' w1 a) w1∧f'≤f+1∧(tag'=tag∨(tag=.blk∧tag'=.w3))∧(mayWake X.P g=true→g'.status=.running→tag'≠.blk):=by
 have h':=h.rely hr;unfold Go.Conc.woken;split
 ·rcases h'.status with⟨hs,hne⟩|⟨_,rfl⟩
  ·exact⟨tag,f,by rw[again_running _ (.inl hs)];exact h',by omega,.inl rfl,fun _ _=>hne⟩
  ·cases h' with
   |blk hb=>have h3:=hb w1 (.refl _ _ w1);exact⟨.w3,0+1,by rw[again_blocked h3.1 h3.2.1];exact .w3 (Goes.stop hb),by omega,.inr ⟨rfl,rfl⟩,fun _ _=>by simp⟩
 ·rename_i hc;exact⟨tag,f,h',by omega,.inl rfl,fun h1 h2=>absurd (by simp[h1,h2]) hc⟩
structure Com(X:Crew)(T0 j:Nat)(gs:Array Goroutine)(w:World)(t:Trace)(D:Nat→WD)(d0:Nat)(M S:Nat→Loc→Prop):Prop where
 size:gs.size=j+1
 wk:∀ i,i<j→∃ g,gs[i+1]? = some g∧WS X (i+1) (M (i+1)) (S (i+1)) (D i).stage (D i).fuel (D i).deaf g w
 own:Own X T0 M S j w t
 deaf0:Deaf t 0=d0
 deafW:∀ i,i<j→Deaf t (i+1)=(D i).deaf
 rel:∀ i,i<j→(D i).stage≤6→∃ r,RelBy (stA X.Wg) t (i+1) r
 resM:∀ i,i<j→∀ l,X.ResM i l→M (i+1) l
def Inv(X:Crew)(Next:(Loc→Prop)→(Loc→Prop)→Goroutine→World→Prop)(T0:Nat)(μ:Nat×Nat)(m:Machine)(t:Trace):Prop:=
 ∃(gs:Array Goroutine) (w:World) (sl:Option (Nat×Nat)) (j:Nat) (D:Nat→WD) (tag:XT) (f0 d0:Nat) (a:Goroutine) (st sm:Int) (M S:Nat→Loc→Prop),
  m=crowd gs w sl∧gs[0]? = some a∧XS X Next (M 0) (S 0) tag j f0 d0 a w∧Com X T0 j gs w t D d0 M S∧WgAt X.ty X.Wg w st sm∧Go.ConcN.Mode j D tag.tag st sm∧μ=(psi X.n (Vc j D) tag+Ssum j D,f0+2*Fsum j D)
theorem psi_mono(n:Nat){v v':Nat}(h:v'≤v)(tag:XT):psi n v' tag≤psi n v tag:=by cases tag<;>simp only[psi]<;>omega
theorem psi_retag(n v:Nat){tag tag':XT}(e:tag'=tag∨(tag=.blk∧tag'=.w3)):psi n v tag'=psi n v tag:=by rcases e with rfl|⟨rfl,rfl⟩<;>rfl
variable {T0 j:Nat}{gs:Array Goroutine}{w w':World}{sl:Option (Nat×Nat)}{D:Nat→WD}{tag:XT}{f0 d0:Nat}{a:Goroutine}{t:Trace}{M S:Nat→Loc→Prop}{es:Array Event}
theorem Com.at(h:Com X T0 j gs w t D d0 M S)(d:Nat):Com X T0 j gs (w.at d) t D d0 M S:=
 ⟨h.size,fun i hi=>let⟨g,hg,hs⟩:=h.wk i hi;⟨g,hg,hs.rely (rely_at _ w d) (RW.at w d) (h.resM i hi)⟩,h.own.at d,h.deaf0,h.deafW,h.rel,h.resM⟩
theorem workerStep(ha:gs[0]? = some a)(hxs:XS X Next (M 0) (S 0) tag j f0 d0 a w)(hcom:Com X T0 j gs w t D d0 M S)
  {i:Nat} (hi:i<j) {g g':Goroutine} {s' m' dd':Nat} {st' sm':Int} {Mk:Loc→Prop} (hg:gs[i+1]? = some g) (hgo:stepG X.P false g w=.go g' w' es)
  (he:Env (Aloof X (M (i+1)) (i+1)) w w') (hwg:WgAt X.ty X.Wg w' st' sm') (hM:∀ l,Mk l↔M (i+1) l∨∃ b,locBlk l=some b∧w.heap.size≤b∧b<w'.heap.size)
  (hs':WS X (i+1) Mk (S (i+1)) s' m' dd' g' w')
  (hok:∀ op∈MemOp.ofEvents (i+1) g.frame.fn g.frame.place es,OpOk X.Sy Mk (S (i+1)) (i+1) op) (hnr:∀ e∈es,e.loc≠.mark (.release (stA X.Wg)))
  (hdeaf:deafBehind (D i).deaf es=dd') (hrel:s'≤6→∃ r,RelBy (stA X.Wg) (t++MemOp.ofEvents (i+1) g.frame.fn g.frame.place es) (i+1) r)
  (hmode:∀ tag',(tag'=tag∨(tag=.blk∧tag'=.w3))→(mayWake X.P g=true→g'.status=.running→tag'≠.blk)→Go.ConcN.Mode j (upd D i ⟨s',m',dd'⟩) tag'.tag st' sm')
  (hlt:(s'<(D i).stage∧cnt ⟨s',m',dd'⟩≤cnt (D i))∨(s'=(D i).stage∧m'<(D i).fuel)) :
  ∃ m₁ ops μ',runT X.P (crowd gs w sl) (i+1)=(.next m₁,ops)∧Lt2 μ' (psi X.n (Vc j D) tag+Ssum j D,f0+2*Fsum j D)∧Inv X Next T0 μ' m₁ (t++ops):=by
 have hlive:WgLive X.ty X.Wg w':=⟨_,_,hwg⟩;have hrel0:∀ g,g≤j→g≠i+1→Rely X.L (fun l=>M g l∨S g l) w w':=fun g hg hne=>hcom.own.others (k:=i+1) (by omega) he hlive hg hne
 obtain⟨tag',f',hxs',hf',htag,hwk⟩:=hxs.wokenBy (hrel0 0 (by omega) (by omega)) g g';have hrun:=runT_crowd_go (P:=X.P) (sl:=sl) (i:=i+1) hg (by simpa using hgo);have e1:=sumTo_upd D (⟨s',m',dd'⟩:WD) cnt hi;have e2:=sumTo_upd D (⟨s',m',dd'⟩:WD) WD.stage hi;have e3:=sumTo_upd D (⟨s',m',dd'⟩:WD) WD.fuel hi;have hown:=hcom.own.act (k:=i+1) (fn:=g.frame.fn) (pos:=g.frame.place) (by omega) he (fun l hl=>(hM l).1 hl) hok hnr;have hcom':Com X T0 j ((gs.map (Go.Conc.woken X.P g g' w')).setIfInBounds (i+1) g') w' (t++MemOp.ofEvents (i+1) g.frame.fn g.frame.place es) (upd D i ⟨s',m',dd'⟩) d0 (upd M (i+1) Mk) S:=by
  refine⟨by simp[hcom.size],fun i' hi'=>?_,hown,by rw[Deaf_other t (by omega) _ g_of_ofEvents,hcom.deaf0],fun i' hi'=>?_,fun i' hi' hst=>?_,fun i' hi' l hl=>?_⟩
  ·by_cases e:i'=i
   ·subst e;exact⟨g',get_map_set_same _ _ _ (by rw[hcom.size];omega),by rw[upd_same,upd_same];exact hs'⟩
   ·obtain⟨x,hx,hsx⟩:=hcom.wk i' hi';refine⟨x,by rw[get_map_set _ _ _ _ (by omega),hx,Option.map_some,hsx.woken],?_⟩;rw[upd_ne D _ e,upd_ne M _ (by omega)];exact hsx.rely (hrel0 (i'+1) (by omega) (by omega)) (by simpa using hcom.own.rw (k:=i+1) (by omega) he hlive (i:=i') (by omega)) (hcom.resM i' hi')
  ·by_cases e:i'=i
   ·subst e;rw[Deaf_own,hcom.deafW i' hi',upd_same];exact hdeaf
   ·rw[Deaf_other t (by omega) _ g_of_ofEvents,hcom.deafW i' hi',upd_ne D _ e]
  ·by_cases e:i'=i
   ·subst e;rw[upd_same] at hst;exact hrel hst
   ·rw[upd_ne D _ e] at hst;obtain⟨r,hr⟩:=hcom.rel i' hi' hst;exact⟨r,hr.appOther g_of_ofEvents (by omega)⟩
  ·by_cases e:i'=i
   ·subst e;rw[upd_same];exact(hM _).2 (.inl (hcom.resM i' hi' l hl))
   ·rw[upd_ne M _ (by omega)];exact hcom.resM i' hi' l hl
 refine⟨_,_,(psi X.n (Vc j (upd D i ⟨s',m',dd'⟩)) tag'+Ssum j (upd D i ⟨s',m',dd'⟩),f'+2*Fsum j (upd D i ⟨s',m',dd'⟩)),hrun,?_,
  _,w',sl,j,upd D i ⟨s',m',dd'⟩,tag',f',d0,Go.Conc.woken X.P g g' w' a,st',sm',upd M (i+1) Mk,S,rfl,by rw[get_map_set _ _ _ _ (by omega),ha];rfl,by rw[upd_ne M _ (by omega)];exact hxs',hcom',hwg,hmode tag' htag hwk,rfl⟩
 rw[psi_retag _ _ htag];simp only[Vc,Ssum,Fsum] at *;rcases hlt with⟨h1,h2⟩|⟨h1,h2⟩
 ·refine Prod.Lex.left _ _ ?_;have:=psi_mono X.n (v':=sumTo j fun a=>cnt (upd D i ⟨s',m',dd'⟩ a)) (v:=sumTo j fun a=>cnt (D a)) (by omega) tag;omega
 ·have ec:cnt (⟨s',m',dd'⟩:WD)=cnt (D i):=by simp only[cnt,h1]
  have ev:(sumTo j fun a=>cnt (upd D i ⟨s',m',dd'⟩ a))=sumTo j fun a=>cnt (D a):=by omega
  have es':(sumTo j fun a=>(upd D i ⟨s',m',dd'⟩ a).stage)=sumTo j fun a=>(D a).stage:=by omega
  rw[ev,es'];refine Prod.Lex.right _ ?_;omega
theorem callerStep(ha:gs[0]? = some a)(hcom:Com X T0 j gs w t D d0 M S){a':Goroutine}{tag':XT}{f':Nat}{st' sm':Int}{Mk:Loc→Prop}(hgo:stepG X.P true a w=.go a' w' es)
  (he:Env (Aloof X (M 0) 0) w w') (hwg:WgAt X.ty X.Wg w' st' sm') (hM:∀ l,Mk l↔M 0 l∨∃ b,locBlk l=some b∧w.heap.size≤b∧b<w'.heap.size)
  (hok:∀ op∈MemOp.ofEvents 0 a.frame.fn a.frame.place es,OpOk X.Sy Mk (S 0) 0 op) (hnr:∀ e∈es,e.loc≠.mark (.release (stA X.Wg)))
  (hxs':XS X Next Mk (S 0) tag' j f' (deafBehind d0 es) a' w') (hmode:Go.ConcN.Mode j D tag'.tag st' sm')
  (hlt:psi X.n (Vc j D) tag'<psi X.n (Vc j D) tag∨(psi X.n (Vc j D) tag'=psi X.n (Vc j D) tag∧f'<f0)) :
  ∃ m₁ ops μ',runT X.P (crowd gs w sl) 0=(.next m₁,ops)∧Lt2 μ' (psi X.n (Vc j D) tag+Ssum j D,f0+2*Fsum j D)∧Inv X Next T0 μ' m₁ (t++ops):=by
 have hlive:WgLive X.ty X.Wg w':=⟨_,_,hwg⟩;have hrun:=runT_crowd_go (P:=X.P) (sl:=sl) (i:=0) ha (by simpa using hgo);have hown:=hcom.own.act (k:=0) (fn:=a.frame.fn) (pos:=a.frame.place) (Nat.zero_le _) he (fun l hl=>(hM l).1 hl) hok hnr;have hcom':Com X T0 j ((gs.map (Go.Conc.woken X.P a a' w')).setIfInBounds 0 a') w' (t++MemOp.ofEvents 0 a.frame.fn a.frame.place es) D (deafBehind d0 es) (upd M 0 Mk) S:=by
  refine⟨by simp[hcom.size],fun i hi=>?_,hown,by rw[Deaf_own,hcom.deaf0],fun i hi=>by rw[Deaf_other t (by omega) _ g_of_ofEvents,hcom.deafW i hi],fun i hi hst=>?_,fun i hi=>by rw[upd_ne M _ (by omega)];exact hcom.resM i hi⟩
  ·obtain⟨x,hx,hsx⟩:=hcom.wk i hi;refine⟨x,by rw[get_map_set _ _ _ _ (by omega),hx,Option.map_some,hsx.woken],?_⟩;rw[upd_ne M _ (by omega)];exact hsx.rely (hcom.own.others (k:=0) (Nat.zero_le _) he hlive (by omega) (by omega)) (by simpa using hcom.own.rw (k:=0) (Nat.zero_le _) he hlive (i:=i) (by omega)) (hcom.resM i hi)
  ·obtain⟨r,hr⟩:=hcom.rel i hi hst;exact⟨r,hr.appOther g_of_ofEvents (by omega)⟩
 refine⟨_,_,(psi X.n (Vc j D) tag'+Ssum j D,f'+2*Fsum j D),hrun,?_,
  _,w',sl,j,D,tag',f',deafBehind d0 es,a',st',sm',upd M 0 Mk,S,rfl,get_map_set_same _ _ _ (by rw[hcom.size];omega),by rw[upd_same];exact hxs',hcom',hwg,hmode,rfl⟩
 rcases hlt with h|⟨h1,h2⟩
 ·exact Prod.Lex.left _ _ (by omega)
 ·rw[h1];exact Prod.Lex.right _ (by omega)
end
end
section
open Go.Conc Go.ConcN
open Go.ConcR (KK wgBlock WgAt stA smA rd wr mk Payload DC0 Bk g_of_ofEvents bk_of_mute ofEvent_loc_mark)
section
variable [Payload]{X:Crew}{Next:(Loc→Prop)→(Loc→Prop)→Goroutine→World→Prop}
  {T0 j:Nat} {gs:Array Goroutine} {w w':World} {sl:Option (Nat×Nat)} {D:Nat→WD} {tag:XT} {f0 d0:Nat} {a:Goroutine} {t:Trace} {M S:Nat→Loc→Prop} {st sm:Int}
abbrev zBa(X:Crew)(Next:(Loc→Prop)→(Loc→Prop)→Goroutine→World→Prop)(T0:Nat)(gs:Array Goroutine)(w:World)(sl:Option (Nat×Nat))(j:Nat)(D:Nat→WD)(tag:XT)(f0:Nat)(t:Trace)(i:Nat):Prop:=
 ∃ m₁ ops μ',runT X.P (crowd gs w sl) i=(.next m₁,ops)∧Lt2 μ' (psi X.n (Vc j D) tag+Ssum j D,f0+2*Fsum j D)∧Inv X Next T0 μ' m₁ (t++ops)
theorem XS.started{M S:Loc→Prop}(h:XS X Next M S tag j f0 d0 a w):j+pend tag.tag≤X.n:=by cases h<;>simp only[XT.tag,pend]<;>(try simp)<;>omega
theorem mode5{tg:CTag}{i:Nat}(hm:Go.ConcN.Mode j D tg st sm)(hi:i<j)(h5:(D i).stage=5) :
  (isOpen tg∧OpenSt j D∧(∀ vs,tg=.w2 vs→Vc j D≤vs∧1≤vs)∧st=((Vc j D+pend tg:Nat):Int)*KK∧sm=0)∨(isW3 tg∧OpenSt j D∧1≤Vc j D∧st=((Vc j D:Nat):Int)*KK+1∧sm=0):=by
 cases hm with
 |opn h1 h2 h3=>exact .inl ⟨h1,h2,h3,rfl,rfl⟩
 |reg h1 h2 h3=>exact .inr ⟨h1,h2,h3,rfl,rfl⟩
 |last L _ h2 h3 h4=>
  by_cases e:i=L
  ·subst e;omega
  ·have:=h4 i hi e;omega
 |sema h2=>have:=h2 i hi;omega
 |fin _ h2=>have:=h2 i hi;omega
theorem stepLib(ha:gs[0]? = some a)(hxs:XS X Next (M 0) (S 0) tag j f0 d0 a w)(hcom:Com X T0 j gs w t D d0 M S)(hwg:WgAt X.ty X.Wg w st sm)(hmode:Go.ConcN.Mode j D tag.tag st sm)
  {i:Nat} (hi:i<j) {g:Goroutine} (hg:gs[i+1]? = some g) (hrun:g.status=.running) {s m dd:Nat} {v0:Value}
  (hst:(D i).stage=s) (hfu:m≤(D i).fuel) (hde:(D i).deaf=dd) (hs:WSit X.P X.ty X.Wg X.C X.nC no no 0 (i+1) v0 s m dd g w) (hR:X.Res i w):zBa X Next T0 gs w sl j D tag f0 t (i+1):=by
 have hb:=hxs.started;have hn:=X.hn;have hVj:=Vc_le j D;have hdk:Deaf t (i+1)=dd:=by rw[hcom.deafW i hi,hde]
 have same:∀{w2:World},w2.heap.size=w.heap.size→∀ l,M (i+1) l↔M (i+1) l∨∃ b,locBlk l=some b∧w.heap.size≤b∧b<w2.heap.size:=fun e l=>⟨.inl,fun h=>h.elim id fun⟨b,_,h1,h2⟩=>by omega⟩
 have resM:∀ l,X.ResM i l→M (i+1) l:=hcom.resM i hi;have nosy:∀ l,X.ResM i l→¬ X.Sy l:=fun l hl=>hcom.own.sep.my (i+1) l (by omega) (resM l hl)
 have resA:∀{w':World} {st' sm':Int},Aside X.Wg w w'→WgAt X.ty X.Wg w' st' sm'→X.Res (i+1-1) w':=fun hAs hwg'=>X.stable _ _ _ ((env_aside hAs hwg hwg' (fun _=>False) 0).mono fun l hl=>⟨id,nosy l hl,fun _ e=>by omega⟩) hR
 have bookG:∀{g':Goroutine} {w':World} {es:Array Event} {s' m' dd':Nat} {st' sm':Int},stepG X.P false g w=.go g' w' es→Aside X.Wg w w'→WgAt X.ty X.Wg w' st' sm'→(∀ e∈es,Bk X.Wg e) →
   (∀ jx e,es[jx]? = some e→(MemAct.ofEvent e).touch? = none∨0<deafBehind dd (es.extract 0 jx))→WSit X.P X.ty X.Wg X.C X.nC no no 0 (i+1) v0 s' m' dd' g' w'→deafBehind dd es=dd'→s≤6 →
   (∀ tag',(tag'=tag∨(tag=.blk∧tag'=.w3))→(mayWake X.P g=true→g'.status=.running→tag'≠.blk)→Go.ConcN.Mode j (upd D i ⟨s',m',dd'⟩) tag'.tag st' sm')→((s'<s∧cnt ⟨s',m',dd'⟩≤cnt (D i))∨(s'=s∧m'<m)) →
   zBa X Next T0 gs w sl j D tag f0 t (i+1):=by
  intro g' w' es s' m' dd' st' sm' hgo hAs hwg' hbk hd hs' hdd h6 hmode' hlt;have henv:=env_aside hAs hwg hwg' (M (i+1)) (i+1);exact workerStep ha hxs hcom hi hg hgo henv hwg' (same hAs.size) (.lib hs' (resA hAs hwg')) (opOk_bk hbk) (norel_of_Bk hbk) (by rw[hde];exact hdd)
   (fun _=>let⟨r,hr⟩:=hcom.rel i hi (by omega);⟨r,hr.book hdk _ _ hbk hd⟩) hmode' (by rw[hst];exact hlt.imp id fun⟨a,b⟩=>⟨a,by omega⟩)
 have book:∀{g':Goroutine} {w':World} {es:Array Event} {s' m' dd':Nat} {st' sm':Int},stepG X.P false g w=.go g' w' es→Aside X.Wg w w'→WgAt X.ty X.Wg w' st' sm'→(∀ e∈es,Bk X.Wg e) →
   (∀ jx e,es[jx]? = some e→(MemAct.ofEvent e).touch? = none∨0<deafBehind dd (es.extract 0 jx))→WSit X.P X.ty X.Wg X.C X.nC no no 0 (i+1) v0 s' m' dd' g' w'→deafBehind dd es=dd'→s≤6 →
   Go.ConcN.Mode j (upd D i ⟨s',m',dd'⟩) tag.tag st' sm'→((s'<s∧cnt ⟨s',m',dd'⟩≤cnt (D i))∨(s'=s∧m'<m)) →
   zBa X Next T0 gs w sl j D tag f0 t (i+1):=
  fun hgo hAs hwg' hbk hd hs' hdd h6 hmode' hlt=>bookG hgo hAs hwg' hbk hd hs' hdd h6 (fun tag' ht _=>hmode'.retag (by rcases ht with rfl|⟨rfl,rfl⟩;exact .inl rfl;exact .inr ⟨rfl,rfl⟩)) hlt
 have idle:∀{g':Goroutine} {m':Nat},stepG X.P false g w=.go g' w #[]→WSit X.P X.ty X.Wg X.C X.nC no no 0 (i+1) v0 s m' dd g' w→m'<m→s≤6 →
   zBa X Next T0 gs w sl j D tag f0 t (i+1):=by
  intro g' m' hgo hs' hm h6;exact book hgo (.refl X.Wg w) hwg (by simp) (by simp) hs' rfl h6 (by have:=hmode.same (i:=i) m' dd;rwa [hst] at this) (.inr ⟨rfl,hm⟩)
 have retag:∀{tag':XT} {D':Nat→WD} {st' sm':Int},(tag'=tag∨(tag=.blk∧tag'=.w3))→Go.ConcN.Mode j D' tag.tag st' sm'→Go.ConcN.Mode j D' tag'.tag st' sm':=by intro tag' D' st' sm' ht hm;exact hm.retag (by rcases ht with rfl|⟨rfl,rfl⟩;exact .inl rfl;exact .inr ⟨rfl,rfl⟩)
 cases hs with
 |r0 h=>
  rcases Goes.cases h with hstop|⟨m',rfl,hstep⟩
  ·obtain⟨_,hhas,g',hgo,m₂,hk⟩:=hstop w (RW.refl w);refine workerStep ha hxs hcom hi hg hgo (.refl _ w) hwg (same rfl) (.lib (v:=v0) (.k1 hk) hR) (opOk_none (by intro e he;simp at he;subst he;rfl)) (by intro e he;simp at he;subst he;simp[mk]) (by rw[hde];rfl)
    (fun _=>⟨t.size,RelBy.new hdk _ _⟩) (fun _ ht _=>retag ht (hmode.counted hi (by omega) (.inl rfl) _ _)) (.inl ⟨by omega,by simp[cnt,hst]⟩)
  ·obtain⟨g',w',es,hgo,⟨hac,hev⟩,hg'⟩:=hstep w (RW.refl w);simp only[Nat.add_sub_cancel] at hac;have henv:Env (Aloof X (M (i+1)) (i+1)) w w':=env_asideCell hac hcom.own.pay fun h=>h.2.2 i rfl rfl
   have hwg':WgAt X.ty X.Wg w' st sm:=(hac.block X.Wg (Ne.symm X.hCW)).trans hwg;have hR':X.Res (i+1-1) w':=X.stable _ _ _ (env_asideCell hac hcom.own.pay (X.resC i)) hR;exact workerStep ha hxs hcom hi hg hgo henv hwg' (same hac.size) (.lib (.r0 hg') hR') (opOk_evW hev) (fun e he=>(hev e he).2.2.2)
    (by rw[hde];exact deafBehind_idle (fun e he=>⟨(hev e he).2.1,(hev e he).2.2.1⟩) 0) (fun h=>by omega)
    (fun _ ht _=>retag ht (by have:=hmode.same (i:=i) m' 0;rwa [hst] at this)) (.inr ⟨hst.symm,by omega⟩)
 |k1 h=>
  rcases Goes.cases h with hstop|⟨m',rfl,hstep⟩
  ·obtain⟨_,g',hgo,m₂,hk⟩:=hstop w (RW.refl w);exact book hgo (.refl X.Wg w) hwg (by intro e he;simp at he;subst he;exact .inl rfl) (by intro jx e he;exact .inl (by have:=Array.mem_of_getElem? he;simp at this;subst this;rfl)) (.d1 hk) rfl (by omega)
    (hmode.counted hi (by omega) (.inr rfl) _ _) (.inl ⟨by omega,by simp[cnt,hst]⟩)
  ·obtain⟨g',w',es,hgo,⟨rfl,rfl⟩,hg'⟩:=hstep w (RW.refl w);exact idle hgo (.k1 hg') (by omega) (by omega)
 |d1 h=>
  rcases Goes.cases h with hstop|⟨m',rfl,hstep⟩
  ·obtain⟨_,hall⟩:=hstop w (RW.refl w);have hc1:cnt (D i)=1:=by simp[cnt,hst]
   have hV1:1≤Vc j D:=by have:=le_sumTo (f:=fun x=>cnt (D x)) hi;simp only[Vc];omega
   have bk2:∀ e∈#[rd (stA X.Wg),wr (stA X.Wg)],Bk X.Wg e:=by intro e he;simp at he;rcases he with rfl|rfl<;>exact bk_cell _ _ rfl
   have df2:∀ jx e,(#[rd (stA X.Wg),wr (stA X.Wg)]:Array Event)[jx]? = some e→(MemAct.ofEvent e).touch? = none∨0<deafBehind 1 ((#[rd (stA X.Wg),wr (stA X.Wg)]:Array Event).extract 0 jx):=by
    intro jx e he
    match jx,he with
    |0,_=>exact .inr (by simp[deafBehind])
    |1,_=>exact .inr (by simp[deafBehind,rd])
    |jx+2,he=>simp at he
   have hq0:∀ q,cnt (⟨1,q,1⟩:WD)=0:=fun _=>rfl
   have opq:∀ q,OpenSt j D→OpenSt j (upd D i ⟨1,q,1⟩):=fun q h a ha=>by
    by_cases e:a=i
    ·subst e;rw[upd_same];simp
    ·rw[upd_ne D _ e];exact h a ha
   rcases mode5 hmode hi hst with⟨h1,h2,h3,rfl,rfl⟩|⟨h1,h2,h3,rfl,rfl⟩
   ·obtain⟨v,hv⟩:∃ v,Vc j D+pend tag.tag=v+1:=⟨Vc j D+pend tag.tag-1,by omega⟩;rw[hv] at hwg;have hw1:WgAt X.ty X.Wg w (((v:Nat)+1)*KK+((0:Nat):Int)) 0:=by simpa using hwg
    obtain⟨g',hgo,_,hq⟩:=hall v 0 (by omega) (by omega) hw1;obtain⟨q,hq⟩:=hq (by omega);have hv':Vc j (upd D i ⟨1,q,1⟩)+pend tag.tag=v:=by have:=Vc_upd D (⟨1,q,1⟩:WD) hi;have:=hq0 q;omega
    refine book hgo (aside_setCell w (stA X.Wg) _) (hwg.setSt _) bk2 df2 (.quit hq) rfl (by omega) ?_ (.inl ⟨by omega,by simp[cnt]⟩);have e:((v:Nat):Int)*KK+((0:Nat):Int)=((Vc j (upd D i ⟨1,q,1⟩)+pend tag.tag:Nat):Int)*KK:=by rw[hv'];simp
    rw[e];exact .opn h1 (opq q h2) (fun vs ev=>by have:=h3 vs ev;omega)
   ·obtain⟨v,hv⟩:∃ v,Vc j D=v+1:=⟨Vc j D-1,by omega⟩;rw[hv] at hwg;have hw1:WgAt X.ty X.Wg w (((v:Nat)+1)*KK+((1:Nat):Int)) 0:=by simpa using hwg
    obtain⟨g',hgo,hl,hq⟩:=hall v 1 (by omega) (by omega) hw1;by_cases hv0:v=0
    ·subst hv0;obtain⟨m₂,hk⟩:=hl ⟨rfl,rfl⟩;refine book hgo (aside_setCell w (stA X.Wg) _) (hwg.setSt _) bk2 df2 (.d2 hk) rfl (by omega) ?_ (.inl ⟨by omega,by simp[cnt]⟩);have hoth:∀ a,a<j→a≠i→(D a).stage=1:=fun a ha e=>by have c0:=others_uncounted hi hv hc1 a ha e;have:=h2 a ha;simp only[cnt] at c0;split at c0<;>omega
     have:=Go.ConcN.Mode.last (j:=j) (D:=upd D i ⟨4,m₂,1⟩) (tag:=tag.tag) i h1 hi (by rw[upd_same];simp) (fun a ha e=>by rw[upd_ne D _ e];exact hoth a ha e);rw[upd_same] at this;simpa using this
    ·obtain⟨q,hq⟩:=hq (by omega);have hv':Vc j (upd D i ⟨1,q,1⟩)=v:=by have:=Vc_upd D (⟨1,q,1⟩:WD) hi;have:=hq0 q;omega
     refine book hgo (aside_setCell w (stA X.Wg) _) (hwg.setSt _) bk2 df2 (.quit hq) rfl (by omega) ?_ (.inl ⟨by omega,by simp[cnt]⟩);have e:((v:Nat):Int)*KK+((1:Nat):Int)=((Vc j (upd D i ⟨1,q,1⟩):Nat):Int)*KK+1:=by rw[hv'];simp
     rw[e];exact .reg h1 (opq q h2) (by omega)
  ·obtain⟨g',w',es,hgo,⟨rfl,rfl⟩,hg'⟩:=hstep w (RW.refl w);exact idle hgo (.d1 hg') (by omega) (by omega)
 |d2 h=>
  rcases Goes.cases h with hstop|⟨m',rfl,hstep⟩
  ·obtain⟨_,hx⟩:=hstop w (RW.refl w);obtain⟨hW3,hoth,rfl,rfl⟩:=hmode.isLast hi (by omega);simp only[hst] at hwg;obtain⟨g',hgo,m₂,hk⟩:=hx (by simpa using hwg);refine book hgo (.refl X.Wg w) hwg (by intro e he;simp at he;subst he;exact bk_cell _ _ rfl) (by intro jx e he;match jx,he with|0,_=>exact .inr (by simp[deafBehind])|jx+1,he=>simp at he) (.d3 hk) rfl (by omega) ?_ (.inl ⟨by omega,by simp[cnt]⟩);have:=Go.ConcN.Mode.last (j:=j) (D:=upd D i ⟨3,m₂,1⟩) (tag:=tag.tag) i hW3 hi (by rw[upd_same];simp) (fun a ha e=>by rw[upd_ne D _ e];exact hoth a ha e);rw[upd_same] at this;simpa using this
  ·obtain⟨g',w',es,hgo,⟨rfl,rfl⟩,hg'⟩:=hstep w (RW.refl w);exact idle hgo (.d2 hg') (by omega) (by omega)
 |d3 h=>
  rcases Goes.cases h with hstop|⟨m',rfl,hstep⟩
  ·obtain⟨_,hx⟩:=hstop w (RW.refl w);obtain⟨hW3,hoth,rfl,rfl⟩:=hmode.isLast hi (by omega);simp only[hst] at hwg;obtain⟨g',hgo,m₂,hk⟩:=hx (by simpa using hwg);refine book hgo (aside_setCell w (stA X.Wg) _) (hwg.setSt 0) (by intro e he;simp at he;subst he;exact bk_cell _ _ rfl) (by intro jx e he;match jx,he with|0,_=>exact .inr (by simp[deafBehind])|jx+1,he=>simp at he) (.d4 hk) rfl (by omega) ?_ (.inl ⟨by omega,by simp[cnt]⟩);have:=Go.ConcN.Mode.last (j:=j) (D:=upd D i ⟨2,m₂,1⟩) (tag:=tag.tag) i hW3 hi (by rw[upd_same];simp) (fun a ha e=>by rw[upd_ne D _ e];exact hoth a ha e);rw[upd_same] at this;simpa using this
  ·obtain⟨g',w',es,hgo,⟨rfl,rfl⟩,hg'⟩:=hstep w (RW.refl w);exact idle hgo (.d3 hg') (by omega) (by omega)
 |d4 h=>
  rcases Goes.cases h with hstop|⟨m',rfl,hstep⟩
  ·obtain⟨_,hmw,hx⟩:=hstop w (RW.refl w);obtain⟨hW3,hoth,rfl,rfl⟩:=hmode.isLast hi (by omega);simp only[hst] at hwg;obtain⟨g',hgo,q,hq⟩:=hx (by simpa using hwg);have hrun':g'.status=.running:=by
    cases q with
    |zero=>exact absurd hq.2 (by decide)
    |succ q=>exact hq.elim (fun x=>absurd x.2 (by decide)) (fun x=>x.1)
   refine bookG hgo (aside_setCell w (smA X.Wg) _) (hwg.setSm 1) (es:=semEvents (smA X.Wg)) ?_ ?_ (.quit hq) (by simp[deafBehind,semEvents]) (by omega) ?_ (.inl ⟨by omega,by simp[cnt]⟩)
   ·intro e he;simp[semEvents] at he;rcases he with rfl|rfl|rfl|rfl
    ·exact .inl rfl
    ·exact bk_cell _ _ rfl
    ·exact bk_cell _ _ rfl
    ·exact .inr (.inl rfl)
   ·intro jx e he
    match jx,he with
    |0,he=>simp[semEvents] at he;subst he;exact .inl rfl
    |1,_=>exact .inr (by simp[deafBehind,semEvents])
    |2,_=>exact .inr (by simp[deafBehind,semEvents])
    |3,he=>simp[semEvents] at he;subst he;exact .inl rfl
    |jx+4,he=>simp[semEvents] at he
   ·intro tag' ht hw;have hnb:=hw hmw hrun';have e3:tag'.tag=.w3:=by
     rcases ht with rfl|⟨_,rfl⟩
     ·cases tag'<;>first|rfl|exact hW3.elim|exact absurd rfl hnb
     ·rfl
    rw[e3];simp only[if_true];exact .sema fun a ha=>by
     by_cases e:a=i
     ·subst e;rw[upd_same]
     ·rw[upd_ne D _ e];exact hoth a ha e
  ·obtain⟨g',w',es,hgo,⟨rfl,rfl⟩,hg'⟩:=hstep w (RW.refl w);exact idle hgo (.d4 hg') (by omega) (by omega)
 |quit h=>
  cases m with
  |zero=>rw[h.1] at hrun;cases hrun
  |succ q=>
   rcases h with⟨hf,_⟩|⟨_,g',es,hmute,hstep,hq⟩
   ·rw[hf] at hrun;cases hrun
   ·have hbk:∀ e∈es,Bk X.Wg e:=fun e he=>bk_of_mute (hmute e he)
    have hno:∀ jx e,es[jx]? = some e→(MemAct.ofEvent e).touch? = none∨0<deafBehind dd (es.extract 0 jx):=fun jx e he=>.inl (by
     rcases bk_of_mute (Wg:=X.Wg) (hmute e (Array.mem_of_getElem? he)) with h1|h1|⟨a,wr,rfl,_⟩
     ·rw[ofEvent_loc_mark h1];rfl
     ·rw[ofEvent_loc_mark h1];rfl
     ·have:=hmute _ (Array.mem_of_getElem? he);simp[Event.mute] at this)
    exact book (hstep w) (.refl X.Wg w) hwg hbk hno (.quit hq) rfl (by omega) (by have:=hmode.same (i:=i) q (deafBehind dd es);rwa [hst] at this) (.inr ⟨rfl,by omega⟩)
theorem stepWorker(ha:gs[0]? = some a)(hxs:XS X Next (M 0) (S 0) tag j f0 d0 a w)(hcom:Com X T0 j gs w t D d0 M S)(hwg:WgAt X.ty X.Wg w st sm)(hmode:Go.ConcN.Mode j D tag.tag st sm)
  {i:Nat} (hi:i<j) {g:Goroutine} (hg:gs[i+1]? = some g) (hrun:g.status=.running):zBa X Next T0 gs w sl j D tag f0 t (i+1):=by
 obtain⟨g₁,hg₁,hs⟩:=hcom.wk i hi;obtain rfl:g=g₁:=by rw[hg] at hg₁;exact Option.some.inj hg₁
 generalize hst:(D i).stage=s at hs;generalize hfu:(D i).fuel=m at hs;generalize hde:(D i).deaf=dd at hs;cases hs with
 |lib hs hR=>exact stepLib ha hxs hcom hwg hmode hi hg hrun hst (by omega) hde hs hR
 |x h=>
  rename_i m;rcases h.cases with hstop|⟨m',rfl,_,hstep⟩
  ·obtain⟨hR,_,hG⟩:=hstop w (.refl _ _ w);exact stepLib ha hxs hcom hwg hmode hi hg hrun hst (by omega) hde (.r0 hG) hR
  ·obtain⟨g',w',es,Mi',hgo,hd,hg'⟩:=hstep w (.refl _ _ w);have hloc:∀ l,Mi' l∨S (i+1) l→∃ b,locBlk l=some b:=by
    intro l hl;rcases hl with hl|hl
    ·rcases(hd.mine l).1 hl with hl|⟨b,hb,_⟩
     ·obtain⟨b,hb,_⟩:=hcom.own.bnd (i+1) (by omega) l (.inl hl);exact⟨b,hb⟩
     ·exact⟨b,hb⟩
    ·obtain⟨b,hb,_⟩:=hcom.own.bnd (i+1) (by omega) l (.inr hl);exact⟨b,hb⟩
   have henv:Env (Aloof X (M (i+1)) (i+1)) w w':=hd.env.mono fun l hl=>hl.1
   have hwg':WgAt X.ty X.Wg w' st sm:=hd.env.wg (fun c hm=>hcom.own.sep.my (i+1) _ (by omega) hm (sy_cell X c)) hwg;exact workerStep ha hxs hcom hi hg hgo henv hwg' hd.mine (.x hg') (opOk_evIn hloc hd.evs) (fun e he=>(zLa hloc (hd.evs e he)).2.2 _)
    (by rw[hde];exact deafBehind_idle (fun e he=>⟨(zLa hloc (hd.evs e he)).1,(zLa hloc (hd.evs e he)).2.1⟩) 0) (fun h=>by omega)
    (fun _ ht _=>Go.ConcN.Mode.retag (by have:=hmode.same (i:=i) (m'+X.q+1) 0;rwa [hst] at this) (by rcases ht with rfl|⟨rfl,rfl⟩;exact .inl rfl;exact .inr ⟨rfl,rfl⟩)) (.inr ⟨hst.symm,by omega⟩)
end
end
section
open Go.Conc Go.ConcN
open Go.ConcR (KK wgBlock WgAt stA smA rd wr mk Payload DC0 Bk g_of_ofEvents bk_of_mute ofEvent_loc_mark ofEvent_mk)
structure PastX(Shun:Loc→Prop)(t:Trace):Prop where
 clean:∀ said,¬ Race said t
 known:∀ i a,touchAt t i=some a→a.loc.isMemory=true→Knows t 0 i∨(Shun a.loc∧a.kind=.atomic)
 over:t.HandedOver
 hears:Deaf t 0=0
section
variable [Payload]{X:Crew}{Next:(Loc→Prop)→(Loc→Prop)→Goroutine→World→Prop}
  {T0 j:Nat} {gs:Array Goroutine} {w w':World} {sl:Option (Nat×Nat)} {D:Nat→WD} {tag tag':XT} {f0 f' d0:Nat} {a a':Goroutine} {t:Trace} {M S:Nat→Loc→Prop} {st sm st' sm':Int} {es:Array Event}
def DoneAt(X:Crew)(Next:(Loc→Prop)→(Loc→Prop)→Goroutine→World→Prop)(m:Machine)(t:Trace):Prop:=
 ∃(gs:Array Goroutine) (w:World) (sl:Option (Nat×Nat)) (a:Goroutine) (q:Nat→Nat) (M S:Loc→Prop),
  m=crowd gs w sl∧gs.size=X.n+1∧gs[0]? = some a∧Next M S a w∧Leavers X.P t gs q∧PastX X.Sy t∧X.Wg<w.heap.size∧Env (OldL X.w0) X.w0 w
theorem idleX(ha:gs[0]? = some a)(hcom:Com X T0 j gs w t D d0 M S)(hwg:WgAt X.ty X.Wg w st sm)(hmode:Go.ConcN.Mode j D tag.tag st sm){Mi':Loc→Prop}
  (hgo:stepG X.P true a w=.go a' w' es) (hd:Did (M 0) (S 0) w w' es Mi') (hxs':XS X Next Mi' (S 0) tag j f' d0 a' w') (hf:f'<f0):zBa X Next T0 gs w sl j D tag f0 t 0:=by
 have hloc:∀ l,Mi' l∨S 0 l→∃ b,locBlk l=some b:=by
  intro l hl;rcases hl with hl|hl
  ·rcases(hd.mine l).1 hl with hl|⟨b,hb,_⟩
   ·obtain⟨b,hb,_⟩:=hcom.own.bnd 0 (Nat.zero_le _) l (.inl hl);exact⟨b,hb⟩
   ·exact⟨b,hb⟩
  ·obtain⟨b,hb,_⟩:=hcom.own.bnd 0 (Nat.zero_le _) l (.inr hl);exact⟨b,hb⟩
 have hdf:deafBehind d0 es=d0:=deafBehind_idle (fun e he=>⟨(zLa hloc (hd.evs e he)).1,(zLa hloc (hd.evs e he)).2.1⟩) d0;exact callerStep ha hcom hgo (hd.env.mono fun l hl=>hl.1) (hd.env.wg (fun c hm=>hcom.own.sep.my 0 _ (Nat.zero_le _) hm (sy_cell X c)) hwg) hd.mine (opOk_evIn hloc hd.evs) (fun e he=>(zLa hloc (hd.evs e he)).2.2 _)
  (by rw[hdf];exact hxs') hmode (.inr ⟨rfl,hf⟩)
theorem bookC(ha:gs[0]? = some a)(hcom:Com X T0 j gs w t D d0 M S)(hwg:WgAt X.ty X.Wg w st sm)
  (hgo:stepG X.P true a w=.go a' w' es) (hAs:Aside X.Wg w w') (hwg':WgAt X.ty X.Wg w' st' sm') (hbk:∀ e∈es,Bk X.Wg e) (hxs':XS X Next (M 0) (S 0) tag' j f' (deafBehind d0 es) a' w')
  (hmode':Go.ConcN.Mode j D tag'.tag st' sm') (hlt:psi X.n (Vc j D) tag'<psi X.n (Vc j D) tag∨(psi X.n (Vc j D) tag'=psi X.n (Vc j D) tag∧f'<f0)):zBa X Next T0 gs w sl j D tag f0 t 0:=
 callerStep ha hcom hgo (env_aside hAs hwg hwg' (M 0) 0) hwg' (fun l=>⟨.inl,fun h=>h.elim id fun⟨b,_,h1,h2⟩=>by rw[hAs.size] at h2;omega⟩) (opOk_bk hbk) (norel_of_Bk hbk) hxs' hmode' hlt
theorem idleC(ha:gs[0]? = some a)(hcom:Com X T0 j gs w t D d0 M S)(hwg:WgAt X.ty X.Wg w st sm)(hmode:Go.ConcN.Mode j D tag.tag st sm)
  (hgo:stepG X.P true a w=.go a' w #[]) (hxs':XS X Next (M 0) (S 0) tag j f' d0 a' w) (hf:f'<f0):zBa X Next T0 gs w sl j D tag f0 t 0:=
 bookC ha hcom hwg hgo (.refl X.Wg w) hwg (by simp) hxs' hmode (.inr ⟨rfl,hf⟩)
theorem saidC(ha:gs[0]? = some a)(hcom:Com X T0 j gs w t D d0 M S)(hwg:WgAt X.ty X.Wg w st sm){ad:Addr}(had:ad.block=X.Wg){mm:Mark}(hmm:mm=.read ad∨mm=.write ad)
  (hgo:stepG X.P true a w=.go a' w #[mk mm]) (hxs':XS X Next (M 0) (S 0) tag' j f' d0 a' w)
  (hmode':Go.ConcN.Mode j D tag'.tag st sm) (hlt:psi X.n (Vc j D) tag'<psi X.n (Vc j D) tag):zBa X Next T0 gs w sl j D tag f0 t 0:=by
 refine callerStep ha hcom hgo (.refl _ w) hwg (fun l=>⟨.inl,fun h=>h.elim id fun⟨b,_,h1,h2⟩=>by omega⟩) ?_ ?_ (by rcases hmm with rfl|rfl<;>exact hxs') hmode' (.inl hlt)
 ·intro op hop;rw[ofEvents_eq] at hop;obtain⟨e,he,rfl⟩:=Array.mem_map.1 hop;obtain rfl:e=mk mm:=by simpa using he
  refine⟨rfl,fun x hx=>.inl ?_⟩;rcases hmm with rfl|rfl
  ·simp only[mk,MemAct.ofEvent,MemAct.touch?,Option.some.injEq] at hx;subst hx;exact⟨⟨ad,rfl,had⟩,by simp,fun _=>rfl⟩
  ·simp only[mk,MemAct.ofEvent,MemAct.touch?,Option.some.injEq] at hx;subst hx;exact⟨⟨ad,rfl,had⟩,by simp,fun _=>rfl⟩
 ·intro e he;obtain rfl:e=mk mm:=by simpa using he
  rcases hmm with rfl|rfl<;>simp[mk]
theorem xbk_dis:∀ e∈#[mk .disable],Bk X.Wg e:=by intro e he;simp at he;subst he;exact .inl rfl
theorem xbk_en:∀ e∈#[mk .enable],Bk X.Wg e:=by intro e he;simp at he;subst he;exact .inr (.inl rfl)
theorem xbk_rd:∀ e∈#[rd (stA X.Wg)],Bk X.Wg e:=by intro e he;simp at he;subst he;exact bk_cell _ _ rfl
theorem xbk_rw:∀ e∈#[rd (stA X.Wg),wr (stA X.Wg)],Bk X.Wg e:=by intro e he;simp at he;rcases he with rfl|rfl<;>exact bk_cell _ _ rfl
theorem xbk_sem:∀ e∈semEvents (smA X.Wg),Bk X.Wg e:=by
 intro e he;simp[semEvents] at he;rcases he with rfl|rfl|rfl|rfl
 ·exact .inl rfl
 ·exact bk_cell _ _ rfl
 ·exact bk_cell _ _ rfl
 ·exact .inr (.inl rfl)
theorem goC(ha:gs[0]? = some a)(hcom:Com X T0 j gs w t D 0 M S)(hwg:WgAt X.ty X.Wg w st sm){r:Nat}(hr:r<X.n)(hj:j=X.n-(r+1))(hmode:Go.ConcN.Mode j D (.sp r 1) st sm)
  (hgo:AtGo X (X.n-(r+1)) (zRb X Next r) (S 0) (M 0) a w):zBa X Next T0 gs w sl j D (.sp r 1) f0 t 0:=by
 obtain⟨_,a',child,hsp,hcr,M',S',Mc,Sc,h1,h2,h3,h4,h5,h6,hRes,⟨m₂,hwk⟩,hnext⟩:=hgo;obtain⟨ho,rfl,rfl,_⟩:=hmode.open_inv trivial;have hrun':=runT_crowd_spawn (P:=X.P) (sl:=sl) (i:=0) ha (by simpa using hsp);rw[hcom.size] at hrun';have hown:=hcom.own.fork (x:={g:=0,fn:=a.frame.fn,pos:=a.frame.place,act:=.go (j+1)}) (y:={g:=j+1,fn:=child.frame.fn,pos:=a.frame.place,act:=.start}) ⟨rfl,rfl⟩ ⟨rfl,rfl⟩ hcom.deaf0 h1 h2 h3 h4 h5 h6;have huM:∀ i,i<j→upd (upd M 0 M') (j+1) Mc (i+1)=M (i+1):=fun i hi=>by rw[upd_ne _ _ (by omega),upd_ne _ _ (by omega)]
 have huS:∀ i,i<j→upd (upd S 0 S') (j+1) Sc (i+1)=S (i+1):=fun i hi=>by rw[upd_ne _ _ (by omega),upd_ne _ _ (by omega)]
 have hstl:∀ g,Deaf (t++#[({g:=0,fn:=a.frame.fn,pos:=a.frame.place,act:=.go (j+1)}:MemOp),{g:=j+1,fn:=child.frame.fn,pos:=a.frame.place,act:=.start}]) g=Deaf t g:=by
  intro g;refine Deaf_still t g _ fun op hop=>?_
  simp only[List.mem_toArray,List.mem_cons,List.not_mem_nil,or_false] at hop;rcases hop with rfl|rfl<;>exact⟨by simp,by simp⟩
 have hcom':Com X T0 (j+1) ((gs.setIfInBounds 0 a').push child) w (t++#[({g:=0,fn:=a.frame.fn,pos:=a.frame.place,act:=.go (j+1)}:MemOp),{g:=j+1,fn:=child.frame.fn,pos:=a.frame.place,act:=.start}]) (upd D j ⟨7,m₂+X.q+1,0⟩) 0 (upd (upd M 0 M') (j+1) Mc) (upd (upd S 0 S') (j+1) Sc):=by
  refine⟨by simp[hcom.size],fun i hi=>?_,hown,by rw[hstl,hcom.deaf0],fun i hi=>?_,fun i hi hs=>?_,fun i hi=>?_⟩
  ·rcases Nat.lt_or_ge i j with hlt|hge
   ·obtain⟨g,hg,hsg⟩:=hcom.wk i hlt;refine⟨g,?_,by rw[upd_ne D _ (by omega),huM i hlt,huS i hlt];exact hsg⟩;rw[Array.getElem?_push_lt (by simp[hcom.size];omega),←Array.getElem?_eq_getElem,Array.getElem?_setIfInBounds_ne (by omega)];exact hg
   ·obtain rfl:i=j:=by omega
    refine⟨child,?_,by rw[upd_same,upd_same,upd_same];exact .x (by rw[hj];exact hwk)⟩;rw[show i+1=(gs.setIfInBounds 0 a').size by simp[hcom.size],Array.getElem?_push_size]
  ·rw[hstl];rcases Nat.lt_or_ge i j with hlt|hge
   ·rw[hcom.deafW i hlt,upd_ne D _ (by omega)]
   ·obtain rfl:i=j:=by omega
    rw[upd_same];exact Deaf_absent fun x op hx e=>by have:=hcom.own.ti.gs x op hx;omega
  ·rcases Nat.lt_or_ge i j with hlt|hge
   ·rw[upd_ne D _ (by omega)] at hs;obtain⟨r,hr⟩:=hcom.rel i hlt hs;refine⟨r,hr.appNot fun op hop=>?_⟩;simp only[List.mem_toArray,List.mem_cons,List.not_mem_nil,or_false] at hop;rcases hop with rfl|rfl
    ·simp
    ·simp;omega
   ·obtain rfl:i=j:=by omega
    rw[upd_same] at hs;simp at hs
  ·rcases Nat.lt_or_ge i j with hlt|hge
   ·rw[huM i hlt];exact hcom.resM i hlt
   ·obtain rfl:i=j:=by omega
    rw[upd_same];rw[hj];exact hRes
 have z0:upd (upd M 0 M') (j+1) Mc 0=M':=by rw[upd_ne _ _ (by omega),upd_same]
 have z1:upd (upd S 0 S') (j+1) Sc 0=S':=by rw[upd_ne _ _ (by omega),upd_same]
 have eV:Vc (j+1) (upd D j ⟨7,m₂+X.q+1,0⟩)=Vc j D+1:=by simp only[Vc,sumTo,upd_same];rw[sumTo_upd_out D _ cnt (Nat.le_refl _)];rfl
 have eS:Ssum (j+1) (upd D j ⟨7,m₂+X.q+1,0⟩)=Ssum j D+7:=by simp only[Ssum,sumTo,upd_same];rw[sumTo_upd_out D _ WD.stage (Nat.le_refl _)]
 have ho':OpenSt (j+1) (upd D j ⟨7,m₂+X.q+1,0⟩):=fun i hi=>by
  by_cases e:i=j
  ·subst e;rw[upd_same];simp
  ·rw[upd_ne D _ e];exact ho i (by omega)
 have ha':((gs.setIfInBounds 0 a').push child)[0]? = some a':=by rw[Array.getElem?_push_lt (by simp[hcom.size]),←Array.getElem?_eq_getElem];simp[hcom.size]
 have hjn:j+1=X.n-r:=by omega
 have est:∀ tag':XT,pend tag'.tag=0→((Vc j D+pend (.sp r 1):Nat):Int)*KK=((Vc (j+1) (upd D j ⟨7,m₂+X.q+1,0⟩)+pend tag'.tag:Nat):Int)*KK:=fun tag' hp=>by rw[eV,hp];simp[pend]
 cases r with
 |zero=>
  obtain⟨m₃,hk⟩:=hnext;refine⟨_,_,(psi X.n (Vc (j+1) (upd D j ⟨7,m₂+X.q+1,0⟩)) .fn+Ssum (j+1) (upd D j ⟨7,m₂+X.q+1,0⟩),m₃+2*Fsum (j+1) (upd D j ⟨7,m₂+X.q+1,0⟩)),hrun',Prod.Lex.left _ _ (by simp only[psi];omega),
   _,w,sl,j+1,_,.fn,m₃,0,a',_,_,_,_,rfl,ha',?_,hcom',hwg,?_,rfl⟩
  ·rw[z0,z1,show j+1=X.n by omega];exact .fn hk
  ·rw[est .fn rfl];exact .opn trivial ho' (by simp[XT.tag])
 |succ r'=>
  obtain⟨m₃,hk⟩:=hnext;refine⟨_,_,(psi X.n (Vc (j+1) (upd D j ⟨7,m₂+X.q+1,0⟩)) (.sp r' 6)+Ssum (j+1) (upd D j ⟨7,m₂+X.q+1,0⟩),m₃+2*Fsum (j+1) (upd D j ⟨7,m₂+X.q+1,0⟩)),hrun',Prod.Lex.left _ _ (by simp only[psi];omega),
   _,w,sl,j+1,_,.sp r' 6,m₃,0,a',_,_,_,_,rfl,ha',?_,hcom',hwg,?_,rfl⟩
  ·rw[z0,z1,hjn];exact .s6 (by omega) hk
  ·rw[est (.sp r' 6) rfl];exact .opn trivial ho' (by simp[XT.tag])
end
end
section
open Go.Conc Go.ConcN
open Go.ConcR (KK wgBlock WgAt stA smA rd wr mk Payload DC0 Bk g_of_ofEvents bk_of_mute ofEvent_loc_mark ofEvent_mk)
section
variable [Payload]{X:Crew}{Next:(Loc→Prop)→(Loc→Prop)→Goroutine→World→Prop}
  {T0 j:Nat} {gs:Array Goroutine} {w w':World} {sl:Option (Nat×Nat)} {D:Nat→WD} {tag tag':XT} {f0 f' d0:Nat} {a a':Goroutine} {t:Trace} {M S:Nat→Loc→Prop} {st sm st' sm':Int} {es:Array Event}
theorem zBa.up{i:Nat}(h:zBa X Next T0 gs w sl j D tag' f' t i)(hlt:psi X.n (Vc j D) tag'<psi X.n (Vc j D) tag):zBa X Next T0 gs w sl j D tag f0 t i:=by obtain⟨m,ops,μ,h1,h2,h3⟩:=h;exact⟨m,ops,μ,h1,lt2_trans h2 (Prod.Lex.left _ _ (by omega)),h3⟩
theorem WS.quits{k:Nat}{M S:Loc→Prop}{m d:Nat}{g:Goroutine}{s:Nat}(h:WS X k M S s m d g w)(hs:s=1):QuitsD X.P m d g:=by
 cases h with
 |x h=>cases hs
 |lib h _=>exact h.quits hs
theorem WS.res{k:Nat}{M S:Loc→Prop}{m d:Nat}{g:Goroutine}{s:Nat}(h:WS X k M S s m d g w)(hs:s=1):X.Res (k-1) w:=by
 cases h with
 |x h=>cases hs
 |lib _ h=>exact h
theorem joined(hcom:Com X T0 X.n gs w t D 0 M S)(hq:AllQuit X.n D)(hTz:∀ g i a,g≤X.n→i<T0→touchAt t i=some a→Knows t 0 i)(fn:FuncId)(pos:String) :
  PastX X.Sy (t++MemOp.ofEvents 0 fn pos #[mk (.acquire (stA X.Wg))]):=by
 have e1:MemOp.ofEvents 0 fn pos #[mk (.acquire (stA X.Wg))]=#[{g:=0,fn,pos,act:=.mark (.acquire (stA X.Wg))}]:=by rw[ofEvents_eq];simp[ofEvent_mk]
 rw[e1];generalize ht':t++#[({g:=0,fn,pos,act:=.mark (.acquire (stA X.Wg))}:MemOp)]=t';have hy:t'[t.size]? = some {g:=0,fn,pos,act:=.mark (.acquire (stA X.Wg))}:=by rw[←ht'];simp
 have hact:t'.act? t.size=some (.mark (.acquire (stA X.Wg))):=by rw[act?_of hy]
 have hgq:t'.g? t.size=some 0:=by simp[Trace.g?,hy]
 have hh:t'.heard t.size:=⟨0,hgq,by rw[←ht',deaf_old (Nat.le_refl _)];exact hcom.deaf0⟩;have hrelB:∀ i,i<X.n→∃ r,RelBy (stA X.Wg) t' (i+1) r∧r<t.size:=by intro i hi;obtain⟨r,hr⟩:=hcom.rel i hi (by rw[hq i hi];omega);refine⟨r,?_,lt_of_act? hr.act⟩;rw[←ht'];exact hr.appNot fun op hop=>by simp at hop;subst hop;simp
 have hnorel:NoRelease (stA X.Wg) t':=by rw[←ht'];exact hcom.own.norel.app fun op hop=>by simp at hop;subst hop;simp
 have hgs:∀ i g,t'.g? i=some g→g≤X.n:=by
  intro i g hg;obtain⟨op,ho,rfl⟩:=Option.map_eq_some_iff.1 hg;rw[←ht'] at ho;rcases getElem?_append_cases ho with⟨_,ho'⟩|⟨_,hou⟩
  ·exact hcom.own.ti.gs i op ho'
  ·simp at hou;subst hou;exact Nat.zero_le _
 have all:∀ i g,t'.g? i=some g→g≠0→∃ r,RelBy (stA X.Wg) t' g r∧r<t.size:=by intro i g hg hne;have:=hgs i g hg;have:=hrelB (g-1) (by omega);rwa [show g-1+1=g by omega] at this
 have hover:t'.HandedOver:=handedOver_all all hnorel hact hgq hh;have hok:∀ op∈#[({g:=0,fn,pos,act:=.mark (.acquire (stA X.Wg))}:MemOp)],OpOk X.Sy (M 0) (S 0) 0 op:=by intro op hop;simp at hop;subst hop;exact⟨rfl,fun x hx=>by simp[MemAct.touch?] at hx⟩
 have hti:TI X.Sy T0 w.heap.size M S t' X.n:=by rw[←ht'];exact hcom.own.ti.app hcom.own.sep hcom.own.tsz (Nat.zero_le _) hok fun op hop x b hx=>by simp at hop;subst hop;simp[MemAct.touch?] at hx
 refine⟨hti.nr,fun i x hx hm=>?_,hover,?_⟩
 ·obtain⟨op,ho,hox⟩:=touch_of hx;by_cases h0:op.g=0
  ·have:=knows_own ho;rw[h0] at this;exact .inl this
  ·rcases Nat.lt_or_ge i T0 with hi|hi
   ·exact .inl (hti.pre 0 (Nat.zero_le _) i x hi hx)
   ·by_cases hc:t'.counts i
    ·have hgi:t'.g? i=some op.g:=by simp[Trace.g?,ho]
     obtain⟨q',hg',hb⟩:=hover i op.g hgi h0 hc;obtain⟨z,hz,hzg⟩:=Option.map_eq_some_iff.1 hg';exact .inl ⟨q',z,hz,hzg,.inr hb⟩
    ·have hk:x.kind=.atomic:=by
      by_cases hk:x.kind=.atomic
      ·exact hk
      ·exact absurd ⟨x,by simpa[touchAt] using hx,hm,.inl hk⟩ hc
     exact .inr ⟨hti.atm i op x ho hi hox hk,hk⟩
 ·rw[←ht',Deaf_still t 0 _ fun op hop=>by simp at hop;subst hop;exact⟨by simp,by simp⟩];exact hcom.deaf0
abbrev Moves(X:Crew)(Next:(Loc→Prop)→(Loc→Prop)→Goroutine→World→Prop)(T0:Nat)(gs:Array Goroutine)(w:World)(sl:Option (Nat×Nat))(j:Nat)(D:Nat→WD)(tag:XT)(f0:Nat)(t:Trace):Prop:=
 zBa X Next T0 gs w sl j D tag f0 t 0∨∃ m₁ ops,runT X.P (crowd gs w sl) 0=(.next m₁,ops)∧DoneAt X Next m₁ (t++ops)
theorem modeW3{tg:CTag}(hm:Go.ConcN.Mode j D tg st sm)(e:tg=.w3):(sm=0∧Go.ConcN.Mode j D .blk st sm)∨(AllQuit j D∧st=0∧sm=1):=by
 subst e;cases hm with
 |opn h1 _ _=>exact h1.elim
 |reg h1 h2 h3=>exact .inl ⟨rfl,.reg trivial h2 h3⟩
 |last L h1 h2 h3 h4=>exact .inl ⟨rfl,.last L trivial h2 h3 h4⟩
 |sema h2=>exact .inr ⟨h2,rfl,rfl⟩
 |fin h1 _=>exact h1.elim
theorem stepCaller(ha:gs[0]? = some a)(hxs:XS X Next (M 0) (S 0) tag j f0 d0 a w)(hcom:Com X T0 j gs w t D d0 M S)(hwg:WgAt X.ty X.Wg w st sm)(hmode:Go.ConcN.Mode j D tag.tag st sm)(hrun:a.status=.running) :
  Moves X Next T0 gs w sl j D tag f0 t:=by
 have hVj:=Vc_le j D;have hn:=X.hn;have hst:=hxs.started
 have stepW1:∀{Anch:Goroutine→World→Prop} {f:Nat},Go.ConcN.Mode X.n D .w1 st sm→j=X.n→d0=1→(∀ g w,Anch g w→g.status=.running) →
   (∀ g w,Anch g w→∃ m,GX X.P X.ty X.Wg (fun l=>M 0 l∨S 0 l) (YW1 X.P X.ty X.Wg (fun l=>M 0 l∨S 0 l) X.Joined (Next (M 0) (S 0)) Anch) m g w) →
   GX X.P X.ty X.Wg (fun l=>M 0 l∨S 0 l) (YW1 X.P X.ty X.Wg (fun l=>M 0 l∨S 0 l) X.Joined (Next (M 0) (S 0)) Anch) f a w→zBa X Next T0 gs w sl j D .w1 f t 0:=by
  intro Anch f hm1 hj hd0 hA hN h;subst hj;subst hd0;rcases Goes.cases h with hstop|⟨m',rfl,hstep⟩
  ·obtain⟨_,hall⟩:=hstop w (.refl _ _ w);obtain⟨ho,rfl,rfl,_⟩:=hm1.open_inv trivial;obtain⟨a',hgo,h0,hne⟩:=hall (Vc X.n D) (by omega) (by simpa[pend] using hwg);by_cases hv:Vc X.n D=0
   ·obtain⟨m₂,hk⟩:=h0 hv;refine bookC ha hcom hwg hgo (.refl X.Wg w) hwg xbk_rd (tag':=.ke) (.ke hk) ?_ (.inl (by simp only[psi];omega));have e:((Vc X.n D+pend .w1:Nat):Int)*KK=0:=by rw[hv];simp[pend]
    rw[e];exact .fin trivial (allQuit_of ho hv)
   ·obtain⟨m₂,hk⟩:=hne hv;exact bookC ha hcom hwg hgo (.refl X.Wg w) hwg xbk_rd (tag':=.w2 (Vc X.n D)) (.w2 hA hN hk) (hm1.reopen trivial trivial rfl (fun vs e=>by cases e;omega)) (.inl (by simp only[psi];omega))
  ·obtain⟨a',w',es,hgo,⟨rfl,rfl⟩,hg'⟩:=hstep w (.refl _ _ w);exact idleC ha hcom hwg (tag:=.w1) hm1 hgo (.w1 hA hN hg') (by omega)
 cases hxs with
 |s6 hr h=>
  rename_i r;rcases h.cases with hstop|⟨m',rfl,_,hstep⟩
  ·obtain⟨m,h5⟩:=hstop w (.refl _ _ w);refine .inl (zBa.up (tag':=.sp r 5) (f':=m) ?_ (by simp only[psi];omega));rcases Goes.cases h5 with hstop|⟨m',rfl,hstep⟩
   ·obtain⟨_,a',hgo,m₂,hk⟩:=hstop w (.refl _ _ w);exact bookC ha hcom hwg hgo (.refl X.Wg w) hwg xbk_dis (tag':=.sp r 4) (.s4 hr hk) (hmode.reopen trivial trivial rfl (by simp[XT.tag])) (.inl (by simp only[psi];omega))
   ·obtain⟨a',w',es,hgo,⟨rfl,rfl⟩,hg'⟩:=hstep w (.refl _ _ w);exact idleC ha hcom hwg (tag:=.sp r 5) (hmode.reopen trivial trivial rfl (by simp[XT.tag])) hgo (.s5 hr hg') (by omega)
  ·obtain⟨a',w',es,Mi',hgo,hd,hg'⟩:=hstep w (.refl _ _ w);exact .inl (idleX ha hcom hwg hmode hgo hd (.s6 hr hg') (by omega))
 |s5 hr h=>
  rename_i r;rcases Goes.cases h with hstop|⟨m',rfl,hstep⟩
  ·obtain⟨_,a',hgo,m₂,hk⟩:=hstop w (.refl _ _ w);exact .inl (bookC ha hcom hwg hgo (.refl X.Wg w) hwg xbk_dis (tag':=.sp r 4) (.s4 hr hk) (hmode.reopen trivial trivial rfl (by simp[XT.tag])) (.inl (by simp only[psi];omega)))
  ·obtain⟨a',w',es,hgo,⟨rfl,rfl⟩,hg'⟩:=hstep w (.refl _ _ w);exact .inl (idleC ha hcom hwg hmode hgo (.s5 hr hg') (by omega))
 |s4 hr h=>
  rename_i r;rcases Goes.cases h with hstop|⟨m',rfl,hstep⟩
  ·obtain⟨_,hall⟩:=hstop w (.refl _ _ w);obtain⟨ho,rfl,rfl,_⟩:=hmode.open_inv trivial;obtain⟨a',hgo,hk⟩:=hall (Vc (X.n-(r+1)) D) (by omega) (by simpa[pend,XT.tag] using hwg);have e:(((Vc (X.n-(r+1)) D:Nat):Int)+1)*KK=((Vc (X.n-(r+1)) D+pend (.sp r 3):Nat):Int)*KK:=by simp[pend]
   have hm3:Go.ConcN.Mode (X.n-(r+1)) D (.sp r 3) ((((Vc (X.n-(r+1)) D:Nat):Int)+1)*KK) 0:=by rw[e];exact .opn trivial ho (by simp)
   rcases hk with⟨m₂,hk⟩|⟨m₂,hk⟩
   ·exact .inl (bookC ha hcom hwg hgo (aside_setCell w (stA X.Wg) _) (hwg.setSt _) xbk_rw (tag':=.sp r 3) (.s3 hr hk) hm3 (.inl (by simp only[psi];omega)))
   ·exact .inl (bookC ha hcom hwg hgo (aside_setCell w (stA X.Wg) _) (hwg.setSt _) xbk_rw (tag':=.sp r 2) (.s2 hr hk) (hm3.reopen trivial trivial rfl (by simp[XT.tag])) (.inl (by simp only[psi];omega)))
  ·obtain⟨a',w',es,hgo,⟨rfl,rfl⟩,hg'⟩:=hstep w (.refl _ _ w);exact .inl (idleC ha hcom hwg hmode hgo (.s4 hr hg') (by omega))
 |s3 hr h=>
  rename_i r;rcases Goes.cases h with hstop|⟨m',rfl,hstep⟩
  ·obtain⟨_,a',ad,had,hgo,m₂,hk⟩:=hstop w (.refl _ _ w);exact .inl (saidC ha hcom hwg had (.inl rfl) hgo (tag':=.sp r 2) (.s2 hr hk) (hmode.reopen trivial trivial rfl (by simp[XT.tag])) (by simp only[psi];omega))
  ·obtain⟨a',w',es,hgo,⟨rfl,rfl⟩,hg'⟩:=hstep w (.refl _ _ w);exact .inl (idleC ha hcom hwg hmode hgo (.s3 hr hg') (by omega))
 |s2 hr h=>
  rename_i r;rcases Goes.cases h with hstop|⟨m',rfl,hstep⟩
  ·obtain⟨_,a',hgo,m₂,hk⟩:=hstop w (.refl _ _ w);exact .inl (bookC ha hcom hwg hgo (.refl X.Wg w) hwg xbk_en (tag':=.sp r 1) (.s1 hr hk) (hmode.reopen trivial trivial rfl (by simp[XT.tag])) (.inl (by simp only[psi];omega)))
  ·obtain⟨a',w',es,hgo,⟨rfl,rfl⟩,hg'⟩:=hstep w (.refl _ _ w);exact .inl (idleC ha hcom hwg hmode hgo (.s2 hr hg') (by omega))
 |s1 hr h=>
  rename_i r;rcases h.cases with hstop|⟨m',rfl,_,hstep⟩
  ·exact .inl (goC ha hcom hwg hr rfl hmode (hstop w (.refl _ _ w)))
  ·obtain⟨a',w',es,Mi',hgo,hd,hg'⟩:=hstep w (.refl _ _ w);exact .inl (idleX ha hcom hwg hmode hgo hd (.s1 hr hg') (by omega))
 |fn h=>
  rcases h.cases with hstop|⟨m',rfl,_,hstep⟩
  ·obtain⟨Anch,hA,hN,m,h5⟩:=hstop w (.refl _ _ w);refine .inl (zBa.up (tag':=.kd) (f':=m) ?_ (by simp only[psi];omega));rcases Goes.cases h5 with hstop|⟨m',rfl,hstep⟩
   ·obtain⟨_,a',hgo,m₂,hk⟩:=hstop w (.refl _ _ w);exact bookC ha hcom hwg hgo (.refl X.Wg w) hwg xbk_dis (tag':=.anch) (.anch hA hN hk) (hmode.reopen trivial trivial rfl (by simp[XT.tag])) (.inl (by simp only[psi];omega))
   ·obtain⟨a',w',es,hgo,⟨rfl,rfl⟩,hg'⟩:=hstep w (.refl _ _ w);exact idleC ha hcom hwg (tag:=.kd) (hmode.reopen trivial trivial rfl (by simp[XT.tag])) hgo (.kd hA hN hg') (by omega)
  ·obtain⟨a',w',es,Mi',hgo,hd,hg'⟩:=hstep w (.refl _ _ w);refine .inl (idleX ha hcom hwg hmode hgo hd (.fn ?_) (Nat.lt_succ_self _));exact hg'
 |kd hA hN h=>
  rcases Goes.cases h with hstop|⟨m',rfl,hstep⟩
  ·obtain⟨_,a',hgo,m₂,hk⟩:=hstop w (.refl _ _ w);exact .inl (bookC ha hcom hwg hgo (.refl X.Wg w) hwg xbk_dis (tag':=.anch) (.anch hA hN hk) (hmode.reopen trivial trivial rfl (by simp[XT.tag])) (.inl (by simp only[psi];omega)))
  ·obtain⟨a',w',es,hgo,⟨rfl,rfl⟩,hg'⟩:=hstep w (.refl _ _ w);exact .inl (idleC ha hcom hwg hmode hgo (.kd hA hN hg') (by omega))
 |anch hA hN h=>
  rcases Goes.cases h with hstop|⟨m',rfl,hstep⟩
  ·obtain⟨m₂,hk⟩:=hN a w (hstop w (.refl _ _ w));exact .inl (zBa.up (stepW1 (hmode.reopen trivial trivial rfl (by simp)) rfl rfl hA hN hk) (by simp only[psi];omega))
  ·obtain⟨a',w',es,hgo,⟨rfl,rfl⟩,hg'⟩:=hstep w (.refl _ _ w);exact .inl (idleC ha hcom hwg hmode hgo (.anch hA hN hg') (by omega))
 |w1 hA hN h=>exact .inl (stepW1 hmode rfl rfl hA hN h)
 |w2 hA hN h=>
  rename_i Anch vs;rcases Goes.cases h with hstop|⟨m',rfl,hstep⟩
  ·obtain⟨_,hall⟩:=hstop w (.refl _ _ w);obtain⟨ho,rfl,rfl,hw2⟩:=hmode.open_inv trivial;obtain⟨hle,h1⟩:=hw2 vs rfl;obtain⟨hhit,hmiss⟩:=hall (Vc X.n D) (by omega) (by simpa[pend,XT.tag] using hwg);by_cases e:Vc X.n D=vs
   ·obtain⟨a',hgo,m₂,hk⟩:=hhit e;exact .inl (bookC ha hcom hwg hgo (aside_setCell w (stA X.Wg) _) (hwg.setSt _) xbk_rw (tag':=.sw) (.sw hk) (.reg trivial ho (by omega)) (.inl (by simp only[psi];omega)))
   ·obtain⟨a',hgo,m₂,hk⟩:=hmiss e;exact .inl (bookC ha hcom hwg hgo (.refl X.Wg w) hwg xbk_rd (tag':=.anch) (.anch hA hN hk) (hmode.reopen trivial trivial rfl (by simp[XT.tag])) (.inl (by simp only[psi];omega)))
  ·obtain⟨a',w',es,hgo,⟨rfl,rfl⟩,hg'⟩:=hstep w (.refl _ _ w);exact .inl (idleC ha hcom hwg hmode hgo (.w2 hA hN hg') (by omega))
 |sw h=>
  rcases Goes.cases h with hstop|⟨m',rfl,hstep⟩
  ·obtain⟨_,a',ad,had,hgo,m₂,hk⟩:=hstop w (.refl _ _ w);exact .inl (saidC ha hcom hwg had (.inr rfl) hgo (tag':=.w3) (.w3 hk) hmode (by simp only[psi];omega))
  ·obtain⟨a',w',es,hgo,⟨rfl,rfl⟩,hg'⟩:=hstep w (.refl _ _ w);exact .inl (idleC ha hcom hwg hmode hgo (.sw hg') (by omega))
 |w3 h=>
  rename_i mm;rcases Goes.cases h with hstop|⟨m',rfl,hstep⟩
  ·obtain⟨_,hoff,hblk,htake⟩:=hstop w (.refl _ _ w);have hblock:sm=0→Go.ConcN.Mode X.n D .blk st sm→Moves X Next T0 gs w sl X.n D .w3 (mm+1) t:=fun e1 hm=>by subst e1;exact .inl (bookC ha hcom hwg (hblk ⟨_,hwg⟩) (.refl X.Wg w) hwg (by simp) (tag':=.blk) (.blk hstop) hm (.inr ⟨rfl,Nat.succ_pos _⟩))
   rcases modeW3 hmode rfl with⟨e,hm⟩|⟨h2,rfl,rfl⟩
   ·exact hblock e hm
   ·obtain⟨a',hgo,m₂,hk⟩:=htake hwg;exact .inl (bookC ha hcom hwg hgo (aside_setCell w (smA X.Wg) _) (hwg.setSm 0) xbk_sem (tag':=.w4) (.w4 hk) (.fin trivial h2) (.inl (by simp only[psi];omega)))
  ·obtain⟨a',w',es,hgo,⟨rfl,rfl⟩,hg'⟩:=hstep w (.refl _ _ w);exact .inl (idleC ha hcom hwg hmode hgo (.w3 hg') (by omega))
 |blk h=>simp at hrun
 |w4 h=>
  rcases Goes.cases h with hstop|⟨m',rfl,hstep⟩
  ·obtain⟨_,hx⟩:=hstop w (.refl _ _ w);obtain⟨hq,rfl,rfl⟩:=hmode.fin_inv trivial;obtain⟨a',hgo,m₂,hk⟩:=hx hwg;exact .inl (bookC ha hcom hwg hgo (.refl X.Wg w) hwg xbk_rd (tag':=.ke) (.ke hk) (.fin trivial hq) (.inl (by simp only[psi];omega)))
  ·obtain⟨a',w',es,hgo,⟨rfl,rfl⟩,hg'⟩:=hstep w (.refl _ _ w);exact .inl (idleC ha hcom hwg hmode hgo (.w4 hg') (by omega))
 |ke h=>
  rcases Goes.cases h with hstop|⟨m',rfl,hstep⟩
  ·obtain⟨_,a',hgo,m₂,hk⟩:=hstop w (.refl _ _ w);obtain⟨hq,rfl,rfl⟩:=hmode.fin_inv trivial;exact .inl (bookC ha hcom hwg hgo (.refl X.Wg w) hwg xbk_en (tag':=.acq) (.acq hk) (.fin trivial hq) (.inl (by simp only[psi];omega)))
  ·obtain⟨a',w',es,hgo,⟨rfl,rfl⟩,hg'⟩:=hstep w (.refl _ _ w);exact .inl (idleC ha hcom hwg hmode hgo (.ke hg') (by omega))
 |acq h=>
  rcases Goes.cases h with hstop|⟨m',rfl,hstep⟩
  ·obtain⟨_,a',hgo,hnx⟩:=hstop w (.refl _ _ w);obtain⟨hq,rfl,rfl⟩:=hmode.fin_inv trivial;have hJ:X.Joined w:=fun k hk=>by obtain⟨g,hg,hs⟩:=hcom.wk k hk;exact hs.res (hq k hk)
   have hrunT:=runT_crowd_go (P:=X.P) (sl:=sl) (i:=0) ha (by simpa using hgo);refine .inr ⟨_,_,hrunT,_,w,sl,a',fun i=>(D (i-1)).fuel,M 0,S 0,rfl,by simp[hcom.size],get_map_set_same _ _ _ (by rw[hcom.size];omega),hnx hJ,⟨fun i g hi hg=>?_,fun i hi=>?_⟩,joined hcom hq (fun g i a _ hi ha=>hcom.own.ti.pre 0 (Nat.zero_le _) i a hi ha) _ _,hcom.own.wlt,hcom.own.fr⟩
   ·rw[get_map_set _ _ _ _ (by omega)] at hg;obtain⟨y,hy,rfl⟩:=Option.map_eq_some_iff.1 hg;have hlt:i-1<X.n:=by have:=(Array.getElem?_eq_some_iff.1 hy).1;rw[hcom.size] at this;omega
    obtain⟨g',hg',hs⟩:=hcom.wk (i-1) hlt;rw[show i-1+1=i by omega,hy] at hg';cases hg';rw[hs.woken,Deaf_other t (by omega) _ g_of_ofEvents];have hd:=hcom.deafW (i-1) hlt;rw[show i-1+1=i by omega] at hd;rw[hd];exact hs.quits (hq (i-1) hlt)
   ·rw[Deaf_other t (g':=0) (by simp at hi;rw[hcom.size] at hi;omega) _ g_of_ofEvents];exact Deaf_absent fun x op hx e=>by have:=hcom.own.ti.gs x op hx;simp at hi;rw[hcom.size] at hi;omega
  ·obtain⟨a',w',es,hgo,⟨rfl,rfl⟩,hg'⟩:=hstep w (.refl _ _ w);exact .inl (idleC ha hcom hwg hmode hgo (.acq hg') (by omega))
end
end
section
open Go.Conc Go.ConcN
open Go.ConcR (KK wgBlock WgAt stA smA rd wr mk Payload DC0 Bk g_of_ofEvents)
section
variable [Payload]{X:Crew}{Next:(Loc→Prop)→(Loc→Prop)→Goroutine→World→Prop}
  {T0 j:Nat} {gs:Array Goroutine} {w w':World} {sl:Option (Nat×Nat)} {D:Nat→WD} {tag tag':XT} {f0 f' d0:Nat} {a a':Goroutine} {t:Trace} {M S:Nat→Loc→Prop} {st sm st' sm':Int} {es:Array Event}
theorem mode_blk{tg:CTag}(hm:Go.ConcN.Mode j D tg st sm)(e:tg=.blk):∃ i,i<j∧(D i).stage≠1:=by
 subst e;cases hm with
 |opn h1 _ _=>exact h1.elim
 |reg _ _ h3=>obtain⟨i,hi,h5⟩:=exists_counted h3;exact⟨i,hi,by omega⟩
 |last L _ h2 h3 _=>exact⟨L,h2,by omega⟩
 |fin h1 _=>exact h1.elim
theorem crowd_step(μ:Nat×Nat)(m:Machine)(t:Trace)(h:Inv X Next T0 μ m t) :
  ∃ m' ops,stepT X.P m=(.next m',ops)∧((∃ μ',Lt2 μ' μ∧Inv X Next T0 μ' m' (t++ops))∨DoneAt X Next m' (t++ops)):=by
 obtain⟨gs,w,sl,j,D,tag,f0,d0,a,st,sm,M,S,rfl,ha,hxs,hcom,hwg,hmode,rfl⟩:=h;have some1:∃(i:Nat) (g:Goroutine),gs[i]? = some g∧g.status=.running:=by
  rcases hxs.status with⟨hs,_⟩|⟨_,rfl⟩
  ·exact⟨0,a,ha,hs⟩
  ·obtain⟨i,hi,h1⟩:=mode_blk hmode rfl;obtain⟨g,hg,hs⟩:=hcom.wk i hi;exact⟨i+1,g,hg,hs.running_of h1⟩
 have hawake:∀ g∈gs,awake g:=by
  intro g hg tm;obtain⟨i,hi⟩:=Array.mem_iff_getElem?.1 hg;cases i with
  |zero=>rw[ha] at hi;cases hi;rcases hxs.status with⟨hs,_⟩|⟨hs,_⟩<;>rw[hs]<;>simp
  |succ i=>
   have hlt:i<j:=by have:=(Array.getElem?_eq_some_iff.1 hi).1;rw[hcom.size] at this;omega
   obtain⟨g',hg',hs⟩:=hcom.wk i hlt;rw[hi] at hg';cases hg';rcases hs.status with h|h<;>rw[h]<;>simp
 obtain⟨i,g,d,sl',hg,hrun,hstep⟩:=crowd_pick (P:=X.P) (w:=w) (sl:=sl) hawake some1;rw[hstep];have hxs':=hxs.rely (rely_at _ w d);have hcom':=hcom.at d;have hwg':WgAt X.ty X.Wg (w.at d) st sm:=hwg;cases i with
 |zero=>
  rw[ha] at hg;cases hg;rcases stepCaller (sl:=sl') ha hxs' hcom' hwg' hmode hrun with⟨m₁,ops,μ',h1,h2,h3⟩|⟨m₁,ops,h1,h2⟩
  ·exact⟨m₁,ops,h1,.inl ⟨μ',h2,h3⟩⟩
  ·exact⟨m₁,ops,h1,.inr h2⟩
 |succ i=>
  have hi:i<j:=by have:=(Array.getElem?_eq_some_iff.1 hg).1;rw[hcom.size] at this;omega
  obtain⟨m₁,ops,μ',h1,h2,h3⟩:=stepWorker (sl:=sl') ha hxs' hcom' hwg' hmode hi hg hrun;exact⟨m₁,ops,h1,.inl ⟨μ',h2,h3⟩⟩
theorem crowd_runs:∀(μ:Nat×Nat) (m:Machine) (t:Trace),Inv X Next T0 μ m t→∃ N m' t',runNT X.P N m t=(.next m',t')∧DoneAt X Next m' t':=by
 intro μ
 induction μ using(Prod.lex Nat.lt_wfRel Nat.lt_wfRel).wf.induction with
 |_ μ ih=>
  intro m t h;obtain⟨m',ops,hs,h'|h'⟩:=crowd_step μ m t h
  ·obtain⟨μ',hlt,hI⟩:=h';obtain⟨N,m'',t'',hr,hd⟩:=ih μ' hlt m' _ hI;exact⟨N+1,m'',t'',by simp only[runNT,hs];exact hr,hd⟩
  ·exact⟨1,m',_,by simp only[runNT,hs],h'⟩
theorem crowd_from{a:Goroutine}{w:World}{sl:Option (Nat×Nat)}{t:Trace}{M S:Loc→Prop}(hX:0<X.n)(h0:∀ op∈t,op.g=0)(hmk:∀ op∈t,op.act≠.mark .disable∧op.act≠.mark .enable∧op.act≠.mark (.release (stA X.Wg)))
  (hwg:WgAt X.ty X.Wg w 0 0) (hpay:PayAt X.C X.nC w) (hM:∀ l,M l∨S l→¬ X.Sy l∧∃ b,locBlk l=some b∧b<w.heap.size) (hC:∀ l,M l∨S l→∀ i,l≠cellAt X.C i) (hfr:Env (OldL X.w0) X.w0 w) (hO:∀ l,M l→¬ OldL X.w0 l) (hs:zRb X Next X.n M S a w) :
  ∃ N m' t',runNT X.P N (crowd #[a] w sl) t=(.next m',t')∧DoneAt X Next m' t':=by
 obtain⟨r,hr⟩:∃ r,X.n=r+1:=⟨X.n-1,by omega⟩;have hwlt:X.Wg<w.heap.size:=by unfold WgAt at hwg;exact(Array.getElem?_eq_some_iff.1 hwg).1
 have hown:Own X t.size (fun _=>M) (fun _=>S) 0 w t:=by refine⟨⟨fun g g' l hg hg' hne=>by omega,fun g g' l hg hg' hne=>by omega,fun g l _ h=>(hM l (.inl h)).1,fun g l _ h=>(hM l (.inr h)).1⟩,.lone h0 _ _,Nat.le_refl _,fun g _ l h=>(hM l h).2,fun i hi=>?_,hwlt,hpay,fun g _ l h=>hC l h,hfr,fun g _ l h=>hO l h⟩;obtain⟨op,ho,hoa⟩:=Option.map_eq_some_iff.1 hi;exact(hmk op (mem_of_getElem? ho)).2.2 hoa
 have hcom:Com X t.size 0 #[a] w t (fun _=>⟨0,0,0⟩) 0 (fun _=>M) (fun _=>S):=by
  refine⟨rfl,fun i hi=>by omega,hown,?_,fun i hi=>by omega,fun i hi=>by omega,fun i hi=>by omega⟩;have:=Deaf_still #[] 0 t fun op hop=>⟨(hmk op hop).1,(hmk op hop).2.1⟩
  simp only[Array.empty_append] at this;rw[this];rfl
 rw[hr] at hs;obtain⟨m,hk⟩:=hs;have hxs:XS X Next M S (.sp r 6) (X.n-(r+1)) m 0 a w:=.s6 (by omega) hk;rw[show X.n-(r+1)=0 by omega] at hxs;have hmode:Go.ConcN.Mode 0 (fun _=>(⟨0,0,0⟩:WD)) (.sp r 6) 0 0:=by have:=Go.ConcN.Mode.opn (j:=0) (D:=fun _=>(⟨0,0,0⟩:WD)) (tag:=.sp r 6) trivial (fun i hi=>by omega) (fun vs e=>by cases e);simpa[Vc,sumTo,pend] using this
 exact crowd_runs _ _ _ ⟨#[a],w,sl,0,_,.sp r 6,m,0,a,0,0,_,_,rfl,rfl,hxs,hcom,hwg,hmode,rfl⟩
end
end
end Go.Cx
