/- A part of the proof that ArrowSets returns true for every input: no further condition. -/
import Derived.Test.YtpdmgecbapmgdaaGreatGp6
import Derived.Maps.AppendAt
import Derived.Test.YtpdmgecbapmgdaaGreatGp5
import Derived.Test.YtpdmgecbapmgdaaGreatGp2
set_option linter.unusedSimpArgs false
set_option linter.unusedVariables false
set_option maxHeartbeats 4000000
set_option maxRecDepth 100000
namespace Go.Proofs.YtpdmgecbapmgdaaGreat
section
open Go.RowKit
abbrev yr(w:World)(base:Nat)(v:Value)(L:List (List Nat)):Prop:=zS w base base v L
theorem yNb{w:World}{base e size n:Nat}{v:Value}{xs:List Value}(h:w.ownsRow base e size v n xs)(hn:n≠0):∃ g cap,v=.slice (some ⟨g,0,none⟩) n cap:=by
 obtain⟨_,⟨_,h⟩|⟨g,cap,cur,rfl,_⟩⟩:=h
 ·exact absurd h hn
 ·exact⟨g,cap,rfl⟩
theorem yy{w:World}{base size n:Nat}{e:TypeId}{v:Value}{xs:List Value}(h:w.ownsRow base e size v n xs)(o:Obj):(w.alloc o).ownsRow base e size v n xs:=zu h ((Below.refl _ _).alloc (Nat.le_refl _) o)
theorem ylb{w w1 w2:World}{bc:Nat}{row:Option Nat}(h:w.grownBy w1 (some bc))(hg:w1.grownBy w2 row)(hr:∀ g,row=some g→w.heap.size≤g):w.grownBy w2 (some bc):=
 ⟨hg.os.trans h.os,hg.tape.trans h.tape,hg.output.trans h.output,Nat.le_trans h.size hg.size,fun k hk hne=>(hg.block k (Nat.lt_of_lt_of_le hk h.size) (fun e=>by have:=hr k e.symm;omega)).trans (h.block k hk hne)⟩
theorem ymb{w w1 w2:World}{bc:Nat}(h:w.grownBy w1 (some bc))(hb:Below w1.heap.size w1 w2):w.grownBy w2 (some bc):=ylb h (yk hb) (fun g e=>by cases e)
theorem below_one(W:World)(X:Obj):Below W.heap.size W (W.alloc X):=(Below.refl _ _).alloc (Nat.le_refl _) _
theorem ymc{n:Nat}(h:n≤9):2 ^ n≤512:=Nat.pow_le_pow_right (by omega) h
def chs:List Nat→List (List Nat)
 | []=>[[]]
 |a::t=>[]::((chs t).map (fun x=>a::x)++(chs t).tail)
theorem yec(l:List Nat):chs l=[]::(chs l).tail:=by cases l<;>rfl
theorem mem_chs:∀{l x:List Nat},x∈chs l↔x.Sublist l
 | [],x=>by simp[chs]
 |a::t,x=>by
  constructor
  ·intro hx;rw[chs] at hx;rcases List.mem_cons.1 hx with rfl|hx
   ·exact List.nil_sublist _
   ·rcases List.mem_append.1 hx with hx|hx
    ·obtain⟨y,hy,rfl⟩:=List.mem_map.1 hx;exact(mem_chs.1 hy).cons_cons a
    ·exact(mem_chs.1 (List.mem_of_mem_tail hx)).cons a
  ·intro hx;rw[chs];cases hx with
   |cons _ hx=>
    have h:=mem_chs.2 hx;rw[yec t] at h;rcases List.mem_cons.1 h with rfl|h2
    ·exact List.mem_cons_self
    ·exact List.mem_cons_of_mem _ (List.mem_append_right _ h2)
   |cons_cons _ hx=>exact List.mem_cons_of_mem _ (List.mem_append_left _ (List.mem_map.2 ⟨_,mem_chs.2 hx,rfl⟩))
def Lx:List Nat→List Nat→Prop
 |_,[]=>False
 | [],_::_=>True
 |a::x,b::y=>a<b∨(a=b∧Lx x y)
theorem Lx.asymm:∀{x y:List Nat},Lx x y→Lx y x→False
 | [],[],h,_=>h
 | [],_::_,_,h=>h
 |_::_,[],h,_=>h
 |a::x,b::y,h,g=>by
  rcases h with h|⟨rfl,h⟩
  ·rcases g with g|⟨g,_⟩<;>omega
  ·rcases g with g|⟨_,g⟩
   ·omega
   ·exact h.asymm g
theorem yrb:∀{l:List Nat},l.Pairwise (· < ·)→(chs l).Pairwise Lx
 | [],_=>by simp[chs]
 |a::t,h=>by
  have h1:=yrb (List.pairwise_cons.1 h).2;have h2:=(List.pairwise_cons.1 h).1;have h3:=h1;rw[yec t] at h3;obtain⟨h4,h5⟩:=List.pairwise_cons.1 h3;rw[chs];refine List.pairwise_cons.2 ⟨fun y hy=>?_,List.pairwise_append.2 ⟨?_,h5,fun x hx y hy=>?_⟩⟩
  ·rcases List.mem_append.1 hy with hy|hy
   ·obtain⟨z,_,rfl⟩:=List.mem_map.1 hy;exact trivial
   ·exact h4 y hy
  ·exact List.pairwise_map.2 (h1.imp fun h=>.inr ⟨rfl,h⟩)
  ·obtain⟨z,_,rfl⟩:=List.mem_map.1 hx;have g1:=h4 y hy;have g2:=mem_chs.1 (List.mem_of_mem_tail hy);cases y with
   |nil=>exact g1.elim
   |cons b y=>exact .inl (h2 b (g2.subset List.mem_cons_self))
theorem yQc{l:List Nat}{i:Nat}(hi:i<(chs l).length):((chs l).getD i []).Sublist l:=by
 refine mem_chs.1 ?_;have:(chs l).getD i []=(chs l)[i]:=by simp[List.getD_eq_getElem?_getD,hi]
 rw[this];exact List.getElem_mem _
def pre(l:List Nat):Nat→List (List Nat)
 |0=>[[]]
 |i+1=>pre l i++(chs (l.drop (i+1))).map (fun x=>l.getD i 0::x)
theorem yXb(l:List Nat):∀ i,i≤l.length→chs l=pre l i++(chs (l.drop i)).tail
 |0,_=>by rw[List.drop_zero,pre];exact yec l
 |i+1,hi=>by
  rw[yXb l i (by omega),pre,List.append_assoc]
  congr 1
  rw[List.drop_eq_getElem_cons (by omega:i<l.length),chs];simp[List.getD_eq_getElem?_getD,show i<l.length by omega]
theorem pre_all(l:List Nat):pre l l.length=chs l:=by have:=yXb l l.length (Nat.le_refl _);rw[this];simp[chs]
theorem chs_len:∀ l:List Nat,(chs l).length=2 ^ l.length
 | []=>rfl
 |a::t=>by have h:=chs_len t;have hp:=Nat.two_pow_pos t.length;rw[chs,List.length_cons,List.length_append,List.length_map,List.length_tail,h,List.length_cons,Nat.pow_succ];omega
theorem pre_len{l:List Nat}{i:Nat}(hi:i≤l.length):(pre l i).length≤2 ^ l.length:=by rw[←chs_len,yXb l i hi,List.length_append];omega
def preK(l:List Nat)(i k:Nat):List (List Nat):=pre l i++((chs (l.drop (i+1))).take k).map (fun x=>l.getD i 0::x)
theorem preK_zero(l:List Nat)(i:Nat):preK l i 0=pre l i:=by simp[preK]
theorem preK_next{l:List Nat}{i k:Nat}(hk:k<(chs (l.drop (i+1))).length):preK l i (k+1)=preK l i k++[l.getD i 0::(chs (l.drop (i+1))).getD k []]:=by
 unfold preK;rw[List.take_succ_eq_append_getElem hk,List.map_append,←List.append_assoc]
 congr 1
 simp[List.getD_eq_getElem?_getD,hk]
theorem preK_all(l:List Nat)(i:Nat):preK l i (chs (l.drop (i+1))).length=pre l (i+1):=by simp[preK,pre]
theorem ListAt.grown{w w':World}{base:Nat}{v:Value}{x:List Nat}{row:Option Nat}(h:ListAt w base v x)(hg:w.grownBy w' row)(hr:∀ g,row=some g→∃ c t fz,w.heap[g]? = some (.cells c t fz)∧t=27):ListAt w' base v x:=by
 refine World.ownsRow.kept h hg ?_;cases hv:v.ownBlock with
 |none=>exact .inl rfl
 |some g=>
  refine .inr fun e=>?_
  obtain⟨c,t,fz,h1,h2⟩:=zha h g hv;obtain⟨c',t',fz',h3,h4⟩:=hr g e.symm;rw[h1] at h3;cases h3;rw[h2] at h4;exact absurd h4 (by decide)
theorem yr.below{w w':World}{base:Nat}{v:Value}{L:List (List Nat)}(h:yr w base v L)(hb:Below w.heap.size w w'):yr w' base v L:=by obtain⟨vs,h1,h2⟩:=h;exact⟨vs,zu h1 hb,fun k hk=>(h2 k hk).below hb⟩
theorem yr.more{w':World}{base:Nat}{v' u:Value}{L:List (List Nat)}{x:List Nat}{vs:List Value}(h1:w'.ownsRow base 27 1 v' (L.length+1) (vs++[u]))(hvs:vs.length=L.length)(h2:∀ k,k<L.length→ListAt w' base (vs.getD k undef) (L.getD k []))(h3:ListAt w' base u x):yr w' base v' (L++[x]):=by
 refine⟨vs++[u],by rw[List.length_append];exact h1,fun k hk=>?_⟩;rw[List.length_append,List.length_singleton] at hk;by_cases e:k=L.length
 ·subst e;have a1:(vs++[u]).getD L.length undef=u:=by rw[←hvs];simp[List.getD_eq_getElem?_getD]
  have a2:(L++[x]).getD L.length []=x:=by simp[List.getD_eq_getElem?_getD]
  rw[a1,a2];exact h3
 ·have hk':k<L.length:=by omega
  have a1:(vs++[u]).getD k undef=vs.getD k undef:=by simp[List.getD_eq_getElem?_getD,List.getElem?_append_left,hvs,hk']
  have a2:(L++[x]).getD k []=L.getD k []:=by simp[List.getD_eq_getElem?_getD,List.getElem?_append_left,hk']
  rw[a1,a2];exact h2 k hk'
section
variable {F:Fence}{nF:Nat}{P:Program}{ops:Array Oper}{Q:Exit→Act→World→Prop}
theorem yd{j:Nat}{o:Oper}{K:Act→World→Prop}{a:Act}{w:World}(ho:ops[j]? = some o)(hg:o.guard=none)(s x:Operand)(t:TypeId)(hop:o.op=Op.call {callee:=Callee.builtin Builtin.append,args:=#[s,x],argTypes:=#[t,t]})
  (base:Nat) (e:TypeId) (i:TypeInfo) (z:Value) (size bytes:Nat) (h1:P.underlying t=some (.slice e)) (h2:P.info? e=some i) (h3:i.zero=some z) (h4:i.size=size) (h5:i.bytes=bytes) (h6:z.cells.size=size) (h7:0<size)
  (v:Value) (k:Nat) (xs:List Value) (hs:a.eval s=v) (hown:w.ownsRow base e size v k xs) (u:Value) (base2 m:Nat) (news:List Value) (hx:a.eval x=u) (hrow:w.ownsRow base2 e size u m news)
  (h1c:∀ u∈news,u.oneCell'=true) (b1:k+m≤maxLen) (b2:(k+m)*bytes≤140737488355328) (b3:base≤w.heap.size)
  (hK:∀ v' w',w'.ownsRow base e size v' (k+m) (xs++news)→w.grownBy w' v.ownBlock→(v'.ownBlock=v.ownBlock∨v'.ownBlock=some w.heap.size)→K (a.put o.dst v') w'):wpOpIn F nF P ops Q j K a w:=by
 refine wpOpIn_step ho fun K' hK'=>?_
 rw[if_pos (by simp[Region.wanted,hg])];obtain⟨v',w',hrun,r1,r2,r4⟩:∃ v' w',(Builtin.append_ #[t,t] o.type #[v,u]).run P w=.ok v' w'∧w'.ownsRow base e size v' (k+m) (xs++news)∧w.grownBy w' v.ownBlock∧(v'.ownBlock=v.ownBlock∨v'.ownBlock=some w.heap.size):=by
  rcases hrow.2 with⟨rfl,rfl⟩|⟨g,cap,cur,rfl,_,_,_⟩
  ·have hn:news=[]:=List.eq_nil_of_length_eq_zero (by simpa using hrow.1);subst hn;exact⟨v,w,run_append_owned_none w base t o.type e i size h1 h2 v k xs hown,by simpa using hown,⟨rfl,rfl,rfl,Nat.le_refl _,fun _ _ _=>rfl⟩,.inl rfl⟩
  ·obtain⟨v',w',q1,q2,q3,_,q5⟩:=run_append_own_at (P:=P) w base t o.type e i z size bytes h1 h2 h3 h4 h5 h6 h7 v k xs hown ⟨g,0,none⟩ m cap news hrow.1 (fun j u hj=>by have hlt:j<news.length:=(List.getElem?_eq_some_iff.1 hj).1;rw[addr_add,Nat.zero_add,hrow.cellAt j (by rw[←hrow.1];exact hlt),hj]) h1c b1 b2 b3;exact⟨v',w',q1,q2,q3,q5⟩
 unfold Oper.wpIn;refine⟨?_,?_⟩
 ·simp[Oper.about,hop,resolve,Target.leads,Sem.run_pure]
 ·rw[Oper.semAt_plain F _ _ (by rw[hop];intro c hc';cases hc')];simp[execOp,hop,resolve,invoke,builtin,hs,hx,hrun,Result.andThen];exact hK' _ _ (hK v' w' r1 r2 r4)
end
theorem yHc(l:List Nat):∀ i,0<(pre l i).length
 |0=>by simp[pre]
 |i+1=>by have:=yHc l i;rw[pre,List.length_append];omega
def yFb(L:List (List Nat))(W:World)(e:Ending)(w':World):Prop:=∃ v,e=.returned v∧yr w' W.heap.size v L∧Below W.heap.size W w'
theorem choices_step(xs:List Nat)(m:Nat)(hm:xs.length=m)(hm8:m≤9)(LA:Option Addr)(lc:Nat)(hlc:m≤lc)(W:World)(hi:Hid (zca W LA m fun k=>((xs.getD k 0:Nat):Int)))
  (hIH:Hid (∀(i:Nat) (LB:Option Addr) (kc:Nat) (w:World),i<m→m-(i+1)≤kc→zca w LB (m-(i+1)) (fun k=>(((xs.drop (i+1)).getD k 0:Nat):Int))→CallsIn Fc 0 Tryz.prog 113 #[.slice LB (m-(i+1)) kc] w (yFb (chs (xs.drop (i+1))) w))) :
  CallsIn Fc 0 Tryz.prog 113 #[.slice LA m lc] W (yFb (chs xs) W):=by
 obtain⟨i0,hi0,hz0,hz1,hz2⟩:=info_parts it3;have HI0:=Lib.hid hi0;have HZ0:=Lib.hid hz0;have HZ1:=Lib.hid hz1;have HZ2:=Lib.hid hz2;obtain⟨j0,hj0,hy0,hy1,hy2⟩:=info_parts it27;have HJ0:=Lib.hid hj0;have HY0:=Lib.hid hy0;have HY1:=Lib.hid hy1;have HY2:=Lib.hid hy2;clear hi0 hz0 hz1 hz2 hj0 hy0 hy1 hy2;gi_enter Tryz.func113,Tryz.ntmps113;gi_wp2
 gi_loopw [3,4] (fun sl x wr=>∃ i:Nat,i≤m∧x=.int .i64 i∧yr wr W.heap.size sl (pre xs i)∧Below W.heap.size W wr) (fun _ x _=>m-(intOf x).toNat)
 case atStart=>
  refine⟨0,by omega,rfl,?_,?_⟩
  ·exact⟨[.slice none 0 0],World.ownsRow_lit W #[.slice none 0 0] 1 (Nat.le_refl _) (by simp[maxLen]) rfl,fun k hk=>by
    have hk:k<1:=hk;obtain rfl:k=0:=by omega
    exact ListAt.nil _ _⟩
  ·exact below_one _ _
 case round=>
  obtain⟨i,hi',rfl,hls,hb⟩:=hrel;have HLS:=Lib.hid hls;have HB:=Lib.hid hb;clear hls hb;by_cases hlt:i<m
  ·obtain⟨b,o,hA,hq⟩:=hi.out i hlt;subst hA
   replace hq:W.cell? ⟨b,o+i,none⟩=some (.int .i64 ((xs.getD i 0:Nat):Int)):=hq
   have HQ:=Lib.hid hq;clear hq;have hne:(0:Int)≤(i:Int)+1:=by omega
   have hle:(i:Int)+1≤(m:Int):=by omega
   have hcall:∀(LB:Option Addr) (n' kc:Nat) w,Below W.heap.size W w→(n'=0∨LB=some ⟨b,o+(i+1),none⟩)→n'=m-(i+1)→n'≤kc→CallsIn Fc 0 Tryz.prog 113 #[.slice LB n' kc] w (yFb (chs (xs.drop (i+1))) w):=fun LB n' kc w hb hLB hn hkc=>by
    subst hn;refine hIH.out i _ _ w hlt hkc fun k hk=>?_
    obtain⟨b',o',e,q⟩:=hi.out (i+1+k) (by omega);cases e;have q:=Below.old hb q;refine⟨b,o+(i+1),?_,?_⟩
    ·rcases hLB with h|h
     ·omega
     ·exact h
    ·simp only[List.getD_eq_getElem?_getD,List.getElem?_drop] at q ⊢;rw[Nat.add_assoc o (i+1) k];exact q
   have HCA:=Lib.hid hcall;clear hcall;have hlen:=chs_len (xs.drop (i+1));have hpo:2 ^ (xs.drop (i+1)).length≤512:=ymc (by rw[List.length_drop];omega);have hpos:=Nat.two_pow_pos (xs.drop (i+1)).length;rw[←hlen] at hpo hpos;clear hlen;have hpk:∀ k,k<(chs (xs.drop (i+1))).length→preK xs i (k+1)=preK xs i k++[xs.getD i 0::(chs (xs.drop (i+1))).getD k []]:=fun k hk=>preK_next hk
   have hp0:=preK_zero xs i;have hpa:=preK_all xs i;have hpl:∀ k,k<(chs (xs.drop (i+1))).length→(preK xs i k).length≤512:=fun k hk=>by
    have h1:=pre_len (l:=xs) (i:=i+1) (by omega);have h2:(preK xs i k).length≤(pre xs (i+1)).length:=by simp only[preK,pre,List.length_append,List.length_map,List.length_take];omega
    have h3:=ymc (n:=xs.length) (by omega);omega
   have hx8:∀ k,k<(chs (xs.drop (i+1))).length→((chs (xs.drop (i+1))).getD k []).length≤9:=fun k hk=>by have h1:=(yQc hk).length_le;rw[List.length_drop] at h1;omega
   rw[←hp0] at HLS;have hnn:∀ k,0<(preK xs i k).length:=fun k=>by have:=yHc xs i;simp only[preK,List.length_append];omega
   have HPK:=Lib.hid (And.intro hpk (And.intro hpa (And.intro hpl (And.intro hx8 hnn))));clear hpk hpa hpl hx8 hnn hp0;generalize preK xs i=PK at *;generalize chs (xs.drop (i+1))=LR at *;obtain⟨R,hR⟩:∃ R,LR.length=R:=⟨_,rfl⟩;rw[hR] at hpo hpos HPK;obtain⟨li,hli⟩:∃ li,xs.getD i 0=li:=⟨_,rfl⟩;rw[hli] at HPK HQ;have HR:=Lib.hid hR;clear hR hli;obtain⟨cv,hcv⟩:∃ cv,cv=lc:=⟨_,rfl⟩;have HCV:=Lib.hid hcv;clear hcv;rcases Classical.em (lc=i+1) with hcap|hcap
   all_goals try subst hcap
   all_goals gi_wp2_with (gi_at_call 113;refine(HCA.out _ _ _ wr HB.out (by first|exact .inr rfl|(left;omega)) (by omega) (by omega)).mono ?_;rintro e w2 ⟨vr,rfl,hlr,hb2⟩;have HLR:=Lib.hid hlr;have HB2:=Lib.hid hb2;clear hlr hb2)
   all_goals
    obtain⟨sz,hsz⟩:∃ sz,wr.heap.size=sz:=⟨_,rfl⟩;obtain⟨vsr,hro,hre⟩:=HLR.out;rw[HR.out,hsz] at hro;rw[HR.out] at hre;simp only[hsz] at hre;have hWs:=HB.out.size;rw[hsz] at hWs;have HSZ:=Lib.hid hsz;clear hsz;obtain⟨gr,rc,rfl⟩:=yNb hro (by omega);have hgr:=hro.lt gr rfl;have hrc:R≤rc:=by
     rcases hro.2 with⟨_,e⟩|⟨g,cap,cur,e,_,_,q,_⟩
     ·omega
     ·cases e;exact q
    have HRO:=Lib.hid hro;have HRE:=Lib.hid hre;clear hro hre HLR
    gi_loopw [3,6] (fun sl y wr3=>∃ k:Nat,k≤R∧y=.int .i64 k∧yr wr3 W.heap.size sl (PK k)∧wr3.ownsRow sz 27 1 (.slice (some ⟨gr,0,none⟩) R rc) R vsr∧(∀ k,k<R→ListAt wr3 sz (vsr.getD k undef) (LR.getD k []))∧sl.ownBlock≠some gr∧Below W.heap.size W wr3) (fun _ y _=>R-(intOf y).toNat)
    case atStart=>refine⟨0,by omega,rfl,HLS.out.below HB2.out,HRO.out,HRE.out,fun e=>?_,HB.out.trans (HB2.out.mono HB.out.size)⟩;obtain⟨vs,h1,_⟩:=HLS.out;have h5:=(h1.lt gr e).2;have h6:=HSZ.out;omega
    case round=>
     obtain⟨k,hk,rfl,hls,hro,hre,hne,hb⟩:=hrel;obtain⟨vs,hvo,hve⟩:=hls;have HB3:=Lib.hid hb;clear hb HLS HB HB2 HRO HRE;by_cases hkR:k<R
     ·have hcell:∃ LB mk ck x,LR.getD k []=x∧vsr.getD k undef=.slice LB mk ck∧ListAt wr sz (.slice LB mk ck) x∧x.length=mk:=by obtain⟨LB,ck,e,_,_⟩:=(hre k hkR).shape;exact⟨LB,_,ck,_,rfl,e,e▸hre k hkR,rfl⟩
      obtain⟨LB,mk,ck,x,hx,hu,hla,hxl⟩:=hcell;have hmk8:mk≤9:=by rw[←hxl,←hx];exact HPK.out.2.2.2.1 k hkR
      have hN:=HPK.out.2.2.1 k hkR;have hN0:=HPK.out.2.2.2.2 k;obtain⟨N,hNe⟩:∃ N,(PK k).length=N:=⟨_,rfl⟩;rw[hNe] at hvo hN hN0;obtain⟨go,oc,rfl⟩:=yNb hvo (by omega);have hgo:=hvo.lt go rfl;have hgr2:=(hro.lt gr rfl).2;have hgn:go≠gr:=fun e=>hne (by rw[e];rfl)
      have hgo36:∀ g,some go=some g→∃ c t fz,wr.heap[g]? = some (.cells c t fz)∧t=27:=fun g e=>zha hvo g e
      have hcr:wr.cell? ⟨gr,k,none⟩=some (.slice LB mk ck):=by have h1:=hro.1;rw[hro.cellAt k (by omega),←hu];simp[List.getD_eq_getElem?_getD,show k<vsr.length by omega]
      have HVO:=Lib.hid hvo;have HCR:=Lib.hid hcr;gi_wp2;refine zsa (R:=[.val 25 (.slice (some ⟨go,0,none⟩) N oc),.val 26 (.slice (some ⟨b,o,none⟩) m cv),.val 27 (.int .i64 (i:Int)),.val 28 (.pointer (some ⟨b,o+i,none⟩)),.val 29 (.int .i64 (li:Nat)),.any 30,.val 31 (.slice (some ⟨gr,0,none⟩) R rc),.val 32 (.int .i64 (k:Int)),.val 33 (.pointer (some ⟨gr,k,none⟩)),.val 34 (.slice LB mk ck),.any 35,.any 36,.any 37,.any 3])
       (I:=fun L V w=>wr.grownBy w (some go)∧(L 12=false→w.ownsRow W.heap.size 27 1 (.slice (some ⟨go,0,none⟩) N oc) N vs)∧(L 5=true→L 10=false→w.ownsRow wr.heap.size 3 1 (V 5) 1 [intV li])∧(L 10=true→ListAt w wr.heap.size (V 10) (li::x))∧(L 11=true→L 12=false→w.ownsRow wr.heap.size 27 1 (V 11) 1 [V 10]∧(V 10).oneCell'=true)∧(L 12=true→w.ownsRow W.heap.size 27 1 (V 12) (N+1) (vs++[V 10])∧(V 12).ownBlock≠some gr)∧(L 13=false→V 13=.slice (some ⟨go,0,none⟩) N oc)∧(L 13=true→V 13=V 12)) (z:=39) (by kernel_rfl) (by kernel_rfl) rfl (by kernel_rfl) rfl rfl ⟨⟨rfl,rfl,rfl,Nat.le_refl _,fun _ _ _=>rfl⟩,fun _=>HVO.out,fun h=>(by cases h),fun h=>(by cases h),fun h=>(by cases h),fun h=>(by cases h),fun _=>rfl,fun h=>(by cases h)⟩ ?_ ?_
      ·intro j L V a w hj hno hdep hah hd hz hold hv hV hI;have HI:=Lib.hid hI;have s0:=zc hz (hold 0 (by kernel_rfl)) (by omega);rw[←HCV.out] at s0;have s4:=zc hz (hold 4 (by kernel_rfl)) (by omega);have s5:=zc hz (hold 5 (by kernel_rfl)) (by omega);have s6:=zc hz (hold 6 (by kernel_rfl)) (by omega);clear hold;have hjs:j=0∨j=1∨j=2∨j=3∨j=4∨j=5∨j=6∨j=7∨j=8∨j=9∨j=10∨j=11∨j=12∨j=13:=by have:j<14:=hj;omega
       rcases hjs with rfl|rfl|rfl|rfl|rfl|rfl|rfl|rfl|rfl|rfl|rfl|rfl|rfl|rfl
       ·have h13:=hah 13 (by kernel_rfl) rfl;have f3:=zc hz (hV 13 3 rfl) (by omega);rw[HI.out.2.2.2.2.2.2.1 h13] at f3;clear hdep hah hv hV hno hI;refine wpOpIn_step rfl fun K hK=>?_
        go_simp;exact hK _ _ ⟨rfl,rfl,HI.out⟩
       ·clear hdep hah hv hV hno hI;refine wpOpIn_step rfl fun K hK=>?_
        go_simp;exact hK _ _ ⟨rfl,rfl,HI.out⟩
       ·clear hdep hah hv hV hno hI;refine wpOpIn_step rfl fun K hK=>?_
        go_simp;exact hK _ _ ⟨rfl,rfl,HI.out⟩
       ·have f26:=zc hz (hv 1 26 _ (by kernel_rfl) rfl) (by omega);have f27:=zc hz (hv 2 27 _ (by kernel_rfl) rfl) (by omega);have h9:=hlt;clear hdep hah hv hV hno hI;refine wpOpIn_step rfl fun K hK=>?_
        go_simp;exact hK _ _ ⟨rfl,rfl,HI.out⟩
       ·have f28:=zc hz (hv 3 28 _ (by kernel_rfl) rfl) (by omega);have hbW:Below W.heap.size W w:=HB3.out.grown HI.out.1 HB3.out.size (fun g e=>by cases e;exact hgo.1);have q0:=Below.old hbW HQ.out;clear hdep hah hv hV hno hI;refine wpOpIn_step rfl fun K hK=>?_
        go_simp;exact hK _ _ ⟨rfl,rfl,HI.out⟩
       ·have f29:=zc hz (hv 4 29 _ (by kernel_rfl) rfl) (by omega);have h10:=hah 10 (by kernel_rfl) rfl;have h11:=hah 11 (by kernel_rfl) rfl;have h12:=hah 12 (by kernel_rfl) rfl;clear hdep hah hv hV hno hI;refine wpOpIn_step rfl fun K hK=>?_
        go_simp;exact hK _ _ ⟨rfl,_,rfl,⟨ymb HI.out.1 ((Below.refl _ _).alloc (Nat.le_refl _) _),fun h=>yy (HI.out.2.1 h) _,fun _ _=>World.ownsRow_lit w #[intV li] 1 HI.out.1.size (by simp[maxLen]) rfl,fun h=>absurd h (by show¬ L 10=true;rw[h10];simp),fun h=>absurd h (by show¬ L 11=true;rw[h11];simp),fun h=>absurd h (by show¬ L 12=true;rw[h12];simp),HI.out.2.2.2.2.2.2.1,HI.out.2.2.2.2.2.2.2⟩⟩
       ·clear hdep hah hv hV hno hI;refine wpOpIn_step rfl fun K hK=>?_
        go_simp;exact hK _ _ ⟨rfl,rfl,HI.out⟩
       ·clear hdep hah hv hV hno hI;refine wpOpIn_step rfl fun K hK=>?_
        go_simp;exact hK _ _ ⟨rfl,rfl,HI.out⟩
       ·have f31:=zc hz (hv 6 31 _ (by kernel_rfl) rfl) (by omega);have f32:=zc hz (hv 7 32 _ (by kernel_rfl) rfl) (by omega);have h9:=hkR;clear hdep hah hv hV hno hI;refine wpOpIn_step rfl fun K hK=>?_
        go_simp;exact hK _ _ ⟨rfl,rfl,HI.out⟩
       ·have f33:=zc hz (hv 8 33 _ (by kernel_rfl) rfl) (by omega);have q0:w.cell? ⟨gr,k,none⟩=some (.slice LB mk ck):=HI.out.1.cell hcr (fun e=>hgn (Option.some.inj e).symm);clear hdep hah hv hV hno hI;refine wpOpIn_step rfl fun K hK=>?_
        go_simp;exact hK _ _ ⟨rfl,rfl,HI.out⟩
       ·have k5:=hdep 5 (by kernel_rfl) rfl;have f30:=zc hz (hV 5 30 rfl) (by omega);have f34:=zc hz (hv 9 34 _ (by kernel_rfl) rfl) (by omega);have h11:=hah 11 (by kernel_rfl) rfl;have h12:=hah 12 (by kernel_rfl) rfl;have h13:=hah 13 (by kernel_rfl) rfl;have h10:L 10=false:=hno rfl;have ho:=HI.out.2.2.1 k5 h10;have hla2:=hla.grown HI.out.1 hgo36;refine yd rfl rfl _ _ 27 rfl wr.heap.size 3 i0 (.int .i64 0) 1 8 ut27 HI0.out HZ0.out HZ1.out HZ2.out rfl (by decide) (V 5) 1 [intV li] (hV 5 30 rfl) ho (.slice LB mk ck) sz mk (x.map intV) (hv 9 34 _ (by kernel_rfl) rfl) (by have h7:w.ownsRow sz 3 1 (.slice LB mk ck) x.length (x.map intV):=hla2;rw[hxl] at h7;exact h7) (by simp[Value.oneCell']) (by simp[maxLen];omega) (by omega) HI.out.1.size ?_;intro v' w' ho' hg' _
        have hlo:=fun g (hg:(V 5).ownBlock=some g)=>(ho.lt g hg).1
        exact⟨hd,_,rfl,ylb HI.out.1 hg' hlo,fun h=>(HI.out.2.1 h).kept hg' (.inr fun e=>by have h5:=hlo go e.symm;have h6:=hgo.2;omega),fun _ h=>(by cases h),fun _=>(by show w'.ownsRow _ 3 1 v' (li::x).length _;rw[List.length_cons,hxl,Nat.add_comm mk 1];exact ho'),fun h=>absurd h (by show¬ L 11=true;rw[h11];simp),fun h=>absurd h (by show¬ L 12=true;rw[h12];simp),HI.out.2.2.2.2.2.2.1,HI.out.2.2.2.2.2.2.2⟩
       ·have k10:=hdep 10 (by kernel_rfl) rfl;have f35:=zc hz (hV 10 35 rfl) (by omega);have h12:=hah 12 (by kernel_rfl) rfl;obtain⟨LA',lc',e10,_,_⟩:=(HI.out.2.2.2.1 k10).shape;rw[List.length_cons,hxl] at e10;rw[e10] at f35;clear hdep hah hv hV hno hI;refine wpOpIn_step rfl fun K hK=>?_
        go_simp;exact hK _ _ ⟨rfl,_,rfl,⟨ymb HI.out.1 ((Below.refl _ _).alloc (Nat.le_refl _) _),fun h=>yy (HI.out.2.1 h) _,fun h h'=>yy (HI.out.2.2.1 h h') _,fun h=>(HI.out.2.2.2.1 h).below ((Below.refl _ _).alloc (Nat.le_refl _) _),fun _ _=>(by show World.ownsRow _ _ _ _ _ _ [V 10]∧(V 10).oneCell'=true;rw[e10];exact⟨World.ownsRow_lit w #[_] 1 HI.out.1.size (by simp[maxLen]) rfl,rfl⟩),fun h=>absurd h (by show¬ L 12=true;rw[h12];simp),HI.out.2.2.2.2.2.2.1,HI.out.2.2.2.2.2.2.2⟩⟩
       ·have f25:=zc hz (hv 0 25 _ (by kernel_rfl) rfl) (by omega);have k11:=hdep 11 (by kernel_rfl) rfl;have f36:=zc hz (hV 11 36 rfl) (by omega);have h13:=hah 13 (by kernel_rfl) rfl;have h12:L 12=false:=hno rfl;have ho:=HI.out.2.1 h12;obtain⟨hrow,hone⟩:=HI.out.2.2.2.2.1 k11 h12;refine yd rfl rfl _ _ 40 rfl W.heap.size 27 j0 (.slice none 0 0) 1 24 ut40 HJ0.out HY0.out HY1.out HY2.out rfl (by decide) (.slice (some ⟨go,0,none⟩) N oc) N vs (hv 0 25 _ (by kernel_rfl) rfl) ho (V 11) wr.heap.size 1 [V 10] (hV 11 36 rfl) hrow (by simpa using hone) (by simp[maxLen];omega) (by omega) (Nat.le_trans HB3.out.size HI.out.1.size) ?_;intro v' w' ho' hg' hob
        exact⟨hd,_,rfl,⟨hg'.os.trans HI.out.1.os,hg'.tape.trans HI.out.1.tape,hg'.output.trans HI.out.1.output,Nat.le_trans HI.out.1.size hg'.size,fun p hp hne=>(hg'.block p (Nat.lt_of_lt_of_le hp HI.out.1.size) hne).trans (HI.out.1.block p hp hne)⟩,fun h=>(by cases h),fun h h'=>(HI.out.2.2.1 h h').kept hg' (.inr fun e=>by have h5:=((HI.out.2.2.1 h h').lt go e).1;have h6:=hgo.2;omega),fun h=>(HI.out.2.2.2.1 h).grown hg' (fun g e=>zha ho g e),fun _ h=>(by cases h),fun _=>⟨ho',fun e=>(by rcases hob with h|h;(exact hgn (Option.some.inj (h.symm.trans e)));(have h5:=Option.some.inj (h.symm.trans e);have h6:=HI.out.1.size;omega))⟩,HI.out.2.2.2.2.2.2.1,fun h=>absurd h (by show¬ L 13=true;rw[h13];simp)⟩
       ·have k12:=hdep 12 (by kernel_rfl) rfl;have f37:=zc hz (hV 12 37 rfl) (by omega);clear hdep hah hv hV hno hI;refine wpOpIn_step rfl fun K hK=>?_
        go_simp;exact hK _ _ ⟨rfl,_,rfl,⟨HI.out.1,HI.out.2.1,HI.out.2.2.1,HI.out.2.2.2.1,HI.out.2.2.2.2.1,HI.out.2.2.2.2.2.1,fun h=>(by cases h),fun _=>rfl⟩⟩
      ·intro L V w5 hL hI;have e13:=hI.2.2.2.2.2.2.2 (hL 13 rfl);obtain⟨hF,hFn⟩:=hI.2.2.2.2.2.1 (hL 12 rfl);have hD:=hI.2.2.2.1 (hL 10 rfl);have hA:=hI.1;rw[←e13] at hF hFn;clear hI;have hnew:yr w5 W.heap.size (V 13) (PK (k+1)):=by rw[HPK.out.1 k hkR,hx];exact yr.more (vs:=vs) (by rw[hNe];exact hF) (by rw[hNe];have:=HVO.out.1;omega) (fun k' hk'=>(hve k' hk').grown hA hgo36) (hD.mono HB3.out.size)
       have hro5:=hro.kept hA (.inr fun e=>hgn (Option.some.inj e).symm);have hre5:=fun k hk=>(hre k hk).grown hA hgo36
       have hb5:=HB3.out.grown hA HB3.out.size (fun g e=>by cases e;exact hgo.1);simp only[outsG,List.foldl_cons,List.foldl_nil,List.setIfInBounds_toArray,List.set_cons_succ,List.set_cons_zero];generalize V 13=v13 at *;generalize V 12=v12;generalize V 11=v11;generalize V 10=v10;generalize V 5=v5;have HN1:=Lib.hid hnew;have HN2:=Lib.hid hro5;have HN3:=Lib.hid hre5;have HN4:=Lib.hid hb5;have HN5:=Lib.hid hFn;clear hnew hro5 hre5 hb5 hF hFn hD hA e13 hL hcr hgo36 hgn;gi_wp2;go_roundw
       case rel=>exact⟨k+1,by omega,by go_num,HN1.out,HN2.out,HN3.out,HN5.out,HN4.out⟩
       case measure=>simp[intOf];omega
     ·obtain rfl:k=R:=by omega
      gi_wp2;go_roundw
      case rel=>refine⟨i+1,by omega,by go_num,?_,HB3.out⟩;rw[←HPK.out.2.1];exact⟨vs,hvo,hve⟩
      case measure=>simp[intOf];omega
  ·obtain rfl:i=m:=by omega
   gi_wp2;go_ret;exact⟨_,rfl,by have h1:=HLS.out;rw[←hm,pre_all] at h1;exact h1,HB.out⟩
theorem Choices_any(m:Nat):∀ xs:List Nat,xs.length=m→m≤9→∀(LA:Option Addr) (lc:Nat) (W:World),m≤lc→zca W LA m (fun k=>((xs.getD k 0:Nat):Int))→CallsIn Fc 0 Tryz.prog 113 #[.slice LA m lc] W (yFb (chs xs) W):=by
 induction m using Nat.strongRecOn with
 |ind m ih=>intro xs hm hm8 LA lc W hlc hi;exact choices_step xs m hm hm8 LA lc hlc W (Lib.hid hi) (Lib.hid fun i LB kc w hlt hkc h=>ih (m-(i+1)) (by omega) (xs.drop (i+1)) (by rw[List.length_drop,hm]) (by omega) LB kc w hkc h)
end
section
open Go.RowKit
theorem ysc{N:Nat}{f:List (List Nat)→List Nat→List (List Nat)}:∀(X B:List (List Nat)),(∀ B x,B.length≤N→(f B x).length≤N)→B.length≤N→(X.foldl f B).length≤N
 | [],_,_,h=>h
 |x::X,B,hf,h=>ysc X (f B x) hf (hf B x h)
theorem yvb{n N:Nat}{O:Nat→List (List Nat)}:∀(d:Nat) (T:Nat→Bool) (S B:List (List Nat)),S.length+d≤N→B.length≤N→(tryE n O d T S B).length≤N
 |0,T,S,B,hS,hB=>by
  simp only[tryE];split
  ·omega
  ·exact hB
 |d+1,T,S,B,hS,hB=>by
  simp only[tryE];refine yvb d _ S _ (by omega) ?_;split
  ·exact hB
  ·refine ysc _ _ (fun B x hB=>?_) hB;split
   ·exact yvb d _ _ B (by rw[List.length_append,List.length_singleton];omega) hB
   ·exact hB
theorem share_few(rs rl rw:Int)(sh:Nat→Shaft)(n m:Nat)(T:Nat→Bool):(zgc rs rl rw sh n m T).length≤n:=
 yvb n T [] [] (by simp) (by simp)
end
section
open Go.RowKit
def geL(E C:List (List Nat)):Prop:=C.length<E.length∨(C.length=E.length∧cmpLL E C≤0)
theorem cmpL_refl:∀ x:List Nat,cmpL x x=0
 | []=>rfl
 |a::x=>by simp[cmpL,cmpL_refl x]
theorem yba:∀ x y:List Nat,cmpL x y=0→x=y
 | [],[],_=>rfl
 | [],_::_,h=>by simp[cmpL] at h
 |_::_,[],h=>by simp[cmpL] at h
 |a::x,b::y,h=>by
  simp only[cmpL] at h;split at h
  ·omega
  ·split at h
   ·omega
   ·obtain rfl:a=b:=by omega
    rw[yba x y h]
theorem yZa:∀ x y:List Nat,cmpL y x = - cmpL x y
 | [],[]=>rfl
 | [],_::_=>rfl
 |_::_,[]=>rfl
 |a::x,b::y=>by
  simp only[cmpL];by_cases h1:a<b
  ·rw[if_neg (by omega:¬ b<a),if_pos h1,if_pos h1];rfl
  ·by_cases h2:b<a
   ·rw[if_pos h2,if_neg h1,if_pos h2]
   ·rw[if_neg h2,if_neg h1,if_neg h1,if_neg h2,yZa x y]
theorem ypb:∀ x y z:List Nat,cmpL x y≤0→cmpL y z≤0→cmpL x z≤0
 | [],_,[],_,_=>by simp[cmpL]
 | [],_,_::_,_,_=>by simp[cmpL]
 |_::_,[],_,h,_=>by simp[cmpL] at h
 |_::_,_::_,[],_,h=>by simp[cmpL] at h
 |a::x,b::y,c::z,h1,h2=>by
  simp only[cmpL] at h1 h2 ⊢;by_cases e1:a<b
  ·by_cases e2:c<b
   ·rw[if_neg (by omega),if_pos e2] at h2;omega
   ·rw[if_pos (by omega)];omega
  ·rw[if_neg e1] at h1;by_cases e3:b<a
   ·rw[if_pos e3] at h1;omega
   ·rw[if_neg e3] at h1;obtain rfl:a=b:=by omega
    by_cases e4:a<c
    ·rw[if_pos e4];omega
    ·rw[if_neg e4] at h2 ⊢;by_cases e5:c<a
     ·rw[if_pos e5] at h2;omega
     ·rw[if_neg e5] at h2 ⊢;exact ypb x y z h1 h2
theorem cmpL_less{x y z:List Nat}(h1:cmpL x y<0)(h2:cmpL y z≤0):cmpL x z<0:=by
 have h3:=ypb x y z (by omega) h2;by_cases e:cmpL x z=0
 ·rcases yba _ _ e with rfl;rw[yZa x y] at h2;omega
 ·omega
theorem cmpLL_refl:∀ x:List (List Nat),cmpLL x x=0
 | []=>rfl
 |a::x=>by simp[cmpLL,cmpL_refl,cmpLL_refl x]
theorem ysa:∀ x y:List (List Nat),cmpLL y x = - cmpLL x y
 | [],[]=>rfl
 | [],_::_=>rfl
 |_::_,[]=>rfl
 |a::x,b::y=>by
  simp only[cmpLL];rw[yZa a b];by_cases h1:cmpL a b=0
  ·rw[if_neg (by omega),if_neg (by omega),ysa x y]
  ·rw[if_pos (by omega),if_pos (by omega)]
theorem yab:∀ x y z:List (List Nat),cmpLL x y≤0→cmpLL y z≤0→cmpLL x z≤0
 | [],_,[],_,_=>by simp[cmpLL]
 | [],_,_::_,_,_=>by simp[cmpLL]
 |_::_,[],_,h,_=>by simp[cmpLL] at h
 |_::_,_::_,[],_,h=>by simp[cmpLL] at h
 |a::x,b::y,c::z,h1,h2=>by
  simp only[cmpLL] at h1 h2 ⊢;by_cases e1:cmpL a b=0
  ·rw[if_neg (by omega)] at h1;rcases yba _ _ e1 with rfl;by_cases e2:cmpL a c=0
   ·rw[if_neg (by omega)] at h2 ⊢;exact yab x y z h1 h2
   ·rw[if_pos e2] at h2 ⊢;exact h2
  ·rw[if_pos e1] at h1;have h3:cmpL b c≤0:=by
    by_cases e2:cmpL b c=0
    ·omega
    ·rw[if_pos e2] at h2;exact h2
   have:=cmpL_less (by omega:cmpL a b<0) h3;rw[if_pos (by omega)];omega
theorem yz(E:List (List Nat)):geL E E:=.inr ⟨rfl,by rw[cmpLL_refl];omega⟩
theorem yY{E C D:List (List Nat)}(h1:geL E C)(h2:geL C D):geL E D:=by
 rcases h1 with h1|⟨h1,h1'⟩
 ·rcases h2 with h2|⟨h2,h2'⟩
  ·exact .inl (by omega)
  ·exact .inl (by omega)
 ·rcases h2 with h2|⟨h2,h2'⟩
  ·exact .inl (by omega)
  ·exact .inr ⟨by omega,yab _ _ _ h1' h2'⟩
theorem geL_not{S B:List (List Nat)}(h:ztb S B=false):geL B S:=by
 unfold ztb at h;split at h
 ·next e=>have:=of_decide_eq_false h;refine .inr ⟨e,?_⟩;rw[ysa S B];omega
 ·have:=of_decide_eq_false h;exact .inl (by omega)
theorem geL_yes{S B:List (List Nat)}(h:ztb S B=true):geL S B:=by
 unfold ztb at h;split at h
 ·next e=>have:=of_decide_eq_true h;exact .inr ⟨e.symm,by omega⟩
 ·have:=of_decide_eq_true h;exact .inl (by omega)
theorem yIc(S B:List (List Nat)):geL (if ztb S B then S else B) S∧geL (if ztb S B then S else B) B:=by
 cases h:ztb S B with
 |true=>exact⟨yz _,geL_yes h⟩
 |false=>exact⟨geL_not h,yz _⟩
def Split(R:List (List Nat)):Prop:=R.Pairwise fun x y=>x.headD 0<y.headD 0∧∀ a,a∈x→a∉y
def FreeR(M:List (List Nat))(T:Nat→Bool)(R:List (List Nat)):Prop:=∀ x,x∈R→x∈M∧∀ a,a∈x→T a=false
structure yDc(n:Nat)(M:List (List Nat))(O:Nat→List (List Nat)):Prop where
 asc:∀ x,x∈M→x.Pairwise (· < ·)
 some:∀ x,x∈M→x≠[]
 less:∀ x,x∈M→∀ a,a∈x→a<n
 of:∀ s x,x∈O s↔x∈M∧s∈x
theorem updT_true{T:Nat→Bool}{s a:Nat}:updT T s a=true↔a=s∨T a=true:=by
 unfold updT;by_cases h:a=s
 ·simp[h]
 ·simp[h]
theorem withT_true:∀(x:List Nat) (T:Nat→Bool) (a:Nat),withT T x a=true↔T a=true∨a∈x
 | [],T,a=>by simp[withT]
 |s::r,T,a=>by
  simp only[withT];rw[withT_true r,updT_true,List.mem_cons];constructor
  ·rintro((h|h)|h)
   ·exact .inr (.inl h)
   ·exact .inl h
   ·exact .inr (.inr h)
  ·rintro(h|h|h)
   ·exact .inl (.inr h)
   ·exact .inl (.inl h)
   ·exact .inr h
theorem ypa:∀(x:List Nat) (T:Nat→Bool),x.Pairwise (· < ·)→(freeT T x=true↔∀ a,a∈x→T a=false)
 | [],T,_=>by simp[freeT]
 |s::r,T,hp=>by
  simp only[freeT];have hp':=List.pairwise_cons.1 hp;cases h:T s with
  |true=>
   simp only[if_true];constructor
   ·intro e;cases e
   ·intro e;rw[e s (by simp)] at h;cases h
  |false=>
   simp only[Bool.false_eq_true,if_false];rw[ypa r _ hp'.2];constructor
   ·intro e a ha;rcases List.mem_cons.1 ha with rfl|ha
    ·exact h
    ·have:=e a ha;cases h2:T a with
     |false=>rfl
     |true=>rw[updT_true.2 (.inr h2)] at this;cases this
   ·intro e a ha;cases h2:updT T s a with
    |false=>rfl
    |true=>
     rcases updT_true.1 h2 with rfl|h3
     ·have:=hp'.1 a ha;omega
     ·rw[e a (by simp[ha])] at h3;cases h3
theorem yob{x:List Nat}(hp:x.Pairwise (· < ·)){a:Nat}(ha:a∈x):x.headD 0≤a∧x.headD 0∈x:=by
 cases x with
 |nil=>cases ha
 |cons b x=>
  simp only[List.headD_cons];refine⟨?_,by simp⟩;rcases List.mem_cons.1 ha with rfl|h
  ·omega
  ·have:=(List.pairwise_cons.1 hp).1 a h;omega
section
variable {n:Nat}{M:List (List Nat)}{O:Nat→List (List Nat)}{T:Nat→Bool}
theorem FreeR.none(h:yDc n M O)(hT:∀ a,a<n→T a=true){R:List (List Nat)}(hR:FreeR M T R):R=[]:=by
 cases R with
 |nil=>rfl
 |cons x R=>
  obtain⟨h1,h2⟩:=hR x (by simp);cases x with
  |nil=>exact absurd rfl (h.some _ h1)
  |cons a x=>have h3:=h2 a (by simp);rw[hT a (h.less _ h1 a (by simp))] at h3;cases h3
theorem fold_best{d:Nat}(S:List (List Nat)){X:List (List Nat)}(hX:∀ x,x∈X→freeT T x=true→∀ B,geL (tryE n O d (withT T x) (S++[x]) B) B∧∀ R,FreeR M (withT T x) R→Split R→geL (tryE n O d (withT T x) (S++[x]) B) ((S++[x])++R)) :
  ∀ B,geL (X.foldl (fun B x=>if freeT T x then tryE n O d (withT T x) (S++[x]) B else B) B) B∧∀ x,x∈X→freeT T x=true→∀ R,FreeR M (withT T x) R→Split R→geL (X.foldl (fun B x=>if freeT T x then tryE n O d (withT T x) (S++[x]) B else B) B) ((S++[x])++R):=by
 induction X with
 |nil=>intro B;exact⟨yz _,fun x hx=>by cases hx⟩
 |cons y X ih=>
  intro B;simp only[List.foldl_cons];obtain⟨i1,i2⟩:=ih (fun x hx=>hX x (by simp[hx])) (if freeT T y then tryE n O d (withT T y) (S++[y]) B else B);have hy:geL (if freeT T y then tryE n O d (withT T y) (S++[y]) B else B) B:=by
   split
   ·next e=>exact(hX y (by simp) e B).1
   ·exact yz _
  refine⟨yY i1 hy,fun x hx hf R hR hS=>?_⟩;rcases List.mem_cons.1 hx with rfl|hx
  ·refine yY i1 ?_;rw[if_pos hf];exact(hX x (by simp) hf B).2 R hR hS
  ·exact i2 x hx hf R hR hS
theorem yKa(h:yDc n M O):∀(d:Nat),d≤n→∀(T:Nat→Bool) (S B:List (List Nat)),(∀ a,a<n-d→T a=true) →
  geL (tryE n O d T S B) B∧∀ R,FreeR M T R→Split R→geL (tryE n O d T S B) (S++R)
 |0,_,T,S,B,hT=>by simp only[tryE];refine⟨(yIc S B).2,fun R hR _=>?_⟩;rw[hR.none h (fun a ha=>hT a (by omega)),List.append_nil];exact(yIc S B).1
 |d+1,hd,T,S,B,hT=>by
  simp only[tryE];obtain⟨s,hs⟩:∃ s,n-(d+1)=s:=⟨_,rfl⟩;rw[hs] at hT ⊢;have hX:∀ x,x∈O s→freeT T x=true→∀ B,geL (tryE n O d (withT T x) (S++[x]) B) B∧∀ R,FreeR M (withT T x) R→Split R→geL (tryE n O d (withT T x) (S++[x]) B) ((S++[x])++R):=fun x hx _ B=>
   yKa h d (by omega) (withT T x) (S++[x]) B fun a ha=>by
    rw[withT_true];by_cases e:a=s
    ·subst e;exact .inr ((h.of a x).1 hx).2
    ·exact .inl (hT a (by omega))
  obtain⟨f1,f2⟩:=fold_best S hX B;have hu:∀ a,a<n-d→updT T s a=true:=fun a ha=>by
   rw[updT_true];by_cases e:a=s
   ·exact .inl e
   ·exact .inr (hT a (by omega))
  obtain⟨g1,g2⟩:=yKa h d (by omega) (updT T s) S (if T s then B else(O s).foldl (fun B x=>if freeT T x then tryE n O d (withT T x) (S++[x]) B else B) B) hu;have hB:geL (if T s then B else(O s).foldl (fun B x=>if freeT T x then tryE n O d (withT T x) (S++[x]) B else B) B) B:=by
   split
   ·exact yz _
   ·exact f1
  refine⟨yY g1 hB,fun R hR hS=>?_⟩;by_cases hin:∃ x,x∈R∧s∈x
  ·cases R with
   |nil=>obtain⟨x,hx,_⟩:=hin;cases hx
   |cons y R=>
    have hS':=List.pairwise_cons.1 hS;obtain⟨y1,y2⟩:=hR y (by simp);have hyh:s≤y.headD 0:=by
     cases y with
     |nil=>exact absurd rfl (h.some _ y1)
     |cons b y=>
      simp only[List.headD_cons];by_cases e:b<s
      ·have:=y2 b (by simp);rw[hT b e] at this;cases this
      ·omega
    have hsy:s∈y:=by
     obtain⟨x,hx,hsx⟩:=hin;rcases List.mem_cons.1 hx with rfl|hx
     ·exact hsx
     ·have h1:=(hS'.1 x hx).1;have h2:=(yob (h.asc x (hR x (by simp[hx])).1) hsx).1;omega
    have hfr:freeT T y=true:=(ypa y T (h.asc y y1)).2 y2;have hTs:T s=false:=y2 s hsy;refine yY g1 ?_;rw[hTs,if_neg (by decide)];have:=f2 y ((h.of s y).2 ⟨y1,hsy⟩) hfr R (fun x hx=>⟨(hR x (by simp[hx])).1,fun a ha=>by
     cases hw:withT T y a with
     |false=>rfl
     |true=>
      rcases(withT_true y T a).1 hw with h1|h1
      ·rw[(hR x (by simp[hx])).2 a ha] at h1;cases h1
      ·exact absurd ha ((hS'.1 x hx).2 a h1)⟩) hS'.2
    simpa using this
  ·refine g2 R (fun x hx=>⟨(hR x hx).1,fun a ha=>?_⟩) hS;cases hw:updT T s a with
   |false=>rfl
   |true=>
    rcases updT_true.1 hw with rfl|h1
    ·exact absurd ⟨x,hx,ha⟩ hin
    ·rw[(hR x hx).2 a ha] at h1;cases h1
theorem yOb{p:List (List Nat)→Prop}{f:List (List Nat)→List Nat→List (List Nat)}:∀(X B:List (List Nat)),(∀ B x,x∈X→p B→p (f B x))→p B→p (X.foldl f B)
 | [],_,_,h=>h
 |x::X,B,hf,h=>yOb X (f B x) (fun B y hy=>hf B y (by simp[hy])) (hf B x (by simp) h)
theorem yJa(h:yDc n M O)(T0:Nat→Bool):∀(d:Nat),d≤n→∀(T:Nat→Bool) (S B:List (List Nat)),(∀ a,a<n-d→T a=true)→(∀ a,T0 a=true→T a=true)→(∀ x,x∈S→x.headD 0<n-d∧∀ a,a∈x→T a=true) →
  FreeR M T0 S∧Split S→FreeR M T0 B∧Split B→FreeR M T0 (tryE n O d T S B)∧Split (tryE n O d T S B)
 |0,_,T,S,B,_,_,_,hS,hB=>by
  simp only[tryE];split
  ·exact hS
  ·exact hB
 |d+1,hd,T,S,B,hT,h0,hST,hS,hB=>by
  simp only[tryE];obtain⟨s,hs⟩:∃ s,n-(d+1)=s:=⟨_,rfl⟩;rw[hs] at hT hST ⊢;refine yJa h T0 d (by omega) (updT T s) S _ (fun a ha=>?_) (fun a ha=>updT_true.2 (.inr (h0 a ha))) (fun x hx=>⟨by have:=(hST x hx).1;omega,fun a ha=>updT_true.2 (.inr ((hST x hx).2 a ha))⟩) hS ?_
  ·rw[updT_true];by_cases e:a=s
   ·exact .inl e
   ·exact .inr (hT a (by omega))
  ·split
   ·exact hB
   ·refine yOb (p:=fun B=>FreeR M T0 B∧Split B) (O s) B (fun B x hx hB=>?_) hB;split
    ·next hf=>
     obtain⟨x1,x2⟩:=(h.of s x).1 hx;have hfr:=(ypa x T (h.asc x x1)).1 hf;have hxs:x.headD 0=s:=by
      have:=yob (h.asc x x1) x2;by_cases e:x.headD 0<s
      ·have h3:=hfr _ this.2;rw[hT _ e] at h3;cases h3
      ·omega
     refine yJa h T0 d (by omega) (withT T x) (S++[x]) B (fun a ha=>?_) (fun a ha=>(withT_true x T a).2 (.inl (h0 a ha))) (fun y hy=>?_) ⟨fun y hy=>?_,?_⟩ hB
     ·rw[withT_true];by_cases e:a=s
      ·subst e;exact .inr x2
      ·exact .inl (hT a (by omega))
     ·rcases List.mem_append.1 hy with hy|hy
      ·exact⟨by have:=(hST y hy).1;omega,fun a ha=>(withT_true x T a).2 (.inl ((hST y hy).2 a ha))⟩
      ·rcases List.mem_singleton.1 hy with rfl;exact⟨by omega,fun a ha=>(withT_true y T a).2 (.inr ha)⟩
     ·rcases List.mem_append.1 hy with hy|hy
      ·exact hS.1 y hy
      ·rcases List.mem_singleton.1 hy with rfl;refine⟨x1,fun a ha=>?_⟩;cases e:T0 a with
       |false=>rfl
       |true=>have:=hfr a ha;rw[h0 a e] at this;cases this
     ·unfold Split;rw[List.pairwise_append];refine⟨hS.2,List.pairwise_singleton _ _,fun y hy z hz=>?_⟩;rcases List.mem_singleton.1 hz with rfl;refine⟨by rw[hxs];exact(hST y hy).1,fun a ha hz=>?_⟩;have:=(hST y hy).2 a ha;rw[hfr a hz] at this;cases this
    ·exact hB
end
theorem yOc{M:List (List Nat)}{s k:Nat}:(s,k)∈evs M M.length 0↔k<M.length∧s∈M.getD k []:=by
 unfold evs;simp only[List.take_zero,List.map_nil,List.append_nil,List.mem_flatMap,List.mem_range,List.mem_map,Prod.mk.injEq];constructor
 ·rintro⟨j,hj,t,ht,rfl,rfl⟩;exact⟨hj,ht⟩
 ·rintro⟨hk,hs⟩;exact⟨k,hk,s,hs,rfl,rfl⟩
theorem ofE_iff{M:List (List Nat)}{s:Nat}{x:List Nat}:x∈ofE M (evs M M.length 0) s↔x∈M∧s∈x:=by
 unfold ofE;simp only[List.mem_map,List.mem_filter,beq_iff_eq];constructor
 ·rintro⟨⟨t,k⟩,⟨h1,h2⟩,rfl⟩;obtain⟨h3,h4⟩:=yOc.1 h1;have h2:t=s:=h2;subst h2;refine⟨?_,h4⟩;rw[List.getD_eq_getElem?_getD,List.getElem?_eq_getElem h3];exact List.getElem_mem h3
 ·rintro⟨h1,h2⟩;obtain⟨k,hk,rfl⟩:=List.getElem_of_mem h1;have e:M.getD k []=M[k]:=by rw[List.getD_eq_getElem?_getD,List.getElem?_eq_getElem hk];rfl
  exact⟨(s,k),⟨yOc.2 ⟨hk,by rw[e];exact h2⟩,rfl⟩,e⟩
end
section
open Go.RowKit
section
variable {rs rl rw rs' rl' rw':Int}{sh sh':Nat→Shaft}{n n' m:Nat}{T T':Nat→Bool}
theorem yjc(rs rl rw:Int)(sh:Nat→Shaft)(n:Nat)(hm:0<m):yDc n (setsX rs rl rw sh n m) fun s=>ofE (setsX rs rl rw sh n m) (evs (setsX rs rl rw sh n m) (setsX rs rl rw sh n m).length 0) s where
 asc:=fun x hx=>(setsX_iff.1 hx).1
 some:=fun x hx e=>by have:=(setsX_iff.1 hx).2.2.1;rw[e] at this;simp at this;omega
 less:=fun x hx=>(setsX_iff.1 hx).2.1
 of:=fun s x=>ofE_iff
theorem yMa(hm:0<m)(T:Nat→Bool):FreeR (setsX rs rl rw sh n m) T (zgc rs rl rw sh n m T)∧Split (zgc rs rl rw sh n m T):=
 yJa (yjc rs rl rw sh n hm) T n (Nat.le_refl _) T [] [] (fun a ha=>by omega) (fun a h=>h) (fun x hx=>by cases hx) ⟨fun x hx=>(by cases hx),List.Pairwise.nil⟩ ⟨fun x hx=>(by cases hx),List.Pairwise.nil⟩
theorem shareX_best(hm:0<m){R:List (List Nat)}(hR:FreeR (setsX rs rl rw sh n m) T R)(hS:Split R):geL (zgc rs rl rw sh n m T) R:=by have:=(yKa (yjc rs rl rw sh n hm) n (Nat.le_refl _) T [] [] (fun a ha=>by omega)).2 R hR hS;rw[List.nil_append] at this;exact this
theorem ybc{E C:List (List Nat)}(h:geL E C):C.length≤E.length:=by
 rcases h with h|h
 ·omega
 ·exact Nat.le_of_eq h.1
end
end
section
open Go.RowKit
theorem yXa{α:Type}{r:α→α→Prop}(ha:∀ a b,r a b→r b a→False):∀{L K:List α},L.Pairwise r→K.Pairwise r→(∀ x,x∈L↔x∈K)→L=K
 | [],[],_,_,_=>rfl
 | [],y::K,_,_,h=>by have:=(h y).2 (by simp);cases this
 |x::L,[],_,_,h=>by have:=(h x).1 (by simp);cases this
 |x::L,y::K,h1,h2,h=>by
  obtain⟨a1,a2⟩:=List.pairwise_cons.1 h1;obtain⟨b1,b2⟩:=List.pairwise_cons.1 h2;have hirr:∀ z,¬ r z z:=fun z hz=>ha z z hz hz
  have e:x=y:=by
   rcases List.mem_cons.1 ((h x).1 (by simp)) with e|hx
   ·exact e
   ·rcases List.mem_cons.1 ((h y).2 (by simp)) with e|hy
    ·exact e.symm
    ·exact(ha _ _ (a1 y hy) (b1 x hx)).elim
  subst e;rw[yXa ha a2 b2 fun z=>?_];constructor
  ·intro hz;rcases List.mem_cons.1 ((h z).1 (List.mem_cons_of_mem _ hz)) with e|h3
   ·subst e;exact(hirr _ (a1 _ hz)).elim
   ·exact h3
  ·intro hz;rcases List.mem_cons.1 ((h z).2 (List.mem_cons_of_mem _ hz)) with e|h3
   ·subst e;exact(hirr _ (b1 _ hz)).elim
   ·exact h3
theorem sub_iff{l x:List Nat}(hl:l.Pairwise (· < ·)):x.Sublist l↔x.Pairwise (· < ·)∧∀ a,a∈x→a∈l:=by
 refine⟨fun h=>⟨hl.sublist h,fun a ha=>h.subset ha⟩,fun⟨h1,h2⟩=>?_⟩;have e:x=l.filter fun a=>decide (a∈x):=yXa (r:=fun a b:Nat=>a<b) (fun a b h1 h2=>by omega) h1 (hl.filter _) fun a=>by rw[List.mem_filter,decide_eq_true_eq];exact⟨fun h=>⟨h2 a h,h⟩,fun h=>h.2⟩
 rw[e];exact List.filter_sublist
theorem Lx.cmp:∀{x y:List Nat},Lx x y↔cmpL x y = -1
 | [],[]=>by simp[Lx,cmpL]
 | [],_::_=>by simp[Lx,cmpL]
 |_::_,[]=>by simp[Lx,cmpL]
 |a::x,b::y=>by
  simp only[Lx,cmpL];by_cases h1:a<b
  ·simp[h1]
  ·by_cases h2:b<a
   ·simp only[h1,h2,if_true,if_false,false_or];exact⟨fun h=>by omega,fun h=>by omega⟩
   ·obtain rfl:a=b:=by omega
    simp only[Nat.lt_irrefl,if_false,false_or,true_and];exact Lx.cmp
section
variable {rs rl rw:Int}{sh:Nat→Shaft}{n m:Nat}
def isSet(rs rl rw:Int)(sh:Nat→Shaft)(m:Nat)(x:List Nat):Bool:=decide (x.length=m)&&decide (zoc rs rl rw sh (fun k=>x.getD k 0) x.length=1)
def yc(rs rl rw:Int)(sh:Nat→Shaft)(m:Nat)(l:List Nat):List (List Nat):=(chs l).filter (isSet rs rl rw sh m)
theorem yx{l x:List Nat}(hl:l.Pairwise (· < ·)):x∈yc rs rl rw sh m l↔x.Pairwise (· < ·)∧(∀ a,a∈x→a∈l)∧x.length=m∧zoc rs rl rw sh (fun k=>x.getD k 0) x.length=1:=by unfold yc isSet;rw[List.mem_filter,mem_chs,sub_iff hl];simp only[Bool.and_eq_true,decide_eq_true_eq];exact⟨fun h=>⟨h.1.1,h.1.2,h.2⟩,fun h=>⟨⟨h.1,h.2.1⟩,h.2.2⟩⟩
theorem yM{l:List Nat}(hl:l.Pairwise (· < ·)):(yc rs rl rw sh m l).Pairwise Lx:=(yrb hl).filter _
theorem refSets_all:yc rs rl rw sh m (List.range n)=setsX rs rl rw sh n m:=by
 refine yXa (fun a b=>Lx.asymm) (yM List.pairwise_lt_range) ((setsX_sorted rs rl rw sh n m).imp fun h=>Lx.cmp.2 h) fun x=>?_
 rw[yx List.pairwise_lt_range,setsX_iff];simp only[List.mem_range]
def refL:List (List Nat)→List Nat→List (List Nat)→List (List Nat)
 | [],_,B=>B
 |x::L,T,B=>if(∃ a,a∈x∧a∈T) then refL L T B else refL L T (if B.length<(refL L (T++x) []).length+1 then x::refL L (T++x) [] else B)
structure GoodR(L:List (List Nat))(T:List Nat)(R:List (List Nat)):Prop where
 mem:∀ x,x∈R→x∈L
 free:∀ x,x∈R→∀ a,a∈x→a∉T
 split:Split R
theorem GoodR.nil{L:List (List Nat)}{T:List Nat}:GoodR L T []:=⟨fun x h=>(by cases h),fun x h=>(by cases h),List.Pairwise.nil⟩
theorem ypc{x y:List Nat}(h:Lx x y)(hx:x≠[]):x.headD 0≤y.headD 0:=by
 cases x with
 |nil=>exact absurd rfl hx
 |cons a x=>
  cases y with
  |nil=>exact h.elim
  |cons b y=>
   simp only[List.headD_cons];rcases h with h|h
   ·omega
   ·omega
theorem lx_apart{x y:List Nat}(h:Lx x y)(hx:x≠[])(hy:y≠[])(hd:∀ a,a∈x→a∉y):x.headD 0<y.headD 0:=by
 have h1:=ypc h hx;cases x with
 |nil=>exact absurd rfl hx
 |cons a x=>
  cases y with
  |nil=>exact absurd rfl hy
  |cons b y=>simp only[List.headD_cons] at h1 ⊢;have h2:=hd a (by simp);simp only[List.mem_cons,not_or] at h2;omega
theorem geL_cons{x:List Nat}{E C:List (List Nat)}(h:geL E C):geL (x::E) (x::C):=by
 rcases h with h|h
 ·exact .inl (by simpa using h)
 ·refine .inr ⟨by simpa using h.1,?_⟩;simp only[cmpLL,cmpL_refl];simpa using h.2
theorem geL_less{x y:List Nat}{E C:List (List Nat)}(h:Lx x y)(hl:C.length≤E.length):geL (x::E) (y::C):=by
 by_cases e:C.length=E.length
 ·refine .inr ⟨by simpa using e,?_⟩;simp only[cmpLL];rw[Lx.cmp.1 h,if_pos (by decide)];decide
 ·exact .inl (by simp;omega)
theorem yqb:∀ x y:List (List Nat),cmpLL x y=0→x=y
 | [],[],_=>rfl
 | [],_::_,h=>by simp[cmpLL] at h
 |_::_,[],h=>by simp[cmpLL] at h
 |a::x,b::y,h=>by
  simp only[cmpLL] at h;split at h
  ·omega
  ·next e=>rw[yba a b (by omega),yqb x y h]
theorem geL_both{E C:List (List Nat)}(h1:geL E C)(h2:geL C E):E=C:=by
 rcases h1 with h1|h1
 ·rcases h2 with h2|h2<;>omega
 ·rcases h2 with h2|h2
  ·omega
  ·refine yqb _ _ ?_;have:=ysa E C;have h3:=h1.2;have h4:=h2.2;omega
theorem GoodR.tail{x:List Nat}{L R:List (List Nat)}{T:List Nat}(hs:∀ y,y∈L→Lx x y)(hne:∀ y,y∈x::L→y≠[])(h:GoodR (x::L) T R):GoodR L T R∨∃ R',R=x::R'∧GoodR L (T++x) R':=by
 by_cases hx:x∈R
 ·right;cases R with
  |nil=>cases hx
  |cons y R'=>
   obtain⟨h1,h2⟩:=List.pairwise_cons.1 h.split;have e:y=x:=by
    rcases List.mem_cons.1 hx with e|hxR
    ·exact e.symm
    ·have h3:=(h1 x hxR).1;rcases List.mem_cons.1 (h.mem y (by simp)) with e|hy
     ·exact e
     ·have:=ypc (hs y hy) (hne x (by simp));omega
   subst e;refine⟨R',rfl,⟨fun z hz=>?_,fun z hz a ha=>?_,h2⟩⟩
   ·rcases List.mem_cons.1 (h.mem z (by simp[hz])) with e|hz'
    ·subst e;have:=(h1 z hz).1;omega
    ·exact hz'
   ·rw[List.mem_append,not_or];exact⟨h.free z (by simp[hz]) a ha,fun hay=>(h1 z hz).2 a hay ha⟩
 ·left;exact⟨fun z hz=>(List.mem_cons.1 (h.mem z hz)).resolve_left fun e=>hx (e▸hz),h.free,h.split⟩
theorem GoodR.wide{x:List Nat}{L R:List (List Nat)}{T:List Nat}(h:GoodR L T R):GoodR (x::L) T R:=⟨fun z hz=>List.mem_cons_of_mem _ (h.mem z hz),h.free,h.split⟩
theorem GoodR.cons{x:List Nat}{L R:List (List Nat)}{T:List Nat}(hs:∀ y,y∈L→Lx x y)(hne:∀ y,y∈x::L→y≠[])(hx:¬∃ a,a∈x∧a∈T)(h:GoodR L (T++x) R):GoodR (x::L) T (x::R):=by
 refine⟨fun z hz=>?_,fun z hz a ha haT=>?_,List.pairwise_cons.2 ⟨fun y hy=>?_,h.split⟩⟩
 ·rcases List.mem_cons.1 hz with rfl|hz
  ·simp
  ·exact List.mem_cons_of_mem _ (h.mem z hz)
 ·rcases List.mem_cons.1 hz with rfl|hz
  ·exact hx ⟨a,ha,haT⟩
  ·exact h.free z hz a ha (List.mem_append_left _ haT)
 ·have hd:∀ a,a∈x→a∉y:=fun a ha hay=>h.free y hy a hay (List.mem_append_right _ ha)
  exact⟨lx_apart (hs y (h.mem y hy)) (hne x (by simp)) (hne y (List.mem_cons_of_mem _ (h.mem y hy))) hd,hd⟩
theorem yD:∀(L:List (List Nat)) (T:List Nat) (B:List (List Nat)),L.Pairwise Lx→(∀ y,y∈L→y≠[]) →
  (refL L T B=B∧∀ R,GoodR L T R→R.length≤B.length)∨(GoodR L T (refL L T B)∧B.length<(refL L T B).length∧∀ R,GoodR L T R→geL (refL L T B) R)
 | [],T,B,_,_=>.inl ⟨rfl,fun R hR=>by
   cases R with
   |nil=>simp
   |cons x R=>have:=hR.mem x (by simp);cases this⟩
 |x::L,T,B,hs,hne=>by
  obtain⟨hs1,hs2⟩:=List.pairwise_cons.1 hs;have hne2:∀ y,y∈L→y≠[]:=fun y hy=>hne y (List.mem_cons_of_mem _ hy)
  rw[refL];by_cases hc:∃ a,a∈x∧a∈T
  ·rw[if_pos hc];have key:∀ R,GoodR (x::L) T R→GoodR L T R:=fun R hR=>by
    rcases hR.tail hs1 hne with h|⟨R',rfl,_⟩
    ·exact h
    ·obtain⟨a,ha,haT⟩:=hc;exact(hR.free x (by simp) a ha haT).elim
   rcases yD L T B hs2 hne2 with⟨h1,h2⟩|⟨h1,h2,h3⟩
   ·exact .inl ⟨h1,fun R hR=>h2 R (key R hR)⟩
   ·exact .inr ⟨h1.wide,h2,fun R hR=>h3 R (key R hR)⟩
  ·rw[if_neg hc];have hrest:GoodR L (T++x) (refL L (T++x) [])∧∀ R,GoodR L (T++x) R→geL (refL L (T++x) []) R:=by
    rcases yD L (T++x) [] hs2 hne2 with⟨h1,h2⟩|⟨h1,h2,h3⟩
    ·rw[h1];refine⟨.nil,fun R hR=>?_⟩;have:=h2 R hR;have e:R=[]:=List.eq_nil_of_length_eq_zero (by simpa using this);rw[e];exact yz _
    ·exact⟨h1,h3⟩
   obtain⟨r1,r2⟩:=hrest;generalize refL L (T++x) []=C at r1 r2;have hcand:=GoodR.cons hs1 hne hc r1;by_cases hl:B.length<C.length+1
   ·rw[if_pos hl];rcases yD L T (x::C) hs2 hne2 with⟨h1,h2⟩|⟨h1,h2,h3⟩
    ·rw[h1];refine .inr ⟨hcand,by simpa using hl,fun R hR=>?_⟩;rcases hR.tail hs1 hne with h|⟨R',rfl,h⟩
     ·have h4:=h2 R h;cases R with
      |nil=>exact .inl (by simp)
      |cons y R'=>exact geL_less (hs1 y (h.mem y (by simp))) (by simpa using h4)
     ·exact geL_cons (r2 R' h)
    ·refine .inr ⟨h1.wide,by simp at h2;omega,fun R hR=>?_⟩;rcases hR.tail hs1 hne with h|⟨R',rfl,h⟩
     ·exact h3 R h
     ·have:=ybc (r2 R' h);exact .inl (by simp at h2 ⊢;omega)
   ·rw[if_neg hl];rcases yD L T B hs2 hne2 with⟨h1,h2⟩|⟨h1,h2,h3⟩
    ·rw[h1];refine .inl ⟨rfl,fun R hR=>?_⟩;rcases hR.tail hs1 hne with h|⟨R',rfl,h⟩
     ·exact h2 R h
     ·have:=ybc (r2 R' h);simp;omega
    ·refine .inr ⟨h1.wide,h2,fun R hR=>?_⟩;rcases hR.tail hs1 hne with h|⟨R',rfl,h⟩
     ·exact h3 R h
     ·have:=ybc (r2 R' h);exact .inl (by simp;omega)
theorem refL_best{L:List (List Nat)}(hs:L.Pairwise Lx)(hne:∀ y,y∈L→y≠[]):GoodR L [] (refL L [] [])∧∀ R,GoodR L [] R→geL (refL L [] []) R:=by
 rcases yD L [] [] hs hne with⟨h1,h2⟩|⟨h1,h2,h3⟩
 ·rw[h1];refine⟨.nil,fun R hR=>?_⟩;have e:R=[]:=List.eq_nil_of_length_eq_zero (by simpa using h2 R hR);rw[e];exact yz _
 ·exact⟨h1,h3⟩
theorem yib(hm:0<m){l:List Nat}(hl:l.Pairwise (· < ·)){T:Nat→Bool}(hT:∀ a,a∈l↔a<n∧T a=false):refL (yc rs rl rw sh m l) [] []=zgc rs rl rw sh n m T:=by
 have hmem:∀ x,x∈yc rs rl rw sh m l↔x∈setsX rs rl rw sh n m∧∀ a,a∈x→T a=false:=fun x=>by
  rw[yx hl,setsX_iff];constructor
  ·rintro⟨h1,h2,h3,h4⟩;exact⟨⟨h1,fun k hk=>((hT k).1 (h2 k hk)).1,h3,h4⟩,fun a ha=>((hT a).1 (h2 a ha)).2⟩
  ·rintro⟨⟨h1,h2,h3,h4⟩,h5⟩;exact⟨h1,fun a ha=>(hT a).2 ⟨h2 a ha,h5 a ha⟩,h3,h4⟩
 have hgood:∀ R,GoodR (yc rs rl rw sh m l) [] R↔FreeR (setsX rs rl rw sh n m) T R∧Split R:=fun R=>
  ⟨fun h=>⟨fun x hx=>(hmem x).1 (h.mem x hx),h.split⟩,fun h=>⟨fun x hx=>(hmem x).2 (h.1 x hx),fun x hx a _ ha=>(by cases ha),h.2⟩⟩
 obtain⟨h1,h2⟩:=refL_best (yM (rs:=rs) (rl:=rl) (rw:=rw) (sh:=sh) (m:=m) hl) fun y hy e=>by have:=((yx hl).1 hy).2.2.1;rw[e] at this;simp at this;omega
 obtain⟨g1,g2⟩:=(hgood _).1 h1;obtain⟨s1,s2⟩:=yMa (rs:=rs) (rl:=rl) (rw:=rw) (sh:=sh) (n:=n) hm T;exact geL_both (h2 _ ((hgood _).2 ⟨s1,s2⟩)) (shareX_best hm g1 g2)
end
end
section
open Go.RowKit
section
variable {n m:Nat}{R:List (List Nat)}
theorem yp{α:Type}{l:List α}{i:Nat}{d:α}(h:i<l.length):l.getD i d∈l:=by rw[List.getD_eq_getElem?_getD,List.getElem?_eq_getElem h];exact List.getElem_mem h
theorem yzb{α:Type}{l:List α}{i:Nat}{d:α}(h:i<l.length):l.getD i d=l[i]:=by rw[List.getD_eq_getElem?_getD,List.getElem?_eq_getElem h];rfl
theorem flat_nodup(h:Split R)(ha:∀ x,x∈R→x.Pairwise (· < ·)):R.flatten.Nodup:=by unfold List.Nodup;rw[List.pairwise_flatten];refine⟨fun x hx=>(ha x hx).imp fun{a b} h=>Nat.ne_of_lt h,h.imp fun{x y} h a hax b hby e=>?_⟩;subst e;exact h.2 a hax hby
theorem yPb:∀{R:List (List Nat)},(∀ x,x∈R→x.length=m)→R.flatten.length=R.length*m
 | [],_=>by simp
 |x::R,h=>by rw[List.flatten_cons,List.length_append,h x (by simp),yPb fun y hy=>h y (by simp[hy]),List.length_cons,Nat.succ_mul];omega
end
end
section
open Go.RowKit
def SaysList(x:List Nat)(W:World)(e:Ending)(w':World):Prop:=∃ v,e=.returned v∧ListAt w' W.heap.size v x∧Below W.heap.size W w'
theorem yCc(n:Nat)(W:World)(hn:n≤20):CallsIn Fc 0 Tryz.prog 70 #[.int .i64 n] W (SaysList (List.range n) W):=by
  obtain⟨i0,hi0,hz0,hz1,hz2⟩:=info_parts it3;have HI0:=Lib.hid hi0;have HZ0:=Lib.hid hz0;have HZ1:=Lib.hid hz1;have HZ2:=Lib.hid hz2;clear hi0 hz0 hz1 hz2;gi_enter Tryz.func70,Tryz.ntmps70;gi_wp2
  gi_loopw [3,4] (fun lv y wr=>∃ k:Nat,k≤n∧y=.int .i64 k∧ListAt wr W.heap.size lv (List.range k)∧Below W.heap.size W wr) (fun _ y _=>n-(intOf y).toNat)
  case atStart=>exact⟨0,by omega,rfl,ListAt.nil _ _,Below.refl _ _⟩
  case round=>
    obtain⟨k,hk,rfl,hla,hbw⟩:=hrel;have HBW:=Lib.hid hbw;by_cases hlt:k<n
    · have hltI:(k:Int)<(n:Int):=by omega
      have h99:k<99:=by omega
      have hnext:List.range (k+1)=List.range k++[k]:=List.range_succ;obtain⟨L,hL⟩:∃ L,List.range k=L:=⟨_,rfl⟩;have hlen:L.length=k:=by rw[←hL,List.length_range]
      rw[hL] at hnext hla;have HN:=Lib.hid hnext;have hla2:∀ X,(wr.alloc X).ownsRow W.heap.size 3 1 u3 L.length (L.map intV):=fun X=>zu hla ((Below.refl _ _).alloc (Nat.le_refl _) X)
      have HLA2:=Lib.hid hla2;have hl20:L.length≤20:=by omega
      clear hnext hla hla2 hL hbw hlen
      gi_wp2_with
        (gi_at_builtin
         refine wpListIn_append_own _ rfl _ _ 27 rfl W.heap.size 3 i0 (.int .i64 0) 1 8 ut27 HI0.out HZ0.out HZ1.out HZ2.out rfl (by decide) u3 L.length (L.map intV) rfl (HLA2.out _) ⟨_,0,none⟩ 1 1 [.int .i64 (k:Int)] rfl rfl (yw _ _ _) (by intro u hu;rcases List.mem_singleton.1 hu with rfl;rfl) (by simp[maxLen];omega) (by omega) (by have:=HBW.out.size;simp;omega) ?_;intro v' w4 hown4 hg4 hnil4;have HO:=Lib.hid hown4;have HG:=Lib.hid hg4;clear hg4 hnil4 hown4)
      refine⟨⟨k+1,by omega,by first|rfl|trivial,?_,(HBW.out.alloc HBW.out.size _).grown HG.out (by have:=HBW.out.size;simp;omega) fun g hg=>(zfb (HLA2.out (.cells #[.int .i64 (k:Int)] 3)) hg).1⟩,by show n-(intOf (Value.int IntKind.i64 ((k:Int)+1))).toNat<n-(intOf (Value.int IntKind.i64 (k:Int))).toNat;simp only[intOf];omega⟩;rw[HN.out];have h:=HO.out;show w4.ownsRow W.heap.size 3 1 v' (L++[k]).length ((L++[k]).map intV);rw[List.map_append,List.length_append];exact h
    · obtain rfl:k=n:=by omega
      have hltI:¬(k:Int)<(k:Int):=by omega
      have HLA:=Lib.hid hla;clear hla hbw;gi_wp2;go_ret;exact⟨_,rfl,HLA.out,HBW.out⟩
theorem refCommon_any(LA LB:Option Addr)(m lc k kc:Nat)(x y:List Nat)(W:World)(hx:x.length=m)(hy:y.length=k)(hm:m≤9)(hk:k≤9)(hc:m≤lc)(hkc:k≤kc)(ha:Hid (zca W LA m fun j=>((x.getD j 0:Nat):Int)))(hb:Hid (zca W LB k fun j=>((y.getD j 0:Nat):Int))) :
  CallsIn Fc 0 Tryz.prog 122 #[.slice LA m lc,.slice LB k kc] W (fun e w'=>e=.returned (.bool (decide (∃ a,a∈x∧a∈y)))∧W=w'):=by
 obtain⟨res,hres⟩:∃ r,decide (∃ a,a∈x∧a∈y)=r:=⟨_,rfl⟩;rw[hres];have HRES:=Lib.hid hres;clear hres;gi_enter Tryz.func122,Tryz.ntmps122;gi_wp2
 gi_loopw [4,5] (fun b v wr=>∃ i:Nat,i≤m∧v=.int .i64 i∧wr=W∧∀ j,j<i→x.getD j 0∉y) (fun _ v _=>m-(intOf v).toNat)
 case atStart=>exact⟨0,by omega,rfl,rfl,fun j hj=>by omega⟩
 case round=>
  obtain⟨i,hi,rfl,rfl,hno⟩:=hrel;have HNO:=Lib.hid hno;clear hno;by_cases hlt:i<m
  ·obtain⟨b1,o1,rfl,q1⟩:=ha.out i hlt;have hltI:(i:Int)<(m:Int):=by omega
   have h99:i<99:=by omega
   obtain⟨xi,hxi⟩:∃ xi,x.getD i 0=xi:=⟨_,rfl⟩
   replace q1:wr.cell? ⟨b1,o1+i,none⟩=some (.int .i64 ((x.getD i 0:Nat):Int)):=q1
   rw[hxi] at q1;obtain⟨has,hhas⟩:∃ b,decide (xi∈y)=b:=⟨_,rfl⟩;have hcall:CallsIn Fc 0 Tryz.prog 40 #[.slice LB k kc,.int .i64 xi] wr fun e w'=>e=.returned (.bool has)∧wr=w':=by
    refine(yub LB k kc (fun j=>y.getD j 0) xi wr hk hkc hb).mono ?_;rintro e w' ⟨g,rfl,hg,rfl⟩;refine⟨?_,rfl⟩;have:g=decide (xi∈y):=by
     rw[Bool.eq_iff_iff,decide_eq_true_iff,hg];constructor
     ·rintro⟨j,hj,e⟩;rw[←e];exact yp (by omega)
     ·intro h;obtain⟨j,hj,e⟩:=List.mem_iff_getElem.1 h;exact⟨j,by omega,by rw[yzb hj];exact e⟩
    rw[this,hhas]
   have HCALL:=Lib.hid hcall;have HHAS:=Lib.hid hhas;have HXI:=Lib.hid hxi;clear hcall hhas hxi;cases has with
   |true=>
    gi_wp2_with (gi_at_call 40;refine HCALL.out.mono ?_;rintro e w7 ⟨rfl,rfl⟩)
    go_ret;have h1:=of_decide_eq_true HHAS.out;have h2:res=true:=by rw[←HRES.out,decide_eq_true_iff];exact⟨xi,by rw[←HXI.out];exact yp (by omega),h1⟩
    rw[h2];exact⟨rfl,rfl⟩
   |false=>
    gi_wp2_with (gi_at_call 40;refine HCALL.out.mono ?_;rintro e w7 ⟨rfl,rfl⟩)
    go_roundw
    case rel=>
     refine⟨i+1,by omega,by go_num,trivial,fun j hj=>?_⟩;by_cases e:j=i
     ·subst e;rw[HXI.out];exact of_decide_eq_false HHAS.out
     ·exact HNO.out j (by omega)
    case measure=>simp[intOf];omega
  ·obtain rfl:i=m:=by omega
   have hltI:¬(i:Int)<(i:Int):=by omega
   have h2:res=false:=by rw[←HRES.out,decide_eq_false_iff_not];rintro⟨a,ha1,ha2⟩;obtain⟨j,hj,e⟩:=List.mem_iff_getElem.1 ha1;refine HNO.out j (by omega) ?_;rw[yzb hj,e];exact ha2
   subst h2;gi_wp2;go_ret;exact⟨rfl,rfl⟩
theorem yga(LA LB:Option Addr)(lc kc:Nat)(R:List (List Nat))(W:World)(h600:R.length≤600)(hx9:∀ k,k<R.length→(R.getD k []).length≤9)(hc:R.length≤lc)(hkc:R.length≤kc)(ha:Hid (zlc W (.slice LA R.length lc) R))(hb:Hid (zlc W (.slice LB R.length kc) R)) :
  CallsIn Fc 0 Tryz.prog 24 #[.slice LA R.length lc,.slice LB R.length kc] W (fun e w'=>e=.returned (.bool true)∧Below W.heap.size W w'):=by
 obtain⟨_,_,e,_,hra⟩:=ha.out;cases e;obtain⟨_,_,e,_,hrb⟩:=hb.out;cases e;have HRA:=Lib.hid hra;have HRB:=Lib.hid hrb;clear hra hrb ha hb;gi_enter Tryz.func24,Tryz.ntmps24;gi_wp2
 gi_loopw [4,5] (fun b v wr=>∃ i:Nat,i≤R.length∧v=.int .i64 i∧Below W.heap.size W wr) (fun _ v _=>R.length-(intOf v).toNat)
 case atStart=>exact⟨0,by omega,rfl,Below.refl _ _⟩
 case round=>
  obtain⟨i,hi,rfl,hbw⟩:=hrel;have HBW:=Lib.hid hbw;clear hbw;by_cases hlt:i<R.length
  ·obtain⟨b1,o1,LX,kx,rfl,q1,hkx,hix⟩:=HRA.out i hlt;obtain⟨b2,o2,LY,ky,rfl,q2,hky,hiy⟩:=HRB.out i hlt;have h9:=hx9 i hlt;obtain⟨x,hx⟩:∃ x,R.getD i []=x:=⟨_,rfl⟩;rw[hx] at q1 q2 hkx hky hix hiy h9;obtain⟨l,hl⟩:∃ l,x.length=l:=⟨_,rfl⟩;rw[hl] at q1 q2 hkx hky hix hiy h9;have hcall:∀ w,Below W.heap.size W w→CallsIn Fc 0 Tryz.prog 27 #[.slice LX l kx,.slice LY l ky] w fun e w'=>e=.returned (.bool true)∧Below w.heap.size w w':=fun w hbw=>by refine(yDa LX LY l kx l ky (fun j=>x.getD j 0) (fun j=>x.getD j 0) w (by omega) (by omega) hkx hky (Lib.hid (hix.below hbw)) (Lib.hid (hiy.below hbw))).mono ?_;rintro e w' ⟨g,rfl,hg,hb'⟩;exact⟨by rw[hg.2 ⟨rfl,fun _ _=>rfl⟩],hb'⟩
   have HCALL:=Lib.hid hcall;have hltI:(i:Int)<(R.length:Int):=by omega
   have h99:i<999:=by omega
   have Q1:=Lib.hid (Below.old HBW.out q1);have Q2:=Lib.hid (Below.old HBW.out q2);clear hcall hix hiy q1 q2 hx hl;gi_wp2;refine zL (D:=[(17,.slice (some ⟨b1,o1,none⟩) R.length lc),(18,.int .i64 i),(19,.pointer (some ⟨b1,o1+i,none⟩)),(20,.slice LX l kx),(21,.slice (some ⟨b2,o2,none⟩) R.length kc),(22,.int .i64 i),(23,.pointer (some ⟨b2,o2+i,none⟩)),(24,.slice LY l ky),(25,.bool true),(26,.bool false)])
    (I:=fun w=>Below wr.heap.size wr w) (z:=27) (by kernel_rfl) (by kernel_rfl) (by kernel_rfl) (by kernel_rfl) (by kernel_rfl) rfl rfl (Below.refl _ _).drew ?_ ?_
   ·intro j a w hj hd hz hold hf hI;have HI:=Lib.hid hI;have a1:=Below.old hI Q1.out;have a2:=Below.old hI Q2.out;clear hI;have s0:=zc hz (hold 0 (by kernel_rfl)) (by omega);have s1:=zc hz (hold 1 (by kernel_rfl)) (by omega);have s5:=zc hz (hold 5 (by kernel_rfl)) (by omega);clear hold;have hjs:j=0∨j=1∨j=2∨j=3∨j=4∨j=5∨j=6∨j=7∨j=8∨j=9:=by have:j<10:=hj;omega
    rcases hjs with rfl|rfl|rfl|rfl|rfl|rfl|rfl|rfl|rfl|rfl
    all_goals
     try have f17:=zc hz (hf 0 17 _ rfl rfl) (by omega)
     try have f18:=zc hz (hf 1 18 _ rfl rfl) (by omega)
     try have f19:=zc hz (hf 2 19 _ rfl rfl) (by omega)
     try have f21:=zc hz (hf 4 21 _ rfl rfl) (by omega)
     try have f22:=zc hz (hf 5 22 _ rfl rfl) (by omega)
     try have f23:=zc hz (hf 6 23 _ rfl rfl) (by omega)
     try have f20:=zc hz (hf 3 20 _ rfl rfl) (by omega)
     try have f24:=zc hz (hf 7 24 _ rfl rfl) (by omega)
     try have f25:=zc hz (hf 8 25 _ rfl rfl) (by omega)
     refine wpOpIn_step rfl fun K hK=>?_
     go_simp
     first
      |exact hK _ _ ⟨_,_,rfl,rfl,rfl,HI.out⟩
      |(refine(HCALL.out w (HBW.out.trans (HI.out.mono HBW.out.size))).mono ?_;rintro e w' ⟨rfl,hb'⟩;exact hK _ _ ⟨_,_,rfl,rfl,rfl,(HI.out.trans (hb'.mono HI.out.size))⟩)
   intro w6 hI;have HB6:=Lib.hid (HBW.out.trans (hI.mono HBW.out.size));clear hI;simp only[List.foldl_cons,List.foldl_nil,List.setIfInBounds_toArray,List.set_cons_succ,List.set_cons_zero];gi_wp2;go_roundw
   case rel=>exact⟨i+1,by omega,by go_num,HB6.out⟩
   case measure=>simp[intOf];omega
  ·obtain rfl:i=R.length:=by omega
   have hltI:¬(R.length:Int)<(R.length:Int):=by omega
   gi_wp2;go_ret;exact⟨rfl,HBW.out⟩
end
section
open Go.RowKit
theorem refNear_any(rs rl rw many:Int)(b o n c i1 i2 m:Nat)(sh:Nat→Shaft)(W:World)(h1:i1<n)(h2:i2<n)(hm:m<3)(hst:Hid (zxa rs rl rw many n sh))(hsh:Hid (zA W (some ⟨b,o,none⟩) n sh)) :
  CallsIn Fc 0 Tryz.prog 111 #[zga rs rl rw many (some ⟨b,o,none⟩) n c,.int .i64 i1,.int .i64 i2,.int .i64 m] W (ya (nearOf rs rl rw (sh i1) (sh i2) m) W):=by
 have hn:=hst.out.count;obtain⟨b1,o1,e1,hx⟩:=hsh.out i1 h1;cases e1;obtain⟨b2,o2,e2,hy⟩:=hsh.out i2 h2;cases e2;have sp1:=(hst.out.each i1 h1).spans;have sp2:=(hst.out.each i2 h2).spans;have p1:=sp1.least m hm;have p2:=sp1.up m hm;have p3:=sp1.most m hm;have q1:=sp2.least m hm;have q2:=sp2.up m hm;have q3:=sp2.most m hm;clear sp1 sp2;obtain⟨B,hB⟩:∃ B:Obj,B=.cells #[.int .i64 rs,.int .i64 rl,.int .i64 rw,.int .i64 many,.slice (some ⟨b,o,none⟩) n c] 26:=⟨_,rfl⟩;obtain⟨v,hv⟩:∃ v:Int,nearOf rs rl rw (sh i1) (sh i2) m=v:=⟨_,rfl⟩;rw[hv];unfold nearOf at hv;gi_enter Tryz.func111,Tryz.ntmps111;gi_wp2;rw[←hB]
 refine yC 18 9 10 (D:=[some (12,.pointer (some ⟨W.heap.size,4,none⟩)),some (13,.slice (some ⟨b,o,none⟩) n c),some (14,.int .i64 i1),some (15,.pointer (some ⟨b,o+i1*7,none⟩)),some (16,yJb (sh i1)),some (17,.int .i64 m),some (18,spanV (spanA (sh i1) m) (spanB (sh i1) m)),some (19,.pointer (some ⟨W.heap.size,4,none⟩)),some (20,.slice (some ⟨b,o,none⟩) n c),some (21,.int .i64 i2),some (22,.pointer (some ⟨b,o+i2*7,none⟩)),some (23,yJb (sh i2)),some (24,.int .i64 m),some (25,spanV (spanA (sh i2) m) (spanB (sh i2) m)),some (26,.pointer (some ⟨W.heap.size,0,none⟩)),some (27,.agg #[.int .i64 rs,.int .i64 rl,.int .i64 rw,.int .i64 many]),some (28,.int .i64 m),some (29,.int .i64 (allowOf rs rl rw m)),none,none,none,none,some (11,.int .i64 (allowOf rs rl rw m))])
  (I:=fun w=>Below (W.heap.size+1) (W.alloc B) w) (lo:=W.heap.size+1) (z:=62) (u1:=spanA (sh i1) m) (v1:=spanB (sh i1) m) (u2:=spanA (sh i2) m) (v2:=spanB (sh i2) m) (by kernel_rfl) (by kernel_rfl) (by decide) rfl rfl (by kernel_rfl) (by kernel_rfl) (by omega) (by omega) (by omega) (by kernel_rfl) (by kernel_rfl) rfl rfl
  (fun w h=>by have:=h.size;simpa using this) (fun w x h=>h.alloc (by have:=h.size;simpa using this) _) (fun w p j x h hp=>h.setCell hp _) (Below.refl _ _).drew ?_ ?_ ?_ ?_ ?_ ?_
 ·intro j a w hj hnr hd hz hold hf hI;rw[hB] at hI;obtain⟨c0,c1,c2,c3,c4⟩:=box_cells hI;have HIB:Hid (Below (W.heap.size+1) (W.alloc B) w):=Lib.hid (by rw[hB];exact hI);have HSZ:W.heap.size+1≤w.heap.size:=by have:=hI.size;simpa using this
  have hBW:Below W.heap.size W w:=((Below.refl W.heap.size W).alloc (Nat.le_refl _) _).trans (hI.mono (by omega));obtain⟨x0,x1,x2,x3,x4,x5,x6⟩:=hx.below hBW;obtain⟨y0,y1,y2,y3,y4,y5,y6⟩:=hy.below hBW;have HBW:=Lib.hid hBW;clear hI hBW;have s1:=zc hz (hold 1 (by kernel_rfl) (by omega) (by omega)) (by omega);have s2:=zc hz (hold 2 (by kernel_rfl) (by omega) (by omega)) (by omega);have s3:=zc hz (hold 3 (by kernel_rfl) (by omega) (by omega)) (by omega);have s4:=zc hz (hold 4 (by kernel_rfl) (by omega) (by omega)) (by omega);clear hold;have hjs:j=0∨j=1∨j=2∨j=3∨j=4∨j=5∨j=6∨j=7∨j=8∨j=9∨j=10∨j=11∨j=12∨j=13∨j=14∨j=15∨j=16∨j=17∨j=22:=by have:j<23:=hj;omega
  rcases hjs with rfl|rfl|rfl|rfl|rfl|rfl|rfl|rfl|rfl|rfl|rfl|rfl|rfl|rfl|rfl|rfl|rfl|rfl|rfl
  ·refine wpOpIn_step rfl fun K hK=>?_
   go_simp;exact hK _ _ ⟨_,_,rfl,rfl,rfl,HIB.out,Below.refl _ _⟩
  ·have f12:=zc hz (hf 0 12 _ (by kernel_rfl) rfl) (by omega);refine wpOpIn_step rfl fun K hK=>?_
   go_simp;exact hK _ _ ⟨_,_,rfl,rfl,rfl,HIB.out,Below.refl _ _⟩
  ·refine wpOpIn_step rfl fun K hK=>?_
   go_simp;exact hK _ _ ⟨_,_,rfl,rfl,rfl,HIB.out,Below.refl _ _⟩
  ·have f13:=zc hz (hf 1 13 _ (by kernel_rfl) rfl) (by omega);have f14:=zc hz (hf 2 14 _ (by kernel_rfl) rfl) (by omega);refine wpOpIn_step rfl fun K hK=>?_
   go_simp;exact hK _ _ ⟨_,_,rfl,rfl,rfl,HIB.out,Below.refl _ _⟩
  ·have f15:=zc hz (hf 3 15 _ (by kernel_rfl) rfl) (by omega);refine wpOpIn_step rfl fun K hK=>?_
   go_simp;exact hK _ _ ⟨_,_,rfl,rfl,rfl,HIB.out,Below.refl _ _⟩
  ·refine wpOpIn_step rfl fun K hK=>?_
   go_simp;exact hK _ _ ⟨_,_,rfl,rfl,rfl,HIB.out,Below.refl _ _⟩
  ·have f16:=zc hz (hf 4 16 _ (by kernel_rfl) rfl) (by omega);have f17:=zc hz (hf 5 17 _ (by kernel_rfl) rfl) (by omega);refine wpOpIn_step rfl fun K hK=>?_
   go_simp;refine(yEa (sh i1) m hm _).mono ?_;rintro e w' ⟨rfl,hb'⟩;exact hK _ _ ⟨_,_,rfl,rfl,rfl,HIB.out.trans (hb'.mono HSZ),hb'⟩
  ·refine wpOpIn_step rfl fun K hK=>?_
   go_simp;exact hK _ _ ⟨_,_,rfl,rfl,rfl,HIB.out,Below.refl _ _⟩
  ·have f19:=zc hz (hf 7 19 _ (by kernel_rfl) rfl) (by omega);refine wpOpIn_step rfl fun K hK=>?_
   go_simp;exact hK _ _ ⟨_,_,rfl,rfl,rfl,HIB.out,Below.refl _ _⟩
  ·refine wpOpIn_step rfl fun K hK=>?_
   go_simp;exact hK _ _ ⟨_,_,rfl,rfl,rfl,HIB.out,Below.refl _ _⟩
  ·have f20:=zc hz (hf 8 20 _ (by kernel_rfl) rfl) (by omega);have f21:=zc hz (hf 9 21 _ (by kernel_rfl) rfl) (by omega);refine wpOpIn_step rfl fun K hK=>?_
   go_simp;exact hK _ _ ⟨_,_,rfl,rfl,rfl,HIB.out,Below.refl _ _⟩
  ·have f22:=zc hz (hf 10 22 _ (by kernel_rfl) rfl) (by omega);refine wpOpIn_step rfl fun K hK=>?_
   go_simp;exact hK _ _ ⟨_,_,rfl,rfl,rfl,HIB.out,Below.refl _ _⟩
  ·refine wpOpIn_step rfl fun K hK=>?_
   go_simp;exact hK _ _ ⟨_,_,rfl,rfl,rfl,HIB.out,Below.refl _ _⟩
  ·have f23:=zc hz (hf 11 23 _ (by kernel_rfl) rfl) (by omega);have f24:=zc hz (hf 12 24 _ (by kernel_rfl) rfl) (by omega);refine wpOpIn_step rfl fun K hK=>?_
   go_simp;refine(yEa (sh i2) m hm _).mono ?_;rintro e w' ⟨rfl,hb'⟩;exact hK _ _ ⟨_,_,rfl,rfl,rfl,HIB.out.trans (hb'.mono HSZ),hb'⟩
  ·refine wpOpIn_step rfl fun K hK=>?_
   go_simp;exact hK _ _ ⟨_,_,rfl,rfl,rfl,HIB.out,Below.refl _ _⟩
  ·have f26:=zc hz (hf 14 26 _ (by kernel_rfl) rfl) (by omega);refine wpOpIn_step rfl fun K hK=>?_
   go_simp;exact hK _ _ ⟨_,_,rfl,rfl,rfl,HIB.out,Below.refl _ _⟩
  ·refine wpOpIn_step rfl fun K hK=>?_
   go_simp;exact hK _ _ ⟨_,_,rfl,rfl,rfl,HIB.out,Below.refl _ _⟩
  ·have f27:=zc hz (hf 15 27 _ (by kernel_rfl) rfl) (by omega);have f28:=zc hz (hf 16 28 _ (by kernel_rfl) rfl) (by omega);refine wpOpIn_step rfl fun K hK=>?_
   go_simp;refine(Allowed_any rs rl rw many m hm _).mono ?_;rintro e w' ⟨rfl,hb'⟩;exact hK _ _ ⟨_,_,rfl,rfl,rfl,HIB.out.trans (hb'.mono HSZ),hb'⟩
  ·have f29:=zc hz (hf 17 29 _ (by kernel_rfl) rfl) (by omega);refine wpOpIn_step rfl fun K hK=>?_
   go_simp;exact hK _ _ ⟨_,_,rfl,rfl,rfl,HIB.out,Below.refl _ _⟩
 ·intro a w hd hz;refine wpOpIn_step rfl fun K hK=>?_
  go_simp;exact hK _ _ ⟨rfl,rfl,rfl⟩
 ·intro a w hd hz;refine wpOpIn_step rfl fun K hK=>?_
  go_simp;exact hK _ _ ⟨rfl,rfl,rfl⟩
 ·intro a w p u v hd hz hp hs hf;have f9:=zc hz hp (by omega);have f18:=zc hz (hf 6 18 _ (by kernel_rfl) rfl) (by omega);have z0:=hs.frozen 0;have z1:=hs.frozen 1;obtain⟨y0,y1⟩:=hs.cell;refine wpOpIn_step rfl fun K hK=>?_
  go_simp;exact hK _ _ ⟨hd,rfl,rfl⟩
 ·intro a w p u v hd hz hp hs hf;have f10:=zc hz hp (by omega);have f25:=zc hz (hf 13 25 _ (by kernel_rfl) rfl) (by omega);have z0:=hs.frozen 0;have z1:=hs.frozen 1;obtain⟨y0,y1⟩:=hs.cell;refine wpOpIn_step rfl fun K hK=>?_
  go_simp;exact hK _ _ ⟨hd,rfl,rfl⟩
 ·intro w p q hI hpq hp hq hs1 hs2;have HBW:Hid (Below W.heap.size W w):=Lib.hid (((Below.refl W.heap.size W).alloc (Nat.le_refl _) _).trans (hI.mono (by omega)));clear hI;obtain⟨a0,a1⟩:=hs1.cell;obtain⟨b0,b1⟩:=hs2.cell;have lp:=hs1.lt;have lq:=hs2.lt;clear hs1 hs2;simp only[List.filterMap_cons,List.filterMap_nil,List.foldl_cons,List.foldl_nil,List.setIfInBounds_toArray,List.set_cons_succ,List.set_cons_zero];clear hsh hst hx hy hB;generalize spanA (sh i1) m=am at *;generalize spanB (sh i1) m=aM at *;generalize spanA (sh i2) m=bm at *;generalize spanB (sh i2) m=bM at *;generalize allowOf rs rl rw m=al at *;have w1:IntKind.wrap .i64 (aM-bm)=aM-bm:=by simp[IntKind.wrap,IntKind.signed,IntKind.bits];omega
  have w2:IntKind.wrap .i64 (bM-am)=bM-am:=by simp[IntKind.wrap,IntKind.signed,IntKind.bits];omega
  have w3:IntKind.wrap .i64 (am-bM)=am-bM:=by simp[IntKind.wrap,IntKind.signed,IntKind.bits];omega
  have w4:IntKind.wrap .i64 (bm-aM)=bm-aM:=by simp[IntKind.wrap,IntKind.signed,IntKind.bits];omega
  by_cases c1:aM-bm≤al
  ·by_cases c2:bM-am≤al
   ·have hv':nearZ al am aM bm bM=1:=by unfold nearZ;rw[if_pos (by omega)]
    obtain rfl:v=1:=hv.symm.trans hv';gi_wp2;go_ret;exact⟨rfl,HBW.out⟩
   ·by_cases c3:am-bM>al
    ·exfalso;omega
    ·by_cases c4:bm-aM>al
     ·have hv':nearZ al am aM bm bM=2:=by unfold nearZ;rw[if_neg (by omega),if_pos (by omega)]
      obtain rfl:v=2:=hv.symm.trans hv';gi_wp2;go_ret;exact⟨rfl,HBW.out⟩
     ·have hv':nearZ al am aM bm bM=0:=by unfold nearZ;rw[if_neg (by omega),if_neg (by omega)]
      obtain rfl:v=0:=hv.symm.trans hv';gi_wp2;go_ret;exact⟨rfl,HBW.out⟩
  ·by_cases c3:am-bM>al
   ·have hv':nearZ al am aM bm bM=2:=by unfold nearZ;rw[if_neg (by omega),if_pos (by omega)]
    obtain rfl:v=2:=hv.symm.trans hv';gi_wp2;go_ret;exact⟨rfl,HBW.out⟩
   ·by_cases c4:bm-aM>al
    ·have hv':nearZ al am aM bm bM=2:=by unfold nearZ;rw[if_neg (by omega),if_pos (by omega)]
     obtain rfl:v=2:=hv.symm.trans hv';gi_wp2;go_ret;exact⟨rfl,HBW.out⟩
    ·have hv':nearZ al am aM bm bM=0:=by unfold nearZ;rw[if_neg (by omega),if_neg (by omega)]
     obtain rfl:v=0:=hv.symm.trans hv';gi_wp2;go_ret;exact⟨rfl,HBW.out⟩
end
section
open Go.RowKit
section
variable {F:Fence}{n:Nat}{P:Program}{ops:Array Oper}{Q:Exit→Act→World→Prop}
structure RE(ops:Array Oper)(k e:Nat)(D:List (Nat×Value))(I:Bool→World→Prop)(z:Nat)(a0:Act)(listed:Array Bool)(a:Act)(w:World):Prop where
 defers:a.defers=[]
 size:a.tmps.size=z
 old:∀ s,(∀ x∈D,x.1≠s)→a.eval (.tmp s)=a0.eval (.tmp s)
 inv:I (listed.getD e false) w
 fact:∀(j d:Nat) (v:Value),D[j]? = some (d,v)→listed.getD j false=true→a.eval (.tmp d)=v
 closed:∀ i,listed.getD i false=true→∀ j,depB ops i j=true→listed.getD j false=true
 none:∀ i,k≤i→listed.getD i false=false
theorem wpIn_region_E(k e:Nat)(D:List (Nat×Value)){I:Bool→World→Prop}{z:Nat}{a0:Act}{id:Nat}{w:World}(hm:P.follows .mixedOrders=true)(hb:backB .any ops=true)(hcl:closB ops k=true)(hch:chainB ops k=true)(hk:k<ops.size)(hek:e<k)
  (hD:D.length=k∧(List.range k).all (fun j=>dstAt ops j==(D.map (·.1))[j]?)=true) (hnd:nodupB (D.map (·.1))=true) (hDz:(D.map (·.1)).all (fun d=>decide (d<z))=true) (hd:a0.defers=[]) (hz:a0.tmps.size=z)
  (h0:I false {w with drawn:=w.drawn+1})
  (hJ:∀ b j a w,j<k→j≠e→a.defers=[]→a.tmps.size=z→(∀ s,(∀ x∈D.map (·.1),x≠s)→a.eval (.tmp s)=a0.eval (.tmp s))→(∀ k d v,depB ops j k=true→D[k]? = some (d,v)→a.eval (.tmp d)=v)→I b w →
   wpOpIn F n P ops Q j (fun a' w'=>∃ d v,D[j]? = some (d,v)∧a'.defers=[]∧a'.tmps=a.tmps.setIfInBounds d v∧I b w') a w)
  (hJe:∀ a w,a.defers=[]→a.tmps.size=z→(∀ s,(∀ x∈D.map (·.1),x≠s)→a.eval (.tmp s)=a0.eval (.tmp s))→(∀ k d v,depB ops e k=true→D[k]? = some (d,v)→a.eval (.tmp d)=v)→I false w →
   wpOpIn F n P ops Q e (fun a' w'=>∃ d v,D[e]? = some (d,v)∧a'.defers=[]∧a'.tmps=a.tmps.setIfInBounds d v∧I true w') a w)
  (hL:∀ w,I true w→wpListIn F n P ops Q (ops.toList.drop k) {tmps:=D.foldl (fun t x=>t.setIfInBounds x.1 x.2) a0.tmps,defers:=[]} w):(Code.region id ops true).wpIn F n P Q a0 w:=by
 obtain⟨hlen,hdst⟩:=hD;have hat:∀ j,j<k→∃ d v,D[j]? = some (d,v)∧dstAt ops j=some d∧d<z:=fun j hj=>by
  have hj':j<D.length:=by omega
  refine⟨D[j].1,D[j].2,by simp[hj'],?_,of_decide_eq_true (List.all_eq_true.1 hDz D[j].1 (List.mem_map.2 ⟨D[j],List.getElem_mem hj',rfl⟩))⟩;have h1:=List.all_eq_true.1 hdst j (List.mem_range.2 hj);rw[List.getElem?_map] at h1;simpa[hj'] using h1
 have hnd':(D.map (·.1)).Nodup:=of_decide_eq_true hnd
 have stepL:∀(t:Nat) (listed:Array Bool) (a:Act) (w:World) (i:Nat),RL F n P ops Q t listed a w→i=t→i∈Region.ready .any ops listed→wpOpIn F n P ops Q i (fun a' w'=>RL F n P ops Q (t+1) (listed.setIfInBounds i true) a' w') a w:=by
  rintro t listed a w i h rfl hi;have his:i<ops.size:=by obtain⟨_,o,h3,_⟩:=mem_ready.1 hi;exact(Array.getElem?_eq_some_iff.1 h3).1
  have hgo:=h.go;rw[List.drop_eq_getElem_cons (by simpa using his)] at hgo;have hop:wpOpIn F n P ops Q i (wpListIn F n P ops Q (ops.toList.drop (i+1))) a w:=by unfold wpOpIn;rw[show ops[i]? = some ops[i] by simp[his]];simp only[Array.getElem_toList] at hgo;simpa[wpListIn] using hgo
  refine wpOpIn_mono (fun a' w' h'=>⟨fun j hj=>?_,fun j hj=>?_,h'⟩) hop
  ·by_cases e:j=i
   ·subst e;exact yo hi
   ·rw[gset (fun e'=>e e'.symm)];exact h.yes j (by omega)
  ·rw[gset (by omega)];exact h.no j (by omega)
 refine yh (J:=fun listed a w=>RE ops k e D I z a0 listed a w∨∃ t,k<t∧RL F n P ops Q t listed a w) hm hb (.inl ?_) (fun listed a w i hJ' hi=>?_) fun listed a w hJ' hall=>?_
 ·refine⟨hd,hz,fun _ _=>rfl,by rw[show(Array.replicate ops.size false).getD e false=false by rw[Array.getD_eq_getD_getElem?];simp[show e<ops.size by omega]];exact h0,fun j d v _ hl=>?_,fun i hl=>?_,fun i hi=>?_⟩
  ·rw[Array.getD_eq_getD_getElem?] at hl;rcases Nat.lt_or_ge j ops.size with h|h<;>simp[h] at hl
  ·rw[Array.getD_eq_getD_getElem?] at hl;rcases Nat.lt_or_ge i ops.size with h|h<;>simp[h] at hl
  ·rw[Array.getD_eq_getD_getElem?];rcases Nat.lt_or_ge i ops.size with h|h<;>simp[h]
 ·have his:i<ops.size:=by obtain⟨_,o,h3,_⟩:=mem_ready.1 hi;exact(Array.getElem?_eq_some_iff.1 h3).1
  rcases hJ' with hj|⟨t,hkt,hl⟩
  ·by_cases hik:i<k
   ·obtain⟨di,vi,hDi,hdi,hdz⟩:=hat i hik;have hop:wpOpIn F n P ops Q i (fun a' w'=>∃ d v,D[i]? = some (d,v)∧a'.defers=[]∧a'.tmps=a.tmps.setIfInBounds d v∧I ((listed.setIfInBounds i true).getD e false) w') a w:=by
     have hold:=fun(s:Nat) (hs:∀ x∈D.map (·.1),x≠s)=>hj.old s fun x hx=>hs x.1 (List.mem_map.2 ⟨x,hx,rfl⟩)
     have hfacts:=fun m d v (hdep:depB ops i m=true) (e:D[m]? = some (d,v))=>hj.fact m d v e (dep hi hdep)
     have hinv:=hj.inv;by_cases hie:i=e
     ·subst hie;rw[yla hi] at hinv;rw[yo hi];exact hJe a w hj.defers hj.size hold hfacts hinv
     ·rw[gset hie];exact hJ _ i a w hik hie hj.defers hj.size hold hfacts hinv
    refine wpOpIn_mono (fun a' w' h=>.inl ?_) hop;obtain⟨d,v,e0,h1,h2,h3⟩:=h;rw[hDi] at e0;cases e0;have ha':∀ s,s≠di→a'.eval (.tmp s)=a.eval (.tmp s):=fun s hs=>by simp only[Act.eval,h2];simp[Ne.symm hs]
    refine⟨h1,by rw[h2];simpa using hj.size,fun s hs=>?_,h3,fun j d v hjd hl=>?_,fun m hm m' hm'=>?_,fun m hm=>?_⟩
    ·rw[ha' s fun e=>hs (di,vi) (List.mem_iff_getElem?.2 ⟨i,hDi⟩) e.symm];exact hj.old s hs
    ·by_cases e:j=i
     ·subst e;rw[hDi] at hjd;cases hjd;simp only[Act.eval,h2];simp[show di<a.tmps.size by rw[hj.size];exact hdz]
     ·rw[gset (fun e'=>e e'.symm)] at hl;have hne:d≠di:=fun e'=>by
       subst e';have q1:(D.map (·.1))[j]? = some d:=by rw[List.getElem?_map,hjd];rfl
       have q2:(D.map (·.1))[i]? = some d:=by rw[List.getElem?_map,hDi];rfl
       have hj':=(List.getElem?_eq_some_iff.1 q1).1;exact e ((List.getElem?_inj hj' hnd').1 (q1.trans q2.symm))
      rw[ha' d hne];exact hj.fact j d v hjd hl
    ·by_cases e:m=i
     ·subst e;by_cases e2:m=m'
      ·subst e2;exact yo hi
      ·rw[gset e2];exact dep hi hm'
     ·rw[gset (fun e'=>e e'.symm)] at hm;have:=hj.closed m hm m' hm';by_cases e2:i=m'
      ·subst e2;exact yo hi
      ·rw[gset e2];exact this
    ·rw[gset (by omega)];exact hj.none m hm
   ·
    have hik':i=k:=by
     rcases Nat.lt_or_ge k i with h|h
     ·exfalso;have h1:=List.all_eq_true.1 hch i (List.mem_range.2 his);simp only[show¬ i≤k by omega,decide_false,Bool.false_or] at h1;have h2:=dep hi h1;rw[hj.none (i-1) (by omega)] at h2;cases h2
     ·omega
    subst hik';have hyes:∀ j,j<i→listed.getD j false=true:=fun j hj'=>by
     have h1:=List.all_eq_true.1 hcl j (List.mem_range.2 hj');have h2:=yR (k:=i) hj.closed (fun j h=>dep hi h) (i+1) [i] (fun s hs=>.inl (by simpa using hs)) j (by simpa using h1);rcases h2 with e|e
     ·omega
     ·exact e
    have e0:D.foldl (fun t x=>t.setIfInBounds x.1 x.2) a0.tmps=a.tmps:=by
     refine yZ a D a0.tmps (by rw[hz,hj.size]) (fun x hx=>?_) fun s hs=>(hj.old s hs).symm
     obtain⟨j,hj',rfl⟩:=List.mem_iff_getElem.1 hx;exact hj.fact j D[j].1 D[j].2 (by simp[hj']) (hyes j (by omega))
    have hinv:=hj.inv;rw[hyes e hek] at hinv;have h1:=hL w hinv;rw[e0] at h1;obtain⟨tm,df⟩:=a;have hdf:=hj.defers;simp only at hdf;subst hdf;exact wpOpIn_mono (fun a' w' h=>.inr ⟨i+1,by omega,h⟩) (stepL i listed _ w i ⟨hyes,fun j hj'=>hj.none j hj',h1⟩ rfl hi)
  ·have hit:i=t:=by
    rcases Nat.lt_trichotomy i t with h|h|h
    ·exfalso;have h1:=hl.yes i h;rw[yla hi] at h1;cases h1
    ·exact h
    ·exfalso;have h1:=List.all_eq_true.1 hch i (List.mem_range.2 his);simp only[show¬ i≤k by omega,decide_false,Bool.false_or] at h1;have h2:=dep hi h1;rw[hl.no (i-1) (by omega)] at h2;cases h2
   exact wpOpIn_mono (fun a' w' h=>.inr ⟨t+1,by omega,h⟩) (stepL t listed a w i hl hit hi)
 ·rcases hJ' with hj|⟨t,hkt,hl⟩
  ·have:=hall k hk;rw[hj.none k (Nat.le_refl _)] at this;cases this
  ·have ht:ops.size≤t:=by
    rcases Nat.lt_or_ge t ops.size with h|h
    ·have:=hall t h;rw[hl.no t (Nat.le_refl _)] at this;cases this
    ·exact h
   have hgo:=hl.go;rw[List.drop_eq_nil_of_le (by simpa using ht)] at hgo;simpa[wpListIn] using hgo
end
end
end Go.Proofs.YtpdmgecbapmgdaaGreat
