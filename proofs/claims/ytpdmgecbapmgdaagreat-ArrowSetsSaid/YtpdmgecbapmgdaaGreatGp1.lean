/- A part of the proof that ArrowSets returns true for every input: no further condition. -/
import Derived.Test.YtpdmgecbapmgdaaGreatGp0
import Derived.Laws.EntriesVeiled
set_option linter.unusedVariables false
namespace Go.Proofs.YtpdmgecbapmgdaaGreat
section
open Go.RowKit
def depB(ops:Array Oper)(i j:Nat):Bool:=match ops[i]? with
 |some o=>o.after.toList.any fun e=>e.on==j&&Region.binds .any e
 |none=>false
theorem dep{ops:Array Oper}{listed:Array Bool}{i j:Nat}(hi:i∈Region.ready .any ops listed)(hB:depB ops i j=true):listed.getD j false=true:=by obtain⟨_,o,h2,h3⟩:=mem_ready.1 hi;unfold depB at hB;rw[h2] at hB;obtain⟨e,he,hb⟩:=List.any_eq_true.1 hB;simp only[Bool.and_eq_true,beq_iff_eq] at hb;rw[←hb.1];exact h3 e (by simpa using he) hb.2
theorem gset{l:Array Bool}{i j:Nat}(h:i≠j):(l.setIfInBounds i true).getD j false=l.getD j false:=getD_set_ne false h
theorem yMc{ops:Array Oper}{listed:Array Bool}{i:Nat}(hi:i∈Region.ready .any ops listed):i<listed.size:=by
 have h:=(mem_ready.1 hi).1;rcases Nat.lt_or_ge i listed.size with h'|h'
 ·exact h'
 ·rw[Array.getD_eq_getD_getElem?,Array.getElem?_eq_none h'] at h;simp at h
theorem yla{ops:Array Oper}{listed:Array Bool}{i:Nat}(hi:i∈Region.ready .any ops listed):listed.getD i false=false:=by have h:=(mem_ready.1 hi).1;have hs:=yMc hi;rw[Array.getD_eq_getD_getElem?] at h ⊢;simp[hs] at h ⊢;exact h
theorem yo{ops:Array Oper}{listed:Array Bool}{i:Nat}(hi:i∈Region.ready .any ops listed):(listed.setIfInBounds i true).getD i false=true:=by have hs:=yMc hi;rw[Array.getD_eq_getD_getElem?];simp[hs]
theorem zI.frozen{w:World}{p:Nat}{a b:Int}(h:zI w p a b)(j:Nat):w.frozen? ⟨p,j,none⟩=false:=by unfold zI at h;simp[World.frozen?,h]
theorem zI.set{w:World}{p:Nat}{a b:Int}(h:zI w p a b)(x y:Int):zI ((w.setCell ⟨p,0,none⟩ (.int .i64 x)).setCell ⟨p,1,none⟩ (.int .i64 y)) p x y:=by unfold zI at h ⊢;simp[World.setCell,Array.getElem?_modify,h]
theorem zI.far{w:World}{p q:Nat}{a b:Int}(h:zI w p a b)(hne:q≠p)(j:Nat)(x:Value):zI (w.setCell ⟨q,j,none⟩ x) p a b:=by unfold zI at h ⊢;simp[World.setCell,Array.getElem?_modify,hne,h]
theorem zI.below{w w':World}{p:Nat}{a b:Int}(h:zI w p a b)(hb:Below w.heap.size w w'):zI w' p a b:=h.grown (yk hb) (fun g e=>by cases e)
end
end Go.Proofs.YtpdmgecbapmgdaaGreat
