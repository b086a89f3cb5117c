/- Ground of the proofs of statements about package arrow: it says nothing of a statement by itself, and has no condition. -/
import Derived.Test.YtlabfeofejemjaaGreatCx8
import GoSem.Dispatch
import Derived.Conc.Events
import Derived.Conc.Own
import Derived.CallsIn
import Derived.Conc.Fork
import Derived.Below
set_option linter.unusedSimpArgs false
set_option linter.unusedVariables false
set_option maxHeartbeats 1000000
section
namespace Go.Cx
section
variable {p : Program}
theorem calm_program {α : Type} {Q : α → Prop} {f : Program → Sem α} (h : calm p Q (f p)) : calm p Q (program >>= f) := h
theorem calm_pure {α : Type} (a : α) : calm p (fun _ => True) (pure a : Sem α) := trivial
theorem calm_stuck {α : Type} {Q : α → Prop} (e : String) : calm p Q (stuck e : Sem α) := trivial
theorem calm_unsupported {α : Type} {Q : α → Prop} {u : Unsupported} (h : ∀ g, u ≠ .initOrder g) : calm p Q (unsupported u : Sem α) := h
theorem calm_goPanic {α : Type} {Q : α → Prop} (v : Value) : calm p Q (goPanic v : Sem α) := trivial
theorem calm_load (a : Addr) (m : Mode) : calm p (fun _ => True) (load a m) := fun _ => trivial
theorem calm_store (a : Addr) (v : Value) (m : Mode) : calm p (fun _ => True) (store a v m) := trivial
theorem calm_newRowObj (c : Array Value) (t : TypeId) : calm p (fun _ => True) (newObj (.cells c t)) := ⟨id, fun _ => trivial⟩
theorem calm_newNumber (a : Addr) (l : Bool) : calm p (fun _ => True) (newObj (.number a l)) := ⟨id, fun _ => trivial⟩
theorem calm_choose (q : Question) : calm p (fun _ => True) (choose q) := fun _ => trivial
theorem calm_shape (r : Nat) : calm p (fun _ => True) (shape r) := fun _ => trivial
theorem calm_frozen (a : Addr) : calm p (fun _ => True) (frozen a) := fun _ => trivial
theorem calm_noRoom : calm p (fun _ => True) (mark .noRoom) := ⟨trivial, trivial⟩
theorem calm_getObj {α : Type} {Q : α → Prop} {r : Nat} {f : Obj → Sem α} (h : ∀ o, ¬ bad o → calm p Q (f o)) (hd : dead (f (.coro none)) ∨ ∀ o, bad o → f o = f (.coro none)) : calm p Q (getObj r >>= f) := ⟨h, hd⟩
theorem calm_ite {α : Type} {Q : α → Prop} {c : Prop} [Decidable c] {x y : Sem α} (h1 : c → calm p Q x) (h2 : ¬ c → calm p Q y) : calm p Q (if c then x else y) := by
  by_cases h : c
  · rw [if_pos h]; exact h1 h
  · rw [if_neg h]; exact h2 h
theorem calm_mapM_list {α β : Type} {f : α → Sem β} (h : ∀ a, calm p (fun _ => True) (f a)) : ∀ l : List α, calm p (fun _ => True) (l.mapM f)
  | [] => by rw [List.mapM_nil]; exact trivial
  | a :: l => by rw [List.mapM_cons]; exact calm_bind1 (h a) fun _ => calm_bind1 (calm_mapM_list h l) fun _ => trivial
theorem calm_mapM {α β : Type} {f : α → Sem β} (h : ∀ a, calm p (fun _ => True) (f a)) (as : Array α) : calm p (fun _ => True) (as.mapM f) := by
  rw [Array.mapM_eq_mapM_toList]
  exact calm_map (calm_mono (calm_mapM_list h _) fun _ _ => trivial)
theorem calm_forIn_list {β γ : Type} {f : β → γ → Sem (ForInStep γ)} (h : ∀ b c, calm p (fun _ => True) (f b c)) : ∀ (l : List β) (c : γ), calm p (fun _ => True) (forIn l c f)
  | [], c => by rw [List.forIn_nil]; exact trivial
  | b :: l, c => by
    rw [List.forIn_cons]
    refine calm_bind1 (h b c) fun r => ?_
    cases r with
    | done c => exact trivial
    | yield c => exact calm_forIn_list h l c
theorem calm_forIn_array {β γ : Type} {f : β → γ → Sem (ForInStep γ)} (h : ∀ b c, calm p (fun _ => True) (f b c)) (as : Array β) (c : γ) : calm p (fun _ => True) (forIn as c f) := by
  rw [← Array.forIn_toList]; exact calm_forIn_list h _ _
theorem calm_forIn_range {γ : Type} {f : Nat → γ → Sem (ForInStep γ)} (h : ∀ b c, calm p (fun _ => True) (f b c)) (r : Std.Legacy.Range) (c : γ) : calm p (fun _ => True) (forIn r c f) := by
  rw [Std.Legacy.Range.forIn_eq_forIn_range']; exact calm_forIn_list h _ _
theorem calm_foldlM {α β : Type} {f : β → α → Sem β} (h : ∀ b a, calm p (fun _ => True) (f b a)) : ∀ (l : List α) (b : β), calm p (fun _ => True) (l.foldlM f b)
  | [], b => by rw [List.foldlM_nil]; exact trivial
  | a :: l, b => by rw [List.foldlM_cons]; exact calm_bind1 (h b a) fun b' => calm_foldlM h l b'
theorem calm_askRoom (n : Nat) : calm p (fun _ => True) (askRoom n) := by
  unfold askRoom
  repeat' first | (with_reducible (first | exact calm_pure _ | exact calm_noRoom | apply calm_ite)) | intro _ | split | dsimp only
theorem calm_runtimePanic {α : Type} {Q : α → Prop} (e : RuntimeError) : calm p Q (runtimePanic e : Sem α) := by
  unfold runtimePanic elemOf underlying newVar newRow
  repeat' first | (with_reducible (first | exact calm_pure _ | exact calm_stuck _ | exact calm_goPanic _ | exact calm_newRowObj _ _ | apply calm_program | apply calm_bind1)) | intro _ | split | dsimp only
theorem calm_typeInfo (t : TypeId) : calm p (fun _ => True) (typeInfo t) := by
  unfold typeInfo
  repeat' first | (with_reducible (first | exact calm_pure _ | exact calm_stuck _ | apply calm_program)) | intro _ | split | dsimp only
theorem calm_underlying (t : TypeId) : calm p (fun _ => True) (underlying t) := by
  unfold underlying
  repeat' first | (with_reducible (first | exact calm_pure _ | exact calm_stuck _ | apply calm_program)) | intro _ | split | dsimp only
theorem calm_sizeOf (t : TypeId) : calm p (fun _ => True) (Go.sizeOf t) := by
  unfold Go.sizeOf
  repeat' first | (with_reducible (first | exact calm_pure _ | exact calm_typeInfo _ | apply calm_bind1)) | intro _ | split | dsimp only
theorem calm_isAgg (t : TypeId) : calm p (fun _ => True) (isAgg t) := by
  unfold isAgg
  repeat' first | (with_reducible (first | exact calm_pure _ | exact calm_underlying _ | apply calm_bind1)) | intro _ | split | dsimp only
theorem calm_zeroValue (t : TypeId) : calm p (fun _ => True) (zeroValue t) := by
  unfold zeroValue
  repeat' first | (with_reducible (first | exact calm_pure _ | exact calm_typeInfo _ | apply calm_bind1)) | (refine calm_unsupported (fun g h => ?_); cases h) | intro _ | split | dsimp only
theorem calm_typeStr (t : TypeId) : calm p (fun _ => True) (typeStr t) := by
  unfold typeStr
  repeat' first | (with_reducible (first | exact calm_pure _ | exact calm_typeInfo _ | apply calm_ite | apply calm_bind1)) | (refine calm_unsupported (fun g h => ?_); cases h) | intro _ | split | dsimp only
theorem calm_asIntOf (v : Value) : calm p (fun _ => True) (asIntOf v) := by
  unfold asIntOf
  repeat' first | (with_reducible (first | exact calm_pure _ | exact calm_stuck _)) | (refine calm_unsupported (fun g h => ?_); cases h) | intro _ | split | dsimp only
theorem calm_asInt (v : Value) : calm p (fun _ => True) (asInt v) := by
  unfold asInt
  repeat' first | (with_reducible (first | exact calm_pure _ | exact calm_asIntOf _ | apply calm_bind1)) | intro _ | split | dsimp only
theorem calm_asBool (v : Value) : calm p (fun _ => True) (asBool v) := by
  unfold asBool
  repeat' first | (with_reducible (first | exact calm_pure _ | exact calm_stuck _)) | intro _ | split | dsimp only
theorem calm_asAddr (v : Value) : calm p (fun _ => True) (asAddr v) := by
  unfold asAddr
  repeat' first | (with_reducible (first | exact calm_pure _ | exact calm_stuck _ | exact calm_runtimePanic _)) | intro _ | split | dsimp only
theorem calm_boundsPanic {α : Type} {Q : α → Prop} (k : IntKind) (x y : Int) (code : BoundsCode) : calm p Q (boundsPanic k x y code : Sem α) := by
  unfold boundsPanic
  repeat' first | (with_reducible (first | exact calm_pure _ | exact calm_choose _ | exact calm_runtimePanic _ | apply calm_ite | apply calm_map | apply calm_bind1)) | intro _ | split | dsimp only
theorem calm_loadCellsFrom (a : Addr) : ∀ (n i : Nat) (acc : Array Value), calm p (fun _ => True) (loadCellsFrom a i n acc)
  | 0, i, acc => trivial
  | n + 1, i, acc => by
    unfold loadCellsFrom
    exact calm_bind1 (calm_load _ _) fun v => calm_loadCellsFrom a n (i + 1) _
theorem calm_loadCells (a : Addr) (n : Nat) : calm p (fun _ => True) (loadCells a n) := calm_loadCellsFrom a n 0 #[]
theorem calm_storeCells (a : Addr) : ∀ (vs : List Value) (i : Nat), calm p (fun _ => True) (storeCells a vs i)
  | [], i => by unfold storeCells; exact trivial
  | v :: vs, i => by
    unfold storeCells
    exact calm_bind1 (calm_store _ _ _) fun _ => calm_storeCells a vs (i + 1)
theorem calm_loadVar (t : TypeId) (a : Addr) : calm p (fun _ => True) (loadVar t a) := by
  unfold loadVar
  repeat' first | (with_reducible (first | exact calm_pure _ | exact calm_load _ _ | exact calm_sizeOf _ | exact calm_isAgg _ | exact calm_loadCells _ _ | apply calm_ite | apply calm_bind1)) | intro _ | split | dsimp only
theorem calm_storeVar (t : TypeId) (a : Addr) (v : Value) : calm p (fun _ => True) (storeVar t a v) := by
  unfold storeVar
  repeat' first | (with_reducible (first | exact calm_stuck _ | exact calm_sizeOf _ | exact calm_storeCells _ _ _ | apply calm_ite | apply calm_bind1)) | intro _ | split | dsimp only
theorem calm_newRow (t : TypeId) (c : Array Value) : calm p (fun _ => True) (newRow t c) := by
  unfold newRow
  repeat' first | (with_reducible (first | exact calm_pure _ | exact calm_newRowObj _ _ | apply calm_bind1)) | intro _ | split | dsimp only
theorem calm_newVar (t : TypeId) (v : Value) : calm p (fun _ => True) (newVar t v) := by
  unfold newVar
  repeat' first | (with_reducible (first | exact calm_newRow _ _)) | intro _ | split | dsimp only
theorem calm_part (t : TypeId) (c : Array Value) (o : Nat) : calm p (fun _ => True) (part t c o) := by
  unfold part
  repeat' first | (with_reducible (first | exact calm_pure _ | exact calm_stuck _ | exact calm_sizeOf _ | exact calm_isAgg _ | apply calm_ite | apply calm_bind1)) | intro _ | split | dsimp only
theorem calm_numberAt (r : Nat) : calm p (fun _ => True) (numberAt r) := by
  unfold numberAt
  repeat' first | (with_reducible (first | exact calm_pure _ | exact calm_shape _ | apply calm_getObj | apply calm_ite | apply calm_bind1)) | (left; exact trivial) | (right; intro o hb; cases o <;> first | exact hb.elim | rfl) | intro _ | split | dsimp only
theorem calm_behindNumber (a : Addr) : calm p (fun _ => True) (behindNumber a) := by
  unfold behindNumber
  repeat' first | (with_reducible (first | exact calm_pure _ | exact calm_numberAt _ | apply calm_bind1)) | intro _ | split | dsimp only
theorem calm_asAgg (v : Value) : calm p (fun _ => True) (asAgg v) := by
  unfold asAgg
  repeat' first | (with_reducible (first | exact calm_pure _ | exact calm_stuck _)) | intro _ | split | dsimp only
theorem calm_viewAt (r : Nat) : calm p (fun _ => True) (viewAt r) := by
  unfold viewAt
  repeat' first | (with_reducible (first | exact calm_pure _ | exact calm_shape _ | apply calm_getObj | apply calm_ite | apply calm_bind1)) | (left; exact trivial) | (right; intro o hb; cases o <;> first | exact hb.elim | rfl) | intro _ | split | dsimp only
theorem calm_noView (a : Addr) : calm p (fun _ => True) (noView a) := by
  unfold noView
  repeat' first | (with_reducible (first | exact calm_pure _ | exact calm_viewAt _ | apply calm_ite | apply calm_bind1)) | (refine calm_unsupported (fun g h => ?_); cases h) | intro _ | split | dsimp only
theorem calm_byteOf (a : Addr) : calm p (fun _ => True) (byteOf a) := by
  unfold byteOf
  repeat' first | (with_reducible (first | exact calm_pure _ | exact calm_stuck _ | exact calm_shape _ | exact calm_noView _ | apply calm_program | apply calm_ite | apply calm_bind1)) | intro _ | split | dsimp only
theorem calm_partAt (a : Addr) (c b : Nat) : calm p (fun _ => True) (partAt a c b) := by
  unfold partAt
  repeat' first | (with_reducible (first | exact calm_pure _ | exact calm_byteOf _ | apply calm_bind1)) | intro _ | split | dsimp only
theorem calm_fieldPlace (a : Addr) (f : Field) : calm p (fun _ => True) (fieldPlace a f) := by
  unfold fieldPlace
  repeat' first | (with_reducible (first | exact calm_pure _ | exact calm_sizeOf _ | exact calm_partAt _ _ _ | apply calm_ite | apply calm_bind1)) | intro _ | split | dsimp only
theorem calm_sureAddr (v : Value) : calm p (fun _ => True) (Instr.sureAddr v) := by
  unfold Instr.sureAddr
  repeat' first | (with_reducible (first | exact calm_pure _ | exact calm_stuck _)) | intro _ | split | dsimp only
theorem calm_alloc (t : TypeId) (b : Bool) (v : Value) : calm p (fun _ => True) (Instr.alloc t b v) := by
  unfold Instr.alloc
  repeat' first | (with_reducible (first | exact calm_pure _ | exact calm_zeroValue _ | exact calm_storeVar _ _ _ | exact calm_newVar _ _ | apply calm_bind1)) | intro _ | split | dsimp only
theorem calm_box (t : TypeId) (v : Value) : calm p (fun _ => True) (Instr.box t v) := by
  unfold Instr.box
  repeat' first | (with_reducible (first | exact calm_pure _ | exact calm_newVar _ _ | apply calm_bind1)) | intro _ | split | dsimp only
theorem calm_loadAt (t : TypeId) (v : Value) : calm p (fun _ => True) (Instr.loadAt t v) := by
  unfold Instr.loadAt
  repeat' first | (with_reducible (first | exact calm_loadVar _ _ | exact calm_sureAddr _ | apply calm_bind1)) | intro _ | split | dsimp only
theorem calm_storeAt (t : TypeId) (v x : Value) : calm p (fun _ => True) (Instr.storeAt t v x) := by
  unfold Instr.storeAt
  repeat' first | (with_reducible (first | exact calm_storeVar _ _ _ | exact calm_sureAddr _ | apply calm_bind1)) | intro _ | split | dsimp only
theorem calm_fieldAt (t : TypeId) (v : Value) (i : Nat) : calm p (fun _ => True) (Instr.fieldAt t v i) := by
  unfold Instr.fieldAt
  repeat' first | (with_reducible (first | exact calm_pure _ | exact calm_stuck _ | exact calm_underlying _ | exact calm_fieldPlace _ _ | exact calm_sureAddr _ | apply calm_bind1)) | intro _ | split | dsimp only
theorem calm_indexAt (t : TypeId) (v x : Value) : calm p (fun _ => True) (Instr.indexAt t v x) := by
  unfold Instr.indexAt
  repeat' first | (with_reducible (first | exact calm_pure _ | exact calm_stuck _ | exact calm_underlying _ | exact calm_sizeOf _ | exact calm_asIntOf _ | exact calm_boundsPanic _ _ _ _ | exact calm_sureAddr _ | apply calm_ite | apply calm_bind1)) | (refine calm_unsupported (fun g h => ?_); cases h) | intro _ | split | dsimp only
theorem calm_sliceBound (x : Value) (y : Nat) (c : BoundsCode) : calm p (fun _ => True) (Instr.sliceBound x y c) := by
  unfold Instr.sliceBound
  repeat' first | (with_reducible (first | exact calm_pure _ | exact calm_asIntOf _ | exact calm_boundsPanic _ _ _ _ | apply calm_ite | apply calm_bind1)) | intro _ | split | dsimp only
theorem calm_sliceBounds (b : Bool) (l c : Nat) (x y z : Option Value) : calm p (fun _ => True) (Instr.sliceBounds b l c x y z) := by
  unfold Instr.sliceBounds
  repeat' first | (with_reducible (first | exact calm_pure _ | exact calm_stuck _ | exact calm_sliceBound _ _ _ | apply calm_bind1)) | intro _ | split | dsimp only
theorem calm_slice (t : TypeId) (x : Value) (a b c : Option Value) : calm p (fun _ => True) (Instr.slice t x a b c) := by
  unfold Instr.slice
  repeat' first | (with_reducible (first | exact calm_pure _ | exact calm_stuck _ | exact calm_underlying _ | exact calm_sizeOf _ | exact calm_asAddr _ | exact calm_sliceBounds _ _ _ _ _ _ | apply calm_ite | apply calm_bind1)) | intro _ | split | dsimp only
theorem calm_sliceAt (t : TypeId) (x : Value) (a b c : Option Value) : calm p (fun _ => True) (Instr.sliceAt t x a b c) := by
  unfold Instr.sliceAt
  repeat' first | (with_reducible (first | exact calm_pure _ | exact calm_underlying _ | exact calm_sizeOf _ | exact calm_sureAddr _ | exact calm_sliceBounds _ _ _ _ _ _ | exact calm_slice _ _ _ _ _ | apply calm_bind1)) | intro _ | split | dsimp only
theorem calm_index (t : TypeId) (v x : Value) : calm p (fun _ => True) (Instr.index t v x) := by
  unfold Instr.index
  repeat' first | (with_reducible (first | exact calm_pure _ | exact calm_stuck _ | exact calm_underlying _ | exact calm_sizeOf _ | exact calm_asIntOf _ | exact calm_boundsPanic _ _ _ _ | exact calm_part _ _ _ | apply calm_ite | apply calm_bind1)) | intro _ | split | dsimp only
theorem calm_field (t : TypeId) (v : Value) (i : Nat) : calm p (fun _ => True) (Instr.field t v i) := by
  unfold Instr.field
  repeat' first | (with_reducible (first | exact calm_stuck _ | exact calm_underlying _ | exact calm_part _ _ _ | exact calm_asAgg _ | apply calm_bind1)) | intro _ | split | dsimp only
theorem calm_extract (v : Value) (i : Nat) : calm p (fun _ => True) (Instr.extract v i) := by
  unfold Instr.extract
  repeat' first | (with_reducible (first | exact calm_pure _ | exact calm_stuck _)) | intro _ | split | dsimp only
theorem calm_build (t : TypeId) (ps : Array (Nat × Value)) : calm p (fun _ => True) (Instr.build t ps) := by
  unfold Instr.build
  repeat' first | (with_reducible (first | exact calm_pure _ | exact calm_stuck _ | exact calm_underlying _ | exact calm_sizeOf _ | exact calm_zeroValue _ | apply calm_mapM | apply calm_bind1)) | intro _ | split | dsimp only
theorem calm_buildSlice (t : TypeId) (n : Nat) (ps : Array (Nat × Value)) : calm p (fun _ => True) (Instr.buildSlice t n ps) := by
  unfold Instr.buildSlice
  repeat' first | (with_reducible (first | exact calm_pure _ | exact calm_stuck _ | exact calm_underlying _ | exact calm_sizeOf _ | exact calm_zeroValue _ | exact calm_newRow _ _ | apply calm_ite | apply calm_bind1)) | (refine calm_unsupported (fun g h => ?_); cases h) | intro _ | split | dsimp only
theorem calm_stringish (a : Addr) : calm p (fun _ => True) (stringish a) := by
  unfold stringish
  repeat' first | (with_reducible (first | exact calm_pure _ | exact calm_shape _ | exact calm_frozen _ | apply calm_ite | apply calm_bind1)) | intro _ | split | dsimp only
theorem calm_mayBeOne (a b : Addr) : calm p (fun _ => True) (mayBeOne a b) := by
  unfold mayBeOne
  repeat' first | (with_reducible (first | exact calm_pure _ | exact calm_shape _ | exact calm_stringish _ | apply calm_bind1)) | intro _ | split | dsimp only
theorem calm_sameAddr (a b : Addr) : calm p (fun _ => True) (sameAddr a b) := by
  unfold sameAddr
  repeat' first | (with_reducible (first | exact calm_pure _ | exact calm_choose _ | exact calm_frozen _ | exact calm_noView _ | exact calm_mayBeOne _ _ | apply calm_ite | apply calm_bind1)) | (refine calm_unsupported (fun g h => ?_); cases h) | intro _ | split | dsimp only
theorem calm_samePointer (a b : Option Addr) : calm p (fun _ => True) (samePointer a b) := by
  unfold samePointer
  repeat' first | (with_reducible (first | exact calm_pure _ | exact calm_sameAddr _ _)) | intro _ | split | dsimp only
theorem calm_equalIn : ∀ (d : Nat) (t : TypeId) (x y : Value), calm p (fun _ => True) (Op.equalIn d t x y)
  | 0, t, x, y => by unfold Op.equalIn; exact calm_unsupported (fun g h => by cases h)
  | d + 1, t, x, y => by
    have ih : ∀ t x y, calm p (fun _ => True) (Op.equalIn d t x y) := calm_equalIn d
    unfold Op.equalIn
    repeat' first | (with_reducible (first | exact calm_pure _ | exact calm_stuck _ | exact calm_choose _ | exact calm_runtimePanic _ | exact calm_typeInfo _ | exact calm_underlying _ | exact calm_sizeOf _ | exact calm_typeStr _ | exact calm_part _ _ _ | exact calm_behindNumber _ | exact calm_byteOf _ | exact calm_sameAddr _ _ | exact calm_samePointer _ _ | exact ih _ _ _ | apply calm_program | apply calm_forIn_array | apply calm_forIn_range | apply calm_ite | apply calm_bind1)) | (refine calm_unsupported (fun g h => ?_); cases h) | intro _ | split | dsimp only
theorem calm_equal (t : TypeId) (x y : Value) : calm p (fun _ => True) (Op.equal t x y) := by
  unfold Op.equal
  repeat' first | (with_reducible (first | exact calm_equalIn _ _ _ _)) | intro _ | split | dsimp only
theorem calm_eqGuardIn : ∀ (d : Nat) (t : TypeId) (x y : Value), calm p (fun _ => True) (Op.eqGuardIn d t x y)
  | 0, t, x, y => by unfold Op.eqGuardIn; exact calm_unsupported (fun g h => by cases h)
  | d + 1, t, x, y => by
    have ih : ∀ t x y, calm p (fun _ => True) (Op.eqGuardIn d t x y) := calm_eqGuardIn d
    unfold Op.eqGuardIn
    repeat' first | (with_reducible (first | exact calm_pure _ | exact calm_underlying _ | exact calm_sizeOf _ | exact calm_part _ _ _ | exact ih _ _ _ | apply calm_forIn_array | apply calm_forIn_range | apply calm_ite | apply calm_bind1)) | (refine calm_unsupported (fun g h => ?_); cases h) | intro _ | split | dsimp only
theorem calm_eqGuard (o : BinOp) (t : TypeId) (x y : Operand) (a b : Value) : calm p (fun _ => True) (eqGuard o t x y a b) := by
  unfold eqGuard
  repeat' first | (with_reducible (first | exact calm_pure _ | exact calm_eqGuardIn _ _ _ _ | apply calm_program | apply calm_ite | apply calm_bind1)) | (refine calm_unsupported (fun g h => ?_); cases h) | intro _ | split | dsimp only
theorem calm_intArith (o : BinOp) (k : IntKind) (x y : Int) : calm p (fun _ => True) (Op.intArith o k x y) := by
  unfold Op.intArith
  repeat' first | (with_reducible (first | exact calm_pure _ | exact calm_stuck _)) | intro _ | split | dsimp only
theorem calm_intBits (o : BinOp) (k : IntKind) (x y : Int) : calm p (fun _ => True) (Op.intBits o k x y) := by
  unfold Op.intBits
  repeat' first | (with_reducible (first | exact calm_pure _ | exact calm_stuck _)) | intro _ | split | dsimp only
theorem calm_intCmp (o : BinOp) (x y : Int) : calm p (fun _ => True) (Op.intCmp o x y) := by
  unfold Op.intCmp
  repeat' first | (with_reducible (first | exact calm_pure _ | exact calm_stuck _)) | intro _ | split | dsimp only
theorem calm_intDiv (o : BinOp) (k : IntKind) (x y : Int) : calm p (fun _ => True) (Op.intDiv o k x y) := by
  unfold Op.intDiv
  repeat' first | (with_reducible (first | exact calm_pure _ | exact calm_stuck _ | exact calm_runtimePanic _ | apply calm_ite)) | intro _ | split | dsimp only
theorem calm_shift (o : BinOp) (k : IntKind) (x : Int) (k2 : IntKind) (y : Int) : calm p (fun _ => True) (Op.shift o k x k2 y) := by
  unfold Op.shift
  repeat' first | (with_reducible (first | exact calm_pure _ | exact calm_stuck _ | exact calm_runtimePanic _ | apply calm_ite)) | intro _ | split | dsimp only
theorem calm_floatArith (o : BinOp) (k : FloatKind) (x y : Nat) : calm p (fun _ => True) (Op.floatArith o k x y) := by
  unfold Op.floatArith
  repeat' first | (with_reducible (first | exact calm_pure _ | exact calm_stuck _ | exact calm_choose _ | apply calm_bind1)) | intro _ | split | dsimp only
theorem calm_floatCmp (o : BinOp) (k : FloatKind) (x y : Nat) : calm p (fun _ => True) (Op.floatCmp o k x y) := by
  unfold Op.floatCmp
  repeat' first | (with_reducible (first | exact calm_pure _ | exact calm_stuck _)) | intro _ | split | dsimp only
theorem calm_floatToFloat (k : FloatKind) (x : Nat) (k2 : FloatKind) : calm p (fun _ => True) (Conv.floatToFloat k x k2) := by
  unfold Conv.floatToFloat
  repeat' first | (with_reducible (first | exact calm_pure _ | exact calm_choose _ | apply calm_ite | apply calm_bind1)) | intro _ | split | dsimp only
theorem calm_carith (o : BinOp) (k : FloatKind) (x y : Nat) : calm p (fun _ => True) (Op.Complex.arith o k x y) := by
  unfold Op.Complex.arith
  repeat' first | (with_reducible (first | exact calm_pure _ | exact calm_stuck _ | exact calm_floatArith _ _ _ _ | apply calm_bind1)) | intro _ | split | dsimp only
theorem calm_ccmp (o : BinOp) (k : FloatKind) (x y : Nat) : calm p (fun _ => True) (Op.Complex.cmp o k x y) := by
  unfold Op.Complex.cmp
  repeat' first | (with_reducible (first | exact calm_asBool _ | exact calm_floatCmp _ _ _ _ | apply calm_bind1)) | intro _ | split | dsimp only
theorem calm_cconv (k : FloatKind) (x : Nat) (k2 : FloatKind) : calm p (fun _ => True) (Op.Complex.conv k x k2) := by
  unfold Op.Complex.conv
  repeat' first | (with_reducible (first | exact calm_pure _ | exact calm_stuck _ | exact calm_floatToFloat _ _ _ | apply calm_ite | apply calm_bind1)) | intro _ | split | dsimp only
theorem calm_cadd (x y : Nat) : calm p (fun _ => True) (Op.Complex.add x y) := by
  unfold Op.Complex.add
  repeat' first | (with_reducible (first | exact calm_carith _ _ _ _)) | intro _ | split | dsimp only
theorem calm_csub (x y : Nat) : calm p (fun _ => True) (Op.Complex.sub x y) := by
  unfold Op.Complex.sub
  repeat' first | (with_reducible (first | exact calm_carith _ _ _ _)) | intro _ | split | dsimp only
theorem calm_cmul (x y : Nat) : calm p (fun _ => True) (Op.Complex.mul x y) := by
  unfold Op.Complex.mul
  repeat' first | (with_reducible (first | exact calm_carith _ _ _ _)) | intro _ | split | dsimp only
theorem calm_cquo (x y : Nat) : calm p (fun _ => True) (Op.Complex.quo x y) := by
  unfold Op.Complex.quo
  repeat' first | (with_reducible (first | exact calm_carith _ _ _ _)) | intro _ | split | dsimp only
theorem calm_cproduct (a b c d : Nat) : calm p (fun _ => True) (Op.Complex.product a b c d) := by
  unfold Op.Complex.product
  repeat' first | (with_reducible (first | exact calm_pure _ | exact calm_cadd _ _ | exact calm_csub _ _ | exact calm_cmul _ _ | apply calm_bind1)) | intro _ | split | dsimp only
theorem calm_ccorrected (a b c d e : Nat) : calm p (fun _ => True) (Op.Complex.corrected a b c d e) := by
  unfold Op.Complex.corrected
  repeat' first | (with_reducible (first | exact calm_pure _ | exact calm_cadd _ _ | exact calm_csub _ _ | exact calm_cmul _ _ | apply calm_bind1)) | intro _ | split | dsimp only
theorem calm_cquotient (a b c d : Nat) : calm p (fun _ => True) (Op.Complex.quotient a b c d) := by
  unfold Op.Complex.quotient
  repeat' first | (with_reducible (first | exact calm_pure _ | exact calm_ccmp _ _ _ _ | exact calm_cadd _ _ | exact calm_csub _ _ | exact calm_cmul _ _ | exact calm_cquo _ _ | exact calm_ccorrected _ _ _ _ _ | apply calm_ite | apply calm_bind1)) | intro _ | split | dsimp only
theorem calm_complexOp (o : BinOp) (k : FloatKind) (a b c d : Nat) : calm p (fun _ => True) (Op.complexOp o k a b c d) := by
  unfold Op.complexOp
  repeat' first | (with_reducible (first | exact calm_pure _ | exact calm_stuck _ | exact calm_carith _ _ _ _ | exact calm_ccmp _ _ _ _ | exact calm_cconv _ _ _ | exact calm_cproduct _ _ _ _ | exact calm_cquotient _ _ _ _ | apply calm_ite | apply calm_bind1)) | intro _ | split | dsimp only
theorem calm_stringOp (o : BinOp) (x y : ByteArray) : calm p (fun _ => True) (Op.stringOp o x y) := by
  unfold Op.stringOp
  repeat' first | (with_reducible (first | exact calm_pure _ | exact calm_stuck _ | apply calm_ite)) | (refine calm_unsupported (fun g h => ?_); cases h) | intro _ | split | dsimp only
theorem calm_unsafeAdd (u : TypeId) (x y : Value) : calm p (fun _ => True) (Builtin.unsafeAdd_ #[] u #[x, y]) := by
  unfold Builtin.unsafeAdd_
  cases x <;> first
    | exact calm_stuck _
    | (refine calm_bind1 (s := asInt y) (calm_asInt _) (fun n => ?_)
       dsimp only
       repeat' first | (with_reducible (first | exact calm_pure _ | exact calm_stuck _ | exact calm_shape _ | exact calm_asInt _ | exact calm_viewAt _ | apply calm_program | apply calm_ite | apply calm_bind1)) | (refine calm_unsupported (fun g h => ?_); cases h) | intro _ | split | dsimp only)
theorem calm_asNumber (a : Addr) (l : Bool) : calm p (fun _ => True) (asNumber a l) := by
  unfold asNumber
  repeat' first | (with_reducible (first | exact calm_pure _ | exact calm_newNumber _ _ | apply calm_bind1)) | intro _ | split | dsimp only
theorem calm_movedNumber (t : TypeId) (x y : Value) : calm p (fun _ => True) (movedNumber t x y) := by
  unfold movedNumber
  repeat' first | (with_reducible (first | exact calm_pure _ | exact calm_underlying _ | exact calm_behindNumber _ | exact calm_unsafeAdd _ _ _ | exact calm_asNumber _ _ | apply calm_ite | apply calm_bind1)) | (refine calm_unsupported (fun g h => ?_); cases h) | intro _ | split | dsimp only
theorem calm_movedPointer (t : TypeId) (x y : Value) : calm p (fun _ => True) (movedPointer t x y) := by
  unfold movedPointer
  repeat' first | (with_reducible (first | exact calm_numberAt _ | exact calm_unsafeAdd _ _ _ | apply calm_ite | apply calm_bind1)) | (refine calm_unsupported (fun g h => ?_); cases h) | intro _ | split | dsimp only
theorem calm_twoPlaces (a b : Addr) : calm p (fun _ => True) (Op.twoPlaces a b) := by
  unfold Op.twoPlaces
  repeat' first | (with_reducible (first | exact calm_pure _ | exact calm_byteOf _ | apply calm_program | apply calm_ite | apply calm_bind1)) | (refine calm_unsupported (fun g h => ?_); cases h) | intro _ | split | dsimp only
theorem calm_addrSub (k : IntKind) (a b : Addr) : calm p (fun _ => True) (Op.addrSub k a b) := by
  unfold Op.addrSub
  repeat' first | (with_reducible (first | exact calm_pure _ | exact calm_twoPlaces _ _ | apply calm_bind1)) | intro _ | split | dsimp only
theorem calm_addrCmp (o : BinOp) (a b : Addr) : calm p (fun _ => True) (Op.addrCmp o a b) := by
  unfold Op.addrCmp
  repeat' first | (with_reducible (first | exact calm_pure _ | exact calm_twoPlaces _ _ | apply calm_bind1)) | (refine calm_unsupported (fun g h => ?_); cases h) | intro _ | split | dsimp only
theorem calm_addrMod (k : IntKind) (a : Addr) (n : Int) : calm p (fun _ => True) (Op.addrMod k a n) := by
  unfold Op.addrMod
  repeat' first | (with_reducible (first | exact calm_pure _ | exact calm_shape _ | exact calm_typeInfo _ | exact calm_byteOf _ | apply calm_ite | apply calm_bind1)) | (refine calm_unsupported (fun g h => ?_); cases h) | intro _ | split | dsimp only
theorem calm_binOp (o : BinOp) (t : TypeId) (x y : Value) : calm p (fun _ => True) (binOp o t x y) := by
  unfold binOp
  repeat' first | (with_reducible (first | exact calm_pure _ | exact calm_stuck _ | exact calm_underlying _ | exact calm_behindNumber _ | exact calm_equal _ _ _ | exact calm_intArith _ _ _ _ | exact calm_intBits _ _ _ _ | exact calm_intCmp _ _ _ | exact calm_intDiv _ _ _ _ | exact calm_shift _ _ _ _ _ | exact calm_floatArith _ _ _ _ | exact calm_floatCmp _ _ _ _ | exact calm_complexOp _ _ _ _ _ _ | exact calm_stringOp _ _ _ | exact calm_movedNumber _ _ _ | exact calm_movedPointer _ _ _ | exact calm_addrSub _ _ _ | exact calm_addrCmp _ _ _ | exact calm_addrMod _ _ _ | apply calm_ite | apply calm_bind1)) | (refine calm_unsupported (fun g h => ?_); cases h) | intro _ | split | dsimp only
theorem calm_unary (o : UnOp) (x : Value) : calm p (fun _ => True) (Op.unary o x) := by
  unfold Op.unary
  repeat' first | (with_reducible (first | exact calm_pure _ | exact calm_stuck _ | exact calm_intArith _ _ _ _ | exact calm_intBits _ _ _ _)) | (refine calm_unsupported (fun g h => ?_); cases h) | intro _ | split | dsimp only
theorem calm_makeFunc (f : Fn) (a b : Array Value) : calm p (fun _ => True) (Instr.makeFunc f a b) := by
  unfold Instr.makeFunc
  repeat' first | (with_reducible (first | exact calm_pure _)) | intro _ | split | dsimp only
theorem calm_holdsCells (a : Addr) (n : Nat) : calm p (fun _ => True) (Builtin.holdsCells a n) := by
  unfold Builtin.holdsCells
  repeat' first | (with_reducible (first | exact calm_pure _ | exact calm_shape _ | apply calm_bind1)) | intro _ | split | dsimp only
theorem calm_mayShare (s l n : Nat) (b : Option Addr) (x : Value) : calm p (fun _ => True) (Builtin.mayShare s l n b x) := by
  unfold Builtin.mayShare
  repeat' first | (with_reducible (first | exact calm_pure _ | exact calm_frozen _ | exact calm_holdsCells _ _ | apply calm_ite | apply calm_bind1)) | intro _ | split | dsimp only
theorem calm_lenOf (x : Value) : calm p (fun _ => True) (Builtin.lenOf x) := by
  unfold Builtin.lenOf
  repeat' first | (with_reducible (first | exact calm_pure _ | exact calm_stuck _)) | intro _ | split | dsimp only
theorem calm_firstCells (s n : Nat) (x : Value) : calm p (fun _ => True) (Builtin.firstCells s n x) := by
  unfold Builtin.firstCells
  repeat' first | (with_reducible (first | exact calm_pure _ | exact calm_stuck _ | exact calm_loadCells _ _)) | intro _ | split | dsimp only
end
end Go.Cx
end
section
namespace Go.Cx
section
variable {p : Program}
theorem calm_append (t : Array TypeId) (u : TypeId) (vs : Array Value) : calm p (fun _ => True) (Builtin.append_ t u vs) := by
  unfold Builtin.append_
  split
  · refine calm_bind1 (calm_underlying _) fun d => ?_
    split
    · split
      · refine calm_bind1 (calm_sizeOf _) fun sz => ?_
        extract_lets -underBinder +onlyGivenNames j1
        have hj1 : ∀ b, calm p (fun _ => True) (j1 b) := by
          intro zeros
          unfold j1
          extract_lets -underBinder +onlyGivenNames j2
          have hj2 : ∀ b, calm p (fun _ => True) (j2 b) := by
            intro n
            unfold j2
            extract_lets -underBinder +onlyGivenNames app need
            have happ : calm p (fun _ => True) app := calm_ite (fun _ => calm_firstCells _ _ _) (fun _ => calm_ite (fun _ => calm_pure _) (fun _ => calm_bind1 (calm_zeroValue _) fun _ => calm_pure _))
            clear_value app need
            refine calm_ite (fun _ => ?_) (fun _ => ?_)
            · refine calm_bind1 happ fun new => ?_
              extract_lets -underBinder +onlyGivenNames j3
              have hj3 : ∀ b, calm p (fun _ => True) (j3 b) := fun _ => calm_pure _
              clear_value j3
              split
              · exact calm_bind1 (calm_storeCells _ _ _) fun _ => hj3 _
              · exact hj3 _
            · refine calm_bind1 (calm_typeInfo _) fun ti => ?_
              extract_lets -underBinder +onlyGivenNames j3
              have hj3 : ∀ b, calm p (fun _ => True) (j3 b) := by
                intro _
                unfold j3
                refine calm_bind1 (calm_typeInfo _) fun ti2 => ?_
                extract_lets -underBinder +onlyGivenNames j4
                have hj4 : ∀ b, calm p (fun _ => True) (j4 b) := by
                  intro _
                  unfold j4
                  refine calm_bind1 (calm_choose _) fun nc => calm_bind1 (calm_typeInfo _) fun _ => calm_bind1 (calm_askRoom _) fun _ => calm_bind1 (calm_firstCells _ _ _) fun _ => calm_bind1 happ fun _ => calm_bind1 (calm_zeroValue _) fun _ => ?_
                  exact calm_bind1 (calm_newRow _ _) fun _ => calm_pure _
                clear_value j4
                refine calm_ite (fun _ => calm_bind1 ?_ fun _ => hj4 _) (fun _ => hj4 _)
                refine calm_ite (fun _ => calm_runtimePanic _) (fun _ => calm_bind1 (calm_mayShare _ _ _ _ _) fun _ => ?_)
                extract_lets -underBinder +onlyGivenNames j5
                have hj5 : ∀ b, calm p (fun _ => True) (j5 b) := fun _ => calm_unsupported (fun g h => by cases h)
                clear_value j5
                exact calm_ite (fun _ => calm_bind1 calm_noRoom fun _ => hj5 _) (fun _ => hj5 _)
              clear_value j3
              exact calm_ite (fun _ => calm_bind1 (calm_runtimePanic _) fun _ => hj3 _) (fun _ => hj3 _)
          clear_value j2
          refine calm_ite (fun _ => ?_) (fun _ => calm_bind1 (calm_lenOf _) fun _ => hj2 _)
          refine calm_bind1 (calm_asInt _) fun _ => ?_
          extract_lets -underBinder +onlyGivenNames l j3
          have hj3 : ∀ b, calm p (fun _ => True) (j3 b) := by
            intro _
            unfold j3
            refine calm_bind1 (calm_typeInfo _) fun _ => ?_
            extract_lets -underBinder +onlyGivenNames j4
            have hj4 : ∀ b, calm p (fun _ => True) (j4 b) := fun _ => calm_bind1 (calm_pure _) fun _ => hj2 _
            clear_value j4
            exact calm_ite (fun _ => calm_bind1 (calm_choose _) fun _ => calm_bind1 (calm_runtimePanic _) fun _ => hj4 _) (fun _ => hj4 _)
          clear_value j3
          exact calm_ite (fun _ => calm_bind1 (calm_runtimePanic _) fun _ => hj3 _) (fun _ => hj3 _)
        clear_value j1
        split
        · exact calm_bind1 (calm_underlying _) fun _ => calm_bind1 (calm_pure _) fun _ => hj1 _
        · exact calm_bind1 (calm_pure _) fun _ => hj1 _
      · exact calm_stuck _
    · exact calm_stuck _
  · exact calm_stuck _
theorem calm_len (t : Array TypeId) (u : TypeId) (vs : Array Value) : calm p (fun _ => True) (Builtin.len_ t u vs) := by
  unfold Builtin.len_
  repeat' first | (with_reducible (first | exact calm_pure _ | exact calm_stuck _ | exact calm_underlying _ | apply calm_getObj | apply calm_bind1)) | (left; exact trivial) | (right; intro o hb; cases o <;> first | exact hb.elim | rfl) | intro _ | split | dsimp only
theorem calm_cap (t : Array TypeId) (u : TypeId) (vs : Array Value) : calm p (fun _ => True) (Builtin.cap_ t u vs) := by
  unfold Builtin.cap_
  repeat' first | (with_reducible (first | exact calm_pure _ | exact calm_stuck _ | exact calm_underlying _ | apply calm_getObj | apply calm_bind1)) | (left; exact trivial) | (right; intro o hb; cases o <;> first | exact hb.elim | rfl) | intro _ | split | dsimp only
theorem calm_max2 (x y : Value) : calm p (fun _ => True) (Builtin.max2 x y) := by
  unfold Builtin.max2
  repeat' first | (with_reducible (first | exact calm_pure _ | exact calm_stuck _ | exact calm_choose _ | exact calm_asBool _ | exact calm_stringOp _ _ _ | apply calm_bind1)) | (refine calm_unsupported (fun g h => ?_); cases h) | intro _ | split | dsimp only
theorem calm_max (t : Array TypeId) (u : TypeId) (vs : Array Value) : calm p (fun _ => True) (Builtin.max_ t u vs) := by
  unfold Builtin.max_
  repeat' first | (with_reducible (first | exact calm_stuck _ | exact calm_max2 _ _ | apply calm_foldlM)) | intro _ | split | dsimp only
theorem calm_min2 (x y : Value) : calm p (fun _ => True) (Builtin.min2 x y) := by
  unfold Builtin.min2
  repeat' first | (with_reducible (first | exact calm_pure _ | exact calm_stuck _ | exact calm_choose _ | exact calm_asBool _ | exact calm_stringOp _ _ _ | apply calm_bind1)) | (refine calm_unsupported (fun g h => ?_); cases h) | intro _ | split | dsimp only
theorem calm_min (t : Array TypeId) (u : TypeId) (vs : Array Value) : calm p (fun _ => True) (Builtin.min_ t u vs) := by
  unfold Builtin.min_
  repeat' first | (with_reducible (first | exact calm_stuck _ | exact calm_min2 _ _ | apply calm_foldlM)) | intro _ | split | dsimp only
theorem calm_copy (t : Array TypeId) (u : TypeId) (vs : Array Value) : calm p (fun _ => True) (Builtin.copy_ t u vs) := by
  unfold Builtin.copy_
  repeat' first | (with_reducible (first | exact calm_pure _ | exact calm_stuck _ | exact calm_underlying _ | exact calm_sizeOf _ | exact calm_storeCells _ _ _ | exact calm_lenOf _ | exact calm_firstCells _ _ _ | apply calm_bind1)) | intro _ | split | dsimp only
theorem calm_wrapNil (t : Array TypeId) (u : TypeId) (x : Value) (a b : String) : calm p (fun _ => True) (Builtin.ssaWrapNilChk_ t u #[x, strVal a, strVal b]) := by
  unfold Builtin.ssaWrapNilChk_ strVal
  cases x with
  | pointer q =>
    cases q with
    | some q => exact calm_pure (Value.pointer (some q))
    | none =>
      refine calm_bind1 (calm_choose _) (fun n => ?_)
      dsimp only
      repeat' first | (with_reducible (first | exact calm_pure _ | exact calm_stuck _ | exact calm_choose _ | exact calm_runtimePanic _ | exact calm_typeInfo _ | exact calm_underlying _ | apply calm_ite | apply calm_bind1)) | (refine calm_unsupported (fun g h => ?_); cases h) | intro _ | split | dsimp only
  | _ => exact calm_stuck _
theorem calm_Place_get (t : TypeId) (x : Place) : calm p (fun _ => True) (Place.get t x) := by
  unfold Place.get
  repeat' first | (with_reducible (first | exact calm_pure _ | exact calm_loadVar _ _)) | intro _ | split | dsimp only
theorem calm_follow : ∀ (l : List FieldStep) (t : TypeId) (x : Place), calm p (fun _ => True) (follow l t x)
  | [], t, x => by unfold follow; exact calm_pure _
  | s :: rest, t, x => by
    have ih : ∀ t x, calm p (fun _ => True) (follow rest t x) := calm_follow rest
    unfold follow
    repeat' first | (with_reducible (first | exact calm_pure _ | exact calm_stuck _ | exact calm_underlying _ | exact calm_asAddr _ | exact calm_part _ _ _ | exact calm_fieldPlace _ _ | exact calm_Place_get _ _ | exact ih _ _ | apply calm_ite | apply calm_bind1)) | intro _ | split | dsimp only
theorem calm_receiverAt (t : TypeId) (x : Place) (b : Bool) (w : Option String) : calm p (fun _ => True) (receiverAt t x b w) := by
  unfold receiverAt
  repeat' first | (with_reducible (first | exact calm_pure _ | exact calm_stuck _ | exact calm_underlying _ | exact calm_asAddr _ | exact calm_loadVar _ _ | exact calm_wrapNil _ _ _ _ _ | exact calm_Place_get _ _ | apply calm_bind1)) | intro _ | split | dsimp only
theorem calm_receiverVia (t : TypeId) (v : Value) (q : Array FieldStep) (b : Bool) : calm p (fun _ => True) (receiverVia t v q b) := by
  unfold receiverVia
  repeat' first | (with_reducible (first | exact calm_follow _ _ _ | exact calm_receiverAt _ _ _ _ | apply calm_bind1)) | intro _ | split | dsimp only
theorem calm_method : ∀ (d : Nat) (t : TypeId) (v : Value) (n : String), calm p (fun _ => True) (method d t v n)
  | 0, t, v, n => by unfold method; exact calm_unsupported (fun g h => by cases h)
  | d + 1, t, v, n => by
    have ih : ∀ t v n, calm p (fun _ => True) (method d t v n) := calm_method d
    unfold method
    repeat' first | (with_reducible (first | exact calm_pure _ | exact calm_stuck _ | exact calm_runtimePanic _ | exact calm_typeInfo _ | exact calm_Place_get _ _ | exact calm_follow _ _ _ | exact calm_receiverAt _ _ _ _ | exact ih _ _ _ | apply calm_bind1)) | (refine calm_unsupported (fun g h => ?_); cases h) | intro _ | split | dsimp only
theorem calm_followBlind : ∀ (l : List FieldStep) (t : TypeId) (x : Option Value), calm p (fun _ => True) (followBlind l t x)
  | [], t, x => by unfold followBlind; exact calm_pure _
  | s :: rest, t, x => by
    have ih : ∀ t x, calm p (fun _ => True) (followBlind rest t x) := calm_followBlind rest
    unfold followBlind
    repeat' first | (with_reducible (first | exact calm_pure _ | exact calm_stuck _ | exact calm_underlying _ | exact calm_part _ _ _ | exact ih _ _ | apply calm_bind1)) | intro _ | split | dsimp only
theorem calm_nilAhead : ∀ (d : Nat) (t : TypeId) (v : Value) (n : String), calm p (fun _ => True) (nilAhead d t v n)
  | 0, t, v, n => by unfold nilAhead; exact calm_pure _
  | d + 1, t, v, n => by
    have ih : ∀ t v n, calm p (fun _ => True) (nilAhead d t v n) := calm_nilAhead d
    unfold nilAhead
    repeat' first | (with_reducible (first | exact calm_pure _ | exact calm_stuck _ | exact calm_typeInfo _ | exact calm_underlying _ | exact calm_followBlind _ _ _ | exact ih _ _ _ | apply calm_bind1)) | intro _ | split | dsimp only
end
end Go.Cx
end
section
namespace Go.Cx
section
variable {p : Program} {B w v : World} {F : FuncId → Prop}
def okNext (F : FuncId → Prop) : Next → Prop
  | .value _ | .skip => True
  | .enter f _ => F f
  | _ => False
theorem Par.bind {α β : Type} {Q : α → Prop} {R : β → Prop} {s : Sem α} {f : α → Sem β} {es : Array Event}
    (h : Par B Q (s.runT p v es) (s.runT p w es)) (hf : ∀ a v1 w1 es1, s.runT p v es = (.ok a v1, es1) → Q a → OkEvs es1 → Twin B w1 v1 → Par B R ((f a).runT p v1 es1) ((f a).runT p w1 es1)) :
    Par B R ((s >>= f).runT p v es) ((s >>= f).runT p w es) := by
  show Par B R ((s.bind f).runT p v es) ((s.bind f).runT p w es)
  rw [Sem.runT_bind', Sem.runT_bind']
  unfold Par at h
  cases hr : s.runT p v es with
  | mk r es1 =>
    rw [hr] at h
    cases r with
    | ok a v1 =>
      obtain ⟨hq, he, w1, e1, ht⟩ := h
      rw [e1]
      exact hf a v1 w1 es1 hr hq he ht
    | halt x v1 => exact h
theorem par_of_calm {α : Type} {Q : α → Prop} {s : Sem α} {es : Array Event} (hs : calm p Q s) (ht : Twin B w v) (he : OkEvs es) : Par B Q (s.runT p v es) (s.runT p w es) := calm_run s w v es hs ht he
def FnIn (p : Program) (f : FuncId) : Prop := ∃ fn, p.funcs[f]? = some fn ∧ (fn.name == "runtime.NumGoroutine") = false ∧ fn.body.isNone = false
theorem calm_callFunc {f : FuncId} (hf : FnIn p f) (hF : F f) (args : Array Value) : calm p (okNext F) (callFunc f args) := by
  obtain ⟨fn, h1, h2, h3⟩ := hf
  unfold callFunc
  refine calm_program ?_
  rw [h1]
  dsimp only
  rw [h2, h3]
  exact hF
theorem par_callMethod {F : FuncId → Prop} (hF : ∀ f, F f → FnIn p f) {recv : Value} {name : String} {args : Array Value} {es : Array Event} (ht : Twin B w v) (he : OkEvs es)
    (hab : ∀ u x f r v1, recv = .iface u x → (method (p.types.size + Made.depth) u x name).run p v = .ok (f, r) v1 → F f) : Par B (okNext F) ((callMethod recv name args).runT p v es) ((callMethod recv name args).runT p w es) := by
  unfold callMethod
  cases recv with
  | iface u x =>
    dsimp only
    refine Par.bind (Q := fun q => q = p) (par_of_calm (by exact rfl) ht he) fun q v1 w1 es1 h0 hq he1 ht1 => ?_
    have e0 : (program.runT p v es : Result Program × Array Event) = (.ok p v, es) := rfl
    rw [e0] at h0
    cases h0
    refine Par.bind (par_of_calm (calm_method _ _ _ _) ht1 he1) fun a v2 w2 es2 h2 _ he2 ht2 => ?_
    obtain ⟨f, r⟩ := a
    have hf : F f := hab u x f r v2 rfl (by
      have := Sem.runT_fst p (method (p.types.size + Made.depth) u x name) v es
      rw [h2] at this
      exact this.symm)
    exact par_of_calm (calm_callFunc (hF f hf) hf _) ht2 he2
  | nilIface => exact par_of_calm (calm_runtimePanic _) ht he
  | _ => exact par_of_calm (calm_stuck _) ht he
def builtinOk : Builtin → Bool
  | .append | .cap | .copy | .len | .max | .min => true
  | _ => false
theorem calm_builtin {b : Builtin} (hb : builtinOk b = true) (ats : Array TypeId) (t : TypeId) (cs : Array Bool) (args : Array Value) : calm p (okNext F) (builtin b ats t cs args) := by
  have key : ∀ s : Sem Value, calm p (fun _ => True) s → calm p (okNext F) (do pure (.value (← s)) : Sem Next) := fun s hs => calm_bind1 hs fun a => trivial
  cases b <;> first
    | exact absurd hb (by decide)
    | exact key _ (calm_append _ _ _)
    | exact key _ (calm_cap _ _ _)
    | exact key _ (calm_copy _ _ _)
    | exact key _ (calm_len _ _ _)
    | exact key _ (calm_max _ _ _)
    | exact key _ (calm_min _ _ _)
theorem par_invoke (hF : ∀ f, F f → FnIn p f) {t : Target} {args : Array Value} {es : Array Event} (ht : Twin B w v) (he : OkEvs es)
    (hb : ∀ b x y z, t = .builtin b x y z → builtinOk b = true) (hc : ∀ c, t ≠ .coroexit c)
    (hab : ∀ f, t.leads p v args = some f → F f) : Par B (okNext F) ((invoke t args).runT p v es) ((invoke t args).runT p w es) := by
  unfold invoke
  cases t with
  | nil => exact par_of_calm (calm_runtimePanic _) ht he
  | builtin b x y z => exact par_of_calm (calm_builtin (hb b x y z rfl) _ _ _ _) ht he
  | collected c => exact par_of_calm (calm_stuck _) ht he
  | coroexit c => exact absurd rfl (hc c)
  | fn f captured =>
    cases f with
    | func f => exact par_of_calm (calm_callFunc (hF f (hab f rfl)) (hab f rfl) _) ht he
    | method name =>
      dsimp only
      cases h0 : args[0]? with
      | none => exact par_of_calm (calm_stuck _) ht he
      | some recv =>
        refine par_callMethod hF ht he fun u x f r v1 e h => hab f ?_
        subst e
        simp only [Target.leads, h0, h]
    | methodOf t name =>
      dsimp only
      cases h0 : args[0]? with
      | none => exact par_of_calm (calm_stuck _) ht he
      | some receiver =>
        dsimp only
        refine Par.bind (Q := fun _ => True) (par_of_calm (calm_underlying _) ht he) fun d v1 w1 es1 h1 _ he1 ht1 => ?_
        have hd : p.underlying t = some d ∧ v1 = v := by
          have e0 : (underlying t).runT p v es = (match p.underlying t with
            | some d => (.ok d v, es)
            | none => (.halt (.stuck "no such type") v, es)) := by
            show ((program >>= fun q => match q.underlying t with | some d => pure d | none => stuck "no such type" : Sem TypeDesc)).runT p v es = _
            show ((match p.underlying t with | some d => pure d | none => stuck "no such type" : Sem TypeDesc)).runT p v es = _
            cases p.underlying t <;> rfl
          rw [e0] at h1
          cases hu : p.underlying t with
          | none => rw [hu] at h1; cases h1
          | some d' => rw [hu] at h1; cases h1; exact ⟨rfl, rfl⟩
        obtain ⟨hd, rfl⟩ := hd
        refine par_callMethod hF ht1 he1 fun u x f r v2 e h => hab f ?_
        cases d <;> first
          | (dsimp only at e; cases e; simp only [Target.leads, h0, hd, Option.map_some, h])
          | (dsimp only at e; subst e; simp only [Target.leads, h0, hd, Option.map_some, h])
    | via t path f pointer =>
      dsimp only
      cases h0 : args[0]? with
      | none => exact par_of_calm (calm_stuck _) ht he
      | some x =>
        refine Par.bind (Q := fun _ => True) (par_of_calm (calm_receiverVia _ _ _ _) ht he) fun d v1 w1 es1 h1 _ he1 ht1 => ?_
        exact par_of_calm (calm_callFunc (hF f (hab f rfl)) (hab f rfl) _) ht1 he1
    | yield l =>
      refine par_of_calm ?_ ht he
      unfold Instr.yield Instr.getLoop
      refine calm_bind (Q := fun _ => False) (calm_getObj ?_ (.inl trivial)) (fun _ h => h.elim)
      intro o ho
      cases o <;> first | trivial | exact absurd trivial ho
end
end Go.Cx
end
section
namespace Go.Cx
variable {p : Program}
theorem calm_intToInt (k : IntKind) (n : Int) : calm p (fun _ => True) (Conv.intToInt k n) := by
  unfold Conv.intToInt
  exact calm_pure _
theorem calm_floatToInt (s : FloatKind) (b : Nat) (k : IntKind) : calm p (fun _ => True) (Conv.floatToInt s b k) := by
  unfold Conv.floatToInt
  repeat' first | (with_reducible (first | exact calm_pure _ | exact calm_stuck _ | exact calm_choose _ | apply calm_ite | apply calm_bind1)) | (refine calm_unsupported (fun g h => ?_); cases h) | intro _ | split | dsimp only | exact trivial
theorem calm_under (t : TypeId) : calm p (fun d => p.underlying t = some d) (underlying t) := by
  unfold underlying
  apply calm_program
  cases h : p.underlying t with
  | none => exact calm_stuck _
  | some d => exact (rfl : some d = some d)
def convOk (p : Program) (s d : TypeId) : Bool := match p.underlying s, p.underlying d with
  | some (.int _), some (.int _) => true
  | _, _ => false
theorem calm_convertInt {s d : TypeId} (h : convOk p s d = true) (x : Value) : calm p (fun _ => True) (convert s d x) := by
  unfold convOk at h
  split at h
  · next k1 k2 h1 h2 =>
    unfold convert
    refine calm_bind (calm_under s) fun d1 e1 => ?_
    rw [h1] at e1
    cases e1
    refine calm_bind (calm_under d) fun d2 e2 => ?_
    rw [h2] at e2
    cases e2
    cases x with
    | int k n => exact calm_intToInt _ _
    | float k b => exact calm_floatToInt _ _ _
    | pointer a =>
      cases a with
      | none => exact calm_unsupported (fun g h => by cases h)
      | some a => exact calm_unsupported (fun g h => by cases h)
    | _ => exact calm_unsupported (fun g h => by cases h)
  · cases h
theorem calm_makeSlice (t : TypeId) (x y : Value) : calm p (fun _ => True) (Instr.makeSlice t x y) := by
  unfold Instr.makeSlice
  repeat' first | (with_reducible (first | exact calm_pure _ | exact calm_stuck _ | exact calm_runtimePanic _ | exact calm_choose _ | exact calm_underlying _ | exact calm_typeInfo _ | exact calm_asInt _ | exact calm_sizeOf _ | exact calm_zeroValue _ | exact calm_newRow _ _ | exact calm_askRoom _ | apply calm_ite | apply calm_bind1)) | (refine calm_unsupported (fun g h => ?_); cases h) | intro _ | split | dsimp only
end Go.Cx
end
section
namespace Go.Cx
section
variable {p : Program} {B w v : World} {F : FuncId → Prop}
def opOk (p : Program) (o : Op) : Bool :=
  match o with
  | .move _ | .assign _ | .pick _ _ _ | .alloc _ | .box _ _ | .build _ _ | .buildSlice _ _ _ | .makeSlice _ _ _ | .load _ _ | .store _ _ _ | .nilCheck _ | .binOp _ _ _ _ _ | .unOp _ _ _ | .makeFunc _ _ _
  | .slice _ _ _ _ _ | .fieldAddr _ _ _ | .field _ _ _ | .indexAddr _ _ _ | .index _ _ _ | .extract _ _ => true
  | .call c => match c.callee with
    | .builtin b => builtinOk b
    | .value _ => true
    | .invoke _ _ => false
  | .convert s d _ => convOk p s d
  | _ => false
theorem calm_value {s : Sem Value} (hs : calm p (fun _ => True) s) : calm p (okNext F) (do pure (.value (← s)) : Sem Next) := calm_bind1 hs fun a => trivial
theorem calm_skip {s : Sem Unit} (hs : calm p (fun _ => True) s) : calm p (okNext F) (do s; pure .skip : Sem Next) := calm_bind1 hs fun a => trivial
theorem calm_exec {ρ : Operand → Value} {o : Oper} (ho : opOk p o.op = true) (hn : ∀ c, o.op ≠ .call c) : calm p (okNext F) (execOp ρ o) := by
  unfold execOp
  cases h : o.op with
  | move x => exact (trivial : okNext F (.value _))
  | assign x => exact (trivial : okNext F (.value _))
  | pick c a b => exact calm_bind1 (calm_asBool _) fun b => by cases b <;> exact (trivial : okNext F (.value _))
  | alloc t => exact calm_value (calm_alloc _ _ _)
  | box t x => exact calm_value (calm_box _ _)
  | build t ps => exact calm_value (calm_build _ _)
  | buildSlice t n ps => exact calm_value (calm_buildSlice _ _ _)
  | makeSlice t x y => exact calm_value (calm_makeSlice _ _ _)
  | load t a => exact calm_value (calm_loadAt _ _)
  | store t a x => exact calm_skip (calm_storeAt _ _ _)
  | nilCheck x =>
    dsimp only
    split
    · exact calm_runtimePanic _
    · exact calm_runtimePanic _
    · exact calm_runtimePanic _
    · split
      · exact calm_runtimePanic _
      · refine calm_program (calm_bind1 (calm_nilAhead _ _ _ _) fun r => ?_)
        split
        · exact calm_bind1 (calm_unsupported (fun g h => by cases h)) fun _ => (trivial : okNext F (.value _))
        · exact (trivial : okNext F (.value _))
      · exact (trivial : okNext F (.value _))
    · exact (trivial : okNext F (.value _))
  | binOp op t x y q => exact calm_value (calm_bind1 (calm_eqGuard _ _ _ _ _ _) fun _ => calm_binOp _ _ _ _)
  | unOp op t x => exact calm_value (calm_unary _ _)
  | makeFunc f a b => exact calm_value (calm_makeFunc _ _ _)
  | slice t x a b c => exact calm_value (calm_sliceAt _ _ _ _ _)
  | fieldAddr t x f => exact calm_value (calm_fieldAt _ _ _)
  | field t x f => exact calm_value (calm_field _ _ _)
  | indexAddr t x i => exact calm_value (calm_indexAt _ _ _)
  | index t x i => exact calm_value (calm_index _ _ _)
  | extract t i => exact calm_value (calm_extract _ _)
  | convert s d x => exact calm_value (calm_convertInt (by rw [h] at ho; simpa only [opOk] using ho) _)
  | call c => exact absurd h (hn c)
  | _ => rw [h] at ho; exact absurd ho (by simp [opOk])
theorem par_exec (hF : ∀ f, F f → FnIn p f) {ρ : Operand → Value} {o : Oper} (ho : opOk p o.op = true) {es : Array Event} (ht : Twin B w v) (he : OkEvs es)
    (hab : ∀ c d v1 f, o.op = .call c → (resolve ρ c o.type).run p v = .ok d v1 → d.target.leads p v1 d.args = some f → F f) : Par B (okNext F) ((execOp ρ o).runT p v es) ((execOp ρ o).runT p w es) := by
  by_cases hn : ∃ c, o.op = .call c
  case neg => exact par_of_calm (calm_exec ho fun c h => hn ⟨c, h⟩) ht he
  case pos =>
    obtain ⟨c, hc⟩ := hn
    rw [hc] at ho
    have e : execOp ρ o = (do let d ← resolve ρ c o.type; invoke d.target d.args) := by unfold execOp; rw [hc]
    rw [e]
    have fin : ∀ d : Deferred, resolve ρ c o.type = pure d → (∀ b x y z, d.target = .builtin b x y z → builtinOk b = true) → (∀ k, d.target ≠ .coroexit k) →
        Par B (okNext F) ((do let d ← resolve ρ c o.type; invoke d.target d.args : Sem Next).runT p v es) ((do let d ← resolve ρ c o.type; invoke d.target d.args : Sem Next).runT p w es) := by
      intro d er h1 h2
      have hr : (resolve ρ c o.type).run p v = .ok d v := by rw [er]; rfl
      rw [er, pure_bind]
      exact par_invoke hF ht he h1 h2 fun f h => hab c d v f hc hr h
    cases hcal : c.callee with
    | builtin b =>
      have hb : builtinOk b = true := by simpa [opOk, hcal] using ho
      exact fin { target := .builtin b c.argTypes o.type (c.args.map fun | .const _ => true | _ => false), args := c.args.map ρ } (by unfold resolve; rw [hcal]; rfl) (fun b' x y z h => by cases h; exact hb) (fun _ h => by cases h)
    | value x =>
      have er : resolve ρ c o.type = Deferred.ofValue (ρ x) (c.args.map ρ) := by unfold resolve; rw [hcal]
      cases hx : ρ x with
      | func fn first captured => exact fin { target := .fn fn captured, args := first ++ c.args.map ρ } (by rw [er, hx]; rfl) (fun b' x y z h => by cases h) (fun _ h => by cases h)
      | nilFunc => exact fin { target := .nil, args := c.args.map ρ } (by rw [er, hx]; rfl) (fun b' x y z h => by cases h) (fun _ h => by cases h)
      | _ =>
        obtain ⟨m, er2⟩ : ∃ m : String, resolve ρ c o.type = stuck m := by rw [er, hx]; exact ⟨_, rfl⟩
        rw [er2]
        exact (trivial : okHalt (.stuck _))
    | invoke x n => simp [opOk, hcal] at ho
end
end Go.Cx
end
section
namespace Go.Cx
open Go.Conc
section
variable {p : Program} {B w v : World} {F : FuncId → Prop}
def codeOk (p : Program) : Code → Bool
  | .skip | .label _ | .exit _ | .ret => true
  | .seq a b | .cond _ a b => codeOk p a && codeOk p b
  | .block _ c | .loop c | .scope c => codeOk p c
  | .region _ ops _ => ops.toList.all fun o => opOk p o.op
  | _ => false
def itemOk (p : Program) : Item → Bool
  | .code c | .inLoop c | .inScope c => codeOk p c
  | .inBlock _ => true
  | .inRegion ops _ => ops.toList.all fun o => opOk p o.op
  | _ => false
structure FnOk (p : Program) (f : FuncId) (fn : Func) (c : Code) : Prop where
  at_ : p.funcs[f]? = some fn
  name : (fn.name == "runtime.NumGoroutine") = false
  body : fn.body = some c
  code : codeOk p c = true
  ini : p.inits.idxOf? f = none
def FenceOk (p : Program) (F : FuncId → Prop) : Prop := ∀ f, F f → ∃ fn c, FnOk p f fn c
theorem FenceOk.fnIn (h : FenceOk p F) : ∀ f, F f → FnIn p f := fun f hf => by
  obtain ⟨fn, c, hk⟩ := h f hf
  exact ⟨fn, hk.at_, hk.name, by rw [hk.body]; rfl⟩
structure FrIn (p : Program) (F : FuncId → Prop) (fr : Frame) : Prop where
  fn : F fr.fn
  ro : fr.roundOf = none
  df : fr.defers = []
  kd : fr.kind = .normal
  td : ∀ it ∈ fr.todo, itemOk p it = true
def Under (p : Program) (F : FuncId → Prop) (cs : List Frame) : Prop := ∀ c ∈ cs, FrIn p F c ∧ c.mode = .run
def Fine (p : Program) (F : FuncId → Prop) (g : Goroutine) : Prop := ∃ fr cs, g = G fr cs ∧ FrIn p F fr ∧ (fr.mode = .run ∨ fr.mode = .returning) ∧ Under p F cs
def Pan (p : Program) (F : FuncId → Prop) (g : Goroutine) : Prop := ∃ fr cs chain, g = G fr cs ∧ fr.mode = .panicking chain ∧ (chain.head?.any (·.goexit)) = false ∧ fr.defers = [] ∧ F fr.fn ∧ Under p F cs
def StepIn (p : Program) (F : FuncId → Prop) (B : World) (g : Goroutine) (v w : World) : Prop :=
  match stepG p true g v with
  | .ended _ _ _ => True
  | .go g1 v1 es => Pan p F g1 ∨ (Fine p F g1 ∧ OkEvs es ∧ ∃ w1, stepG p true g w = .go g1 w1 es ∧ Twin B w1 v1)
  | _ => False
theorem StepIn.still {g g1 : Goroutine} (h : ∀ x, stepG p true g x = .go g1 x #[]) (hf : Fine p F g1) (ht : Twin B w v) : StepIn p F B g v w := by
  unfold StepIn
  rw [h v]
  exact .inr ⟨hf, (fun e he => by simp at he), w, h w, ht⟩
theorem StepIn.over {g : Goroutine} {o : Outcome} {v1 : World} {es : Array Event} (h : stepG p true g v = .ended o v1 es) : StepIn p F B g v w := by
  unfold StepIn
  rw [h]
  trivial
theorem StepIn.over_ {g : Goroutine} (h : ∃ o v1 es, stepG p true g v = .ended o v1 es) : StepIn p F B g v w := by
  obtain ⟨_, _, _, h⟩ := h
  exact StepIn.over h
theorem exitTo_ok {id : Nat} : ∀ {k k' : List Item}, exitTo id k = some k' → (∀ it ∈ k, itemOk p it = true) → ∀ it ∈ k', itemOk p it = true
  | [], k', h, hk => by simp [exitTo] at h
  | x :: k, k', h, hk => by
    have hk' : ∀ it ∈ k, itemOk p it = true := fun it hi => hk it (List.mem_cons_of_mem _ hi)
    cases x <;> simp only [exitTo] at h <;> first
      | exact exitTo_ok h hk'
      | (split at h
         · cases h; exact hk'
         · exact exitTo_ok h hk')
theorem FrIn.finish {fr : Frame} (h : FrIn p F fr) (x : Value) : FrIn p F (fr.finish x) := by
  obtain ⟨fn, tmps, todo, defers, mode, kind, ro⟩ := fr
  obtain ⟨h1, h2, h3, h4, h5⟩ := h
  unfold Frame.finish
  cases todo with
  | nil => exact ⟨h1, h2, h3, h4, h5⟩
  | cons it k =>
    cases it with
    | inRegion ops l =>
      cases l with
      | nil => exact ⟨h1, h2, h3, h4, h5⟩
      | cons i rest =>
        refine ⟨h1, h2, h3, h4, fun it hit => ?_⟩
        rcases List.mem_cons.1 hit with rfl | hit
        · have := h5 _ (List.mem_cons_self ..)
          simpa [itemOk] using this
        · exact h5 _ (List.mem_cons_of_mem _ hit)
    | code c => exact ⟨h1, h2, h3, h4, h5⟩
    | inBlock i => exact ⟨h1, h2, h3, h4, h5⟩
    | inLoop c => exact ⟨h1, h2, h3, h4, h5⟩
    | inScope c => exact ⟨h1, h2, h3, h4, h5⟩
    | _ => exact absurd (h5 _ (List.mem_cons_self ..)) (by simp [itemOk])
theorem finish_mode (fr : Frame) (x : Value) : (fr.finish x).mode = fr.mode := by
  unfold Frame.finish; split <;> rfl
theorem frIn_enter (hF : FenceOk p F) {f : FuncId} (hf : F f) (args : Array Value) : FrIn p F (Frame.enter p f args .normal) := by
  obtain ⟨fn, c, hk⟩ := hF f hf
  refine ⟨hf, rfl, rfl, rfl, fun it hit => ?_⟩
  simp only [Frame.enter, hk.at_, Option.bind_some, hk.body, Option.getD_some, List.mem_singleton] at hit
  subst hit
  exact hk.code
theorem apply_calm (hF : FenceOk p F) {fr : Frame} {cs : List Frame} (hfr : FrIn p F fr) (hm : fr.mode = .run) (hcs : Under p F cs) {ops : Array Oper} {l : List Nat} {k : List Item} (hto : fr.todo = .inRegion ops l :: k)
    {s : Sem Next} (hP : Par B (okNext F) (s.runT p v #[]) (s.runT p w #[]))
    (hv : stepG p true (G fr cs) v = stepG.apply p true fr cs none s v) (hw : stepG p true (G fr cs) w = stepG.apply p true fr cs none s w) : StepIn p F B (G fr cs) v w := by
  have hkind : (match fr.todo with | .call _ true _ _ :: _ => CallKind.wrapped | _ => .normal) = .normal := by rw [hto]
  have hke : (fr.kind == CallKind.early) = false := by rw [hfr.kd]; rfl
  unfold StepIn
  rw [hv, hw]
  unfold Par at hP
  cases hr : s.runT p v #[] with
  | mk r es1 =>
    rw [hr] at hP
    cases r with
    | halt x v1 =>
      cases x with
      | panic y =>
        simp only [stepG.apply, if_true, hr, hke, GStep.after]
        refine .inl ⟨fr.raise [{ v := y, recovered := false }], cs, [{ v := y, recovered := false }], rfl, ?_, rfl, ?_, ?_, hcs⟩
        · unfold Frame.raise; rw [hm]
        · unfold Frame.raise; rw [hm]; exact hfr.df
        · unfold Frame.raise; rw [hm]; exact hfr.fn
      | stuck y => simp only [stepG.apply, if_true, hr, hke, GStep.after]
      | unsupported u =>
        have hu : ∀ g, u ≠ .initOrder g := hP
        cases u <;> first
          | exact absurd rfl (hu _)
          | simp only [stepG.apply, if_true, hr, hke, GStep.after]
      | _ => exact hP.elim
    | ok nx v1 =>
      obtain ⟨hq, he, w1, ew, ht⟩ := hP
      cases nx with
      | value x =>
        simp only [stepG.apply, if_true, hr, ew, hke, GStep.after, Bool.false_eq_true, if_false]
        exact .inr ⟨⟨fr.finish x, cs, rfl, hfr.finish x, by rw [finish_mode]; exact .inl hm, hcs⟩, by simpa using seen_ok he, w1, rfl, ht⟩
      | skip =>
        simp only [stepG.apply, if_true, hr, ew, hke, GStep.after, Bool.false_eq_true, if_false]
        exact .inr ⟨⟨fr.finish undef, cs, rfl, hfr.finish undef, by rw [finish_mode]; exact .inl hm, hcs⟩, by simpa using seen_ok he, w1, rfl, ht⟩
      | enter f args =>
        simp only [stepG.apply, if_true, hr, ew, hke, GStep.after, Bool.false_eq_true, if_false, hkind]
        refine .inr ⟨⟨Frame.enter p f args .normal, fr :: cs, by first | rfl | (rw [hto]; rfl), frIn_enter hF hq args, .inl rfl, fun c hc => ?_⟩, by simpa using seen_ok he, w1, by first | rfl | (rw [hto]), ht⟩
        rcases List.mem_cons.1 hc with rfl | hc
        · exact ⟨hfr, hm⟩
        · exact hcs c hc
      | _ => exact hq.elim
end
end Go.Cx
end
section
namespace Go.Cx
open Go.Conc
section
variable {p : Program} {B w v : World} {F : FuncId → Prop}
theorem ok_cons {x : Item} {k : List Item} (h : itemOk p x = true) (hk : ∀ it ∈ k, itemOk p it = true) : ∀ it ∈ x :: k, itemOk p it = true :=
  fun it hi => (List.mem_cons.1 hi).elim (fun e => e ▸ h) (hk it)
theorem step_run (hF : FenceOk p F) {fn : FuncId} {tmps : Array Value} {todo : List Item} {cs : List Frame} (hfr : FrIn p F ⟨fn, tmps, todo, [], .run, .normal, none⟩) (hcs : Under p F cs)
    (hab : ∀ f, Frame.about p v ⟨fn, tmps, todo, [], .run, .normal, none⟩ = some f → F f) (ht : Twin B w v) : StepIn p F B (G ⟨fn, tmps, todo, [], .run, .normal, none⟩ cs) v w := by
  have hfn := hfr.fn
  have htd := hfr.td
  have to : ∀ k : List Item, (∀ it ∈ k, itemOk p it = true) → Fine p F (G ⟨fn, tmps, k, [], .run, .normal, none⟩ cs) := fun k hk => ⟨_, cs, rfl, ⟨hfn, rfl, rfl, rfl, hk⟩, .inl rfl, hcs⟩
  cases todo with
  | nil => exact StepIn.still (g1 := G ⟨fn, tmps, [], [], .returning, .normal, none⟩ cs) (fun x => by simp [G, stepG, stepG.exec]) ⟨_, cs, rfl, ⟨hfn, rfl, rfl, rfl, by simp⟩, .inr rfl, hcs⟩ ht
  | cons it k =>
    have hk : ∀ it ∈ k, itemOk p it = true := fun it hi => htd it (List.mem_cons_of_mem _ hi)
    have h0 : itemOk p it = true := htd it (List.mem_cons_self ..)
    cases it with
    | inBlock i => exact StepIn.still (g1 := G ⟨fn, tmps, k, [], .run, .normal, none⟩ cs) (fun x => by simp [G, stepG, stepG.exec]) (to k hk) ht
    | inScope c => exact StepIn.still (g1 := G ⟨fn, tmps, k, [], .run, .normal, none⟩ cs) (fun x => by simp [G, stepG, stepG.exec]) (to k hk) ht
    | inLoop c =>
      exact StepIn.still (g1 := G ⟨fn, tmps, .code c :: .inLoop c :: k, [], .run, .normal, none⟩ cs) (fun x => by simp [G, stepG, stepG.exec])
        (to _ (ok_cons h0 (ok_cons h0 hk))) ht
    | code c =>
      cases c with
      | skip => exact StepIn.still (g1 := G ⟨fn, tmps, k, [], .run, .normal, none⟩ cs) (fun x => by simp [G, stepG, stepG.exec]) (to k hk) ht
      | label l => exact StepIn.still (g1 := G ⟨fn, tmps, k, [], .run, .normal, none⟩ cs) (fun x => by simp [G, stepG, stepG.exec]) (to k hk) ht
      | ret => exact StepIn.still (g1 := G ⟨fn, tmps, .code .ret :: k, [], .returning, .normal, none⟩ cs) (fun x => by simp [G, stepG, stepG.exec]) ⟨_, cs, rfl, ⟨hfn, rfl, rfl, rfl, htd⟩, .inr rfl, hcs⟩ ht
      | exit id =>
        cases he : exitTo id k with
        | some k' => exact StepIn.still (g1 := G ⟨fn, tmps, k', [], .run, .normal, none⟩ cs) (fun x => by simp [G, stepG, stepG.exec, he]) (to k' (exitTo_ok he hk)) ht
        | none => exact StepIn.over_ (by simp [G, stepG, stepG.exec, he])
      | seq a b =>
        have h1 : codeOk p a = true ∧ codeOk p b = true := by simpa [itemOk, codeOk] using h0
        exact StepIn.still (g1 := G ⟨fn, tmps, .code a :: .code b :: k, [], .run, .normal, none⟩ cs) (fun x => by simp [G, stepG, stepG.exec])
          (to _ (ok_cons h1.1 (ok_cons h1.2 hk))) ht
      | cond c a b =>
        have h1 : codeOk p a = true ∧ codeOk p b = true := by simpa [itemOk, codeOk] using h0
        by_cases hb : ∃ t, Frame.eval ⟨fn, tmps, .code (.cond c a b) :: k, [], .run, .normal, none⟩ c = .bool t
        · obtain ⟨t, hb⟩ := hb
          exact StepIn.still (g1 := G ⟨fn, tmps, .code (if t then a else b) :: k, [], .run, .normal, none⟩ cs) (fun x => by simp [G, stepG, stepG.exec, hb])
            (to _ (ok_cons (x := .code (if t then a else b)) (by cases t <;> first | exact h1.1 | exact h1.2) hk)) ht
        · refine StepIn.over_ ?_
          simp only [G, stepG, stepG.exec]
          split
          · next t h => exact absurd ⟨t, h⟩ hb
          · exact ⟨_, _, _, rfl⟩
      | block id c =>
        exact StepIn.still (g1 := G ⟨fn, tmps, .code c :: .inBlock id :: k, [], .run, .normal, none⟩ cs) (fun x => by simp [G, stepG, stepG.exec])
          (to _ (ok_cons h0 (ok_cons rfl hk))) ht
      | loop c =>
        exact StepIn.still (g1 := G ⟨fn, tmps, .code c :: .inLoop c :: k, [], .run, .normal, none⟩ cs) (fun x => by simp [G, stepG, stepG.exec])
          (to _ (ok_cons h0 (ok_cons h0 hk))) ht
      | scope c =>
        exact StepIn.still (g1 := G ⟨fn, tmps, .code c :: .inScope c :: k, [], .run, .normal, none⟩ cs) (fun x => by simp [G, stepG, stepG.exec])
          (to _ (ok_cons h0 (ok_cons h0 hk))) ht
      | region id ops dr =>
        cases dr with
        | false =>
          exact StepIn.still (g1 := G ⟨fn, tmps, .inRegion ops (List.range ops.size) :: k, [], .run, .normal, none⟩ cs) (fun x => by simp [G, stepG, stepG.exec])
            (to _ (ok_cons h0 hk)) ht
        | true =>
          have hc := calm_run (B := B) (Q := fun _ => True) (p := p) (choose (.order fn id)) w v #[] (calm_choose _) ht (fun e he => by simp at he)
          have e1 : ∀ x : World, (choose (.order fn id)).run p x = .ok (Question.cut (.order fn id) (x.tape x.drawn (.order fn id))) { x with drawn := x.drawn + 1 } := fun x => by
            simp [choose, Sem.run, Question.forced]
          unfold StepIn
          have e2 : ∀ x : World, stepG p true (G ⟨fn, tmps, .code (.region id ops true) :: k, [], .run, .normal, none⟩ cs) x =
              .go (G ⟨fn, tmps, .inRegion ops (Region.schedule (p.follows .mixedOrders) ops (Question.cut (.order fn id) (x.tape x.drawn (.order fn id)))) :: k, [], .run, .normal, none⟩ cs) { x with drawn := x.drawn + 1 } #[] := fun x => by
            simp only [G, stepG, stepG.exec, Bool.not_true, Bool.false_eq_true, if_false, e1]
          rw [e2 v]
          refine .inr ⟨to _ (ok_cons h0 hk), (fun e he => by simp at he), { w with drawn := w.drawn + 1 }, ?_, ht.draw⟩
          rw [e2 w, ht.tape, ht.drawn]
      | _ => exact absurd h0 (by simp [itemOk, codeOk])
    | inRegion ops l =>
      cases l with
      | nil => exact StepIn.still (g1 := G ⟨fn, tmps, k, [], .run, .normal, none⟩ cs) (fun x => by simp [G, stepG, stepG.exec]) (to k hk) ht
      | cons i rest =>
        cases hw : ((ops[i]?).map (Region.wanted · (yielded ops tmps))).getD false with
        | false =>
          refine StepIn.still (g1 := G (Frame.finish ⟨fn, tmps, .inRegion ops (i :: rest) :: k, [], .run, .normal, none⟩ undef) cs) (fun x => by simp [G, stepG, stepG.exec, hw]) ?_ ht
          exact ⟨_, cs, rfl, hfr.finish undef, .inl (by rw [finish_mode]), hcs⟩
        | true =>
          cases ho : ops[i]? with
          | none => rw [ho] at hw; simp at hw
          | some o =>
            rw [ho] at hw
            have hw' : Region.wanted o (yielded ops tmps) = true := by simpa using hw
            have hok : opOk p o.op = true := by
              have := List.all_eq_true.1 h0 o (by
                obtain ⟨hi, e⟩ := Array.getElem?_eq_some_iff.1 ho
                rw [← e]; simp)
              exact this
            refine apply_calm hF hfr rfl hcs rfl (par_exec (ρ := Frame.eval ⟨fn, tmps, .inRegion ops (i :: rest) :: k, [], .run, .normal, none⟩) (o := o) hF.fnIn hok ht (fun e he => by simp at he) ?_) ?_ ?_
            · intro c d v1 f hc hr hl
              refine hab f ?_
              simp only [Frame.about, ho, hc, hr, hl]
            · simp [G, stepG, stepG.exec, stepG.oper, Frame.oper?, ho, hw']
            · simp [G, stepG, stepG.exec, stepG.oper, Frame.oper?, ho, hw']
    | _ => exact absurd h0 (by simp [itemOk])
end
end Go.Cx
end
section
namespace Go.Cx
open Go.Conc
section
variable {p : Program} {B w v : World} {F : FuncId → Prop}
theorem calm_results (fn : Func) (tmps : Array Value) : calm p (fun _ => True) (results fn tmps) := by
  unfold results
  refine calm_bind1 (calm_mapM (fun r => ?_) _) fun vs => calm_pure _
  split
  · exact calm_pure _
  · exact calm_bind1 (calm_asAddr _) fun a => calm_loadVar _ _
theorem step_ret (hF : FenceOk p F) {fr : Frame} {cs : List Frame} (hfr : FrIn p F fr) (hm : fr.mode = .returning) (hcs : Under p F cs) (ht : Twin B w v) : StepIn p F B (G fr cs) v w := by
  obtain ⟨fn, c, hk⟩ := hF _ hfr.fn
  have hP := par_of_calm (p := p) (es := #[]) (calm_results fn fr.tmps) ht (fun e he => by simp at he)
  obtain ⟨m, e0⟩ : ∃ m : String, ∀ x : World, stepG p true (G fr cs) x = GStep.after (seen p fr.fn ((results fn fr.tmps).runT p x #[]).2) (match ((results fn fr.tmps).runT p x #[]).1 with
      | .ok v w => doReturn p true fr cs none v w
      | .halt (.stuck s) w => .ended (.stuck s (fr.pos p)) w
      | .halt _ w => .ended (.stuck m (fr.pos p)) w) := by
    apply Exists.intro
    intro x
    simp only [G, stepG, hm, unwind, hfr.df, hk.at_]
    rfl
  unfold StepIn
  rw [e0 v, e0 w]
  unfold Par at hP
  cases hr : (results fn fr.tmps).runT p v #[] with
  | mk r es1 =>
    rw [hr] at hP
    cases r with
    | halt x v1 => cases x <;> exact trivial
    | ok y v1 =>
      obtain ⟨_, he, w1, ew, ht1⟩ := hP
      rw [ew]
      cases cs with
      | nil =>
        have e1 : ∀ z : World, doReturn p true fr [] none y z = .ended (.done y) z := fun z => by simp [doReturn, hfr.kd, hk.ini]
        simp only [e1]
        exact trivial
      | cons c rest =>
        have e1 : ∀ z : World, doReturn p true fr (c :: rest) none y z = .go (G (c.finish y) rest) z #[] := fun z => by simp [doReturn, hfr.kd, G]
        simp only [e1, GStep.after]
        obtain ⟨h1, h2⟩ := hcs c (List.mem_cons_self ..)
        exact .inr ⟨⟨_, rest, rfl, h1.finish y, .inl (by rw [finish_mode]; exact h2), fun d hd => hcs d (List.mem_cons_of_mem _ hd)⟩, by simpa using seen_ok he, w1, rfl, ht1⟩
theorem step_fine (hF : FenceOk p F) {g : Goroutine} (hg : Fine p F g) (hab : ∀ f, g.frame.about p v = some f → F f) (ht : Twin B w v) : StepIn p F B g v w := by
  obtain ⟨fr, cs, rfl, hfr, hm, hcs⟩ := hg
  rcases hm with hm | hm
  · obtain ⟨fn, tmps, todo, defers, mode, kind, ro⟩ := fr
    obtain rfl : mode = .run := hm
    obtain rfl : defers = [] := hfr.df
    obtain rfl : kind = .normal := hfr.kd
    obtain rfl : ro = none := hfr.ro
    exact step_run hF hfr hcs hab ht
  · exact step_ret hF hfr hm hcs ht
theorem step_pan (hF : FenceOk p F) {g : Goroutine} (hg : Pan p F g) : (∃ o v1 es, stepG p true g v = .ended o v1 es) ∨ ∃ g1 v1 es, stepG p true g v = .go g1 v1 es ∧ (Pan p F g1 ∨ (g1.status = .running ∧ g1.dying.isNone = false)) := by
  obtain ⟨fr, cs, chain, rfl, hm, hx, hd, hfn, hcs⟩ := hg
  obtain ⟨fn, c, hk⟩ := hF _ hfn
  have hct : fr.catches p = false := by unfold Frame.catches; rw [hk.at_]
  have e0 : stepG p true (G fr cs) v = (match cs with
      | caller :: rest => .go (G (caller.raise chain) rest) v
      | [] => match (reportChain chain false).run p v with
          | .ok todo w =>
            .go { frame := fr, callers := [], status := .running,
                  dying := some { todo, texts := [], calling := false, pending := "",
                                  runtimeError := isRuntimeError p (chain.head?.map (·.v)) } } w
          | .halt (.unsupported u) w => .ended (.unsupported u "") w
          | .halt _ w => .ended (.stuck "the report of a panic" "") w) := by
    cases cs with
    | nil =>
      simp only [G, stepG, hm, unwind, hd, hct, hx, Bool.false_eq_true, if_false]
      cases (reportChain chain false).run p v with
      | ok todo w => rfl
      | halt x w => cases x <;> rfl
    | cons c rest => simp only [G, stepG, hm, unwind, hd, hct, Bool.false_eq_true, if_false]
  rw [e0]
  cases cs with
  | cons c rest =>
    refine .inr ⟨_, _, _, rfl, .inl ?_⟩
    obtain ⟨h1, h2⟩ := hcs c (List.mem_cons_self ..)
    refine ⟨c.raise chain, rest, chain, rfl, ?_, hx, ?_, ?_, fun d hd => hcs d (List.mem_cons_of_mem _ hd)⟩
    · unfold Frame.raise; rw [h2]
    · unfold Frame.raise; rw [h2]; exact h1.df
    · unfold Frame.raise; rw [h2]; exact h1.fn
  | nil =>
    dsimp only
    cases (reportChain chain false).run p v with
    | ok todo w => exact .inr ⟨_, _, _, rfl, .inr ⟨rfl, rfl⟩⟩
    | halt x w => cases x <;> exact .inl ⟨_, _, _, rfl⟩
theorem lone_ok {es : Array Event} (h : OkEvs es) (fn : FuncId) (pos : String) : Lone (MemOp.ofEvents 0 fn pos es) := by
  intro op hop
  obtain ⟨e, he, rfl⟩ := Go.Conc.mem_ofEvents hop
  have hk := h e he
  have key : ∀ m, MemAct.ofEvent e = .mark m → e.loc = .mark m := by
    intro m hm
    obtain ⟨l, wr, sy⟩ := e
    cases l with
    | mark m' => simp [MemAct.ofEvent] at hm; subst hm; rfl
    | obj r => cases wr <;> cases sy <;> simp [MemAct.ofEvent] at hm
    | _ => simp [MemAct.ofEvent] at hm
  refine ⟨rfl, fun hm => ?_, fun hm => ?_, fun a hm => ?_⟩ <;> (have e1 := key _ hm; unfold okEv at hk; rw [e1] at hk; exact hk)
theorem step_solo_ended {g : Goroutine} {o : Outcome} {v1 : World} {es : Array Event} (hs : g.status = .running) (h : stepG p true g v = .ended o v1 es) : Go.step p (solo g v) = .ended o v1 := by
  rw [Go.step, stepT_solo hs]
  simp [runT, solo, Array.swapAt!, Array.swapAt, h, GStep.es]
theorem chain_pan {Fc : Fence} (hal : Fc.alive = true) (hF : FenceOk p Fc.fn) {m m' : Machine} (h : StepsIn (Machine.fenced p Fc) p m m') :
    ∀ g v, m = solo g v → Pan p Fc.fn g → ∀ fr' cs' v', m' = solo (G fr' cs') v' → fr'.mode = .run → False := by
  induction h with
  | refl m =>
    rintro g v rfl ⟨fr, cs, chain, rfl, hm, _⟩ fr' cs' v' e hm'
    have e1 : (solo (G fr cs) v).gs = (solo (G fr' cs') v').gs := by rw [e]
    simp [solo, G] at e1
    rw [e1.1, hm'] at hm
    cases hm
  | head hI hs h' ih =>
    rename_i m0 m1 m2
    rintro g v rfl hg fr' cs' v' e hm'
    have hrun : g.status = .running := by obtain ⟨fr, cs, chain, rfl, _⟩ := hg; rfl
    rcases step_pan (v := v) hF hg with ⟨o, v1, es, h1⟩ | ⟨g1, v1, es, h1, h2⟩
    · rw [step_solo_ended hrun h1] at hs; cases hs
    · have hs1 : Go.step p (solo g v) = .next (solo g1 v1) := by rw [Go.step, stepT_solo hrun, runT_solo_go h1]
      rw [hs1] at hs
      cases hs
      rcases h2 with h2 | ⟨h2, h3⟩
      · exact ih g1 v1 rfl h2 fr' cs' v' e hm'
      · cases h' with
        | refl =>
          have e1 : (solo g1 v1).gs = (solo (G fr' cs') v').gs := by rw [e]
          simp [solo] at e1
          rw [e1] at h3
          simp [G] at h3
        | head hI' _ _ =>
          have := (hI' g1 (by simp [solo])).1 hal
          rw [this] at h3; cases h3
theorem chain_calm {Fc : Fence} (hal : Fc.alive = true) (hF : FenceOk p Fc.fn) {m m' : Machine} (h : StepsIn (Machine.fenced p Fc) p m m') :
    ∀ g v w t, m = solo g v → Fine p Fc.fn g → Twin B w v → Lone t → ∀ fr' cs' v', m' = solo (G fr' cs') v' → fr'.mode = .run →
      ∃ N w' t', runNT p N (solo g w) t = (.next (solo (G fr' cs') w'), t') ∧ Lone t' ∧ Twin B w' v' := by
  induction h with
  | refl m =>
    rintro g v w t rfl hg ht hl fr' cs' v' e hm'
    have e1 : (solo g v).gs = (solo (G fr' cs') v').gs := by rw [e]
    have e2 : (solo g v).world = (solo (G fr' cs') v').world := by rw [e]
    simp [solo] at e1 e2
    subst e1; subst e2
    exact ⟨0, w, t, rfl, hl, ht⟩
  | head hI hs h' ih =>
    rename_i m0 m1 m2
    rintro g v w t rfl hg ht hl fr' cs' v' e hm'
    have hrun : g.status = .running := by obtain ⟨fr, cs, rfl, _⟩ := hg; rfl
    have hst := step_fine (v := v) (w := w) (B := B) hF hg (hI g (by simp [solo])).2.2.1 ht
    unfold StepIn at hst
    cases hsg : stepG p true g v with
    | ended o v1 es => rw [step_solo_ended hrun hsg] at hs; cases hs
    | go g1 v1 es =>
      rw [hsg] at hst
      have hs1 : Go.step p (solo g v) = .next (solo g1 v1) := by rw [Go.step, stepT_solo hrun, runT_solo_go hsg]
      rw [hs1] at hs
      cases hs
      rcases hst with hpan | ⟨hfine, hes, w1, hw1, ht1⟩
      · exact absurd (chain_pan hal hF h' g1 v1 rfl hpan fr' cs' v' e hm') id
      · obtain ⟨N, w', t', hr, hl', ht'⟩ := ih g1 v1 w1 (t ++ MemOp.ofEvents 0 g.frame.fn g.frame.place es) rfl hfine ht1 (hl.app (lone_ok hes _ _)) fr' cs' v' e hm'
        refine ⟨N + 1, w', t', ?_, hl', ht'⟩
        simp only [runNT, stepT_solo hrun, runT_solo_go hw1]
        exact hr
    | _ => rw [hsg] at hst; exact hst.elim
end
end Go.Cx
end
section
namespace Go.Cx
open Go.Conc Go.RowKit
def fnOkB (p : Program) (f : FuncId) : Bool :=
  match p.funcs[f]? with
  | some fn => match fn.body with
    | some c => !(fn.name == "runtime.NumGoroutine") && codeOk p c && (p.inits.idxOf? f).isNone
    | none => false
  | none => false
theorem fenceOk_of {p : Program} {L : List FuncId} (h : L.all (fnOkB p) = true) : FenceOk p (· ∈ L) := by
  intro f hf
  have h1 := List.all_eq_true.1 h f hf
  unfold fnOkB at h1
  split at h1
  · next fn e1 =>
    split at h1
    · next c e2 =>
      simp only [Bool.and_eq_true, Bool.not_eq_true', Option.isNone_iff_eq_none] at h1
      exact ⟨fn, c, e1, h1.1.1, e2, h1.1.2, h1.2⟩
    · cases h1
  · cases h1
def badB : Obj → Bool
  | .loop _ | .pending _ _ => true
  | _ => false
theorem badB_iff (o : Obj) : badB o = true ↔ bad o := by cases o <;> simp [badB, bad]
def strike (w : World) : World := { w with heap := w.heap.map fun o => if badB o then .coro none else o }
theorem twin_strike (w : World) : Twin w w (strike w) where
  tape := rfl
  drawn := rfl
  os := rfl
  output := rfl
  size := by simp [strike]
  at_ := by
    intro i
    simp only [strike, Array.getElem?_map]
    cases h : w.heap[i]? with
    | none => left; rfl
    | some o =>
      by_cases hb : badB o = true
      · right; exact ⟨o, (badB_iff o).1 hb, rfl, by simp [hb]⟩
      · left; simp [hb]
  ok := by
    intro i o h
    simp only [strike, Array.getElem?_map] at h
    cases h1 : w.heap[i]? with
    | none => rw [h1] at h; cases h
    | some x =>
      rw [h1] at h
      simp only [Option.map_some, Option.some.injEq] at h
      subst h
      by_cases hb : badB x = true
      · simp [hb, bad]
      · rw [if_neg hb]; exact fun h => hb ((badB_iff x).2 h)
  keep := fun i o h _ => h
  only := fun i o h _ => h
theorem twin_below {W w v : World} (ht : Twin W w v) (hb : Below W.heap.size (strike W) v) : Below W.heap.size W w where
  os := ht.os.trans (hb.os.trans rfl)
  tape := ht.tape.trans (hb.tape.trans rfl)
  output := ht.output.trans (hb.output.trans rfl)
  size := by
    have := hb.size
    rw [ht.size]
    simpa [strike] using this
  block := by
    intro k hk
    have h1 := hb.block k hk
    have h2 : (strike W).heap[k]? = (W.heap[k]?).map fun o => if badB o then .coro none else o := by simp [strike]
    cases ho : W.heap[k]? with
    | none => rw [Array.getElem?_eq_none_iff] at ho; omega
    | some o =>
      rw [ho] at h2
      by_cases hbad : bad o
      · exact ht.keep k o ho hbad
      · have h3 : badB o = false := by
          cases h : badB o with
          | false => rfl
          | true => exact absurd ((badB_iff o).1 h) hbad
        simp only [Option.map_some, h3, Bool.false_eq_true, if_false] at h2
        rcases ht.at_ k with e | ⟨x, hx, e1, e2⟩
        · rw [e, h1, h2]
        · have h4 := ht.only k x e1 hx
          rw [ho] at h4
          cases h4
          exact absurd hx hbad
end Go.Cx
end
section
namespace Go.Cx
def subC : Code → Nat → Code
  | .seq a _, 0 => a
  | .seq _ b, _ => b
  | .cond _ a _, 0 => a
  | .cond _ _ b, _ => b
  | .block _ c, _ => c
  | .loop c, _ => c
  | .scope c, _ => c
  | .rangeFunc _ _ a _, 0 => a
  | .rangeFunc _ _ _ b, _ => b
  | c, _ => c
def codeAt : Code → List Nat → Code
  | c, [] => c
  | c, i :: l => codeAt (subC c i) l
def opsOfC : Code → Array Oper
  | .region _ ops _ => ops
  | _ => #[]
def bodyOf (p : Tab) (k : Nat) : Code := match p.funcs.get k with | some f => (match f.body with | some c => c | none => .skip) | none => .skip
def cAt (p : Tab) (k : Nat) (l : List Nat) : Code := codeAt (bodyOf p k) l
def oAt (p : Tab) (k : Nat) (l : List Nat) : Array Oper := opsOfC (cAt p k l)
def opN (ops : Array Oper) (i : Nat) : Oper := match dropN ops.toList i with | o :: _ => o | [] => default
def regAt (p : Tab) (k : Nat) (l : List Nat) (i : Nat) : AI := .reg (oAt p k l) i (dropN (oAt p k l).toList i)
def mkT {α : Type} (l : List (Nat × α)) : T α := l.foldl (fun t x => t.set x.1 x.2) .e
def vI (n : Int) : Value := .int .i64 n
def vP (b o : Nat) : Value := .pointer (some ⟨b, o, none⟩)
def vS (b o l c : Nat) : Value := .slice (some ⟨b, o, none⟩) l c
def vT : Value := .bool true
def vF : Value := .bool false
def oI (n : Int) : Option Value := some (.int .i64 n)
def oS (b o l c : Nat) : Option Value := some (.slice (some ⟨b, o, none⟩) l c)
def oP (b o : Nat) : Option Value := some (.pointer (some ⟨b, o, none⟩))
def oU : Option Value := none
def row (b u : Nat) (c : List (Option Value)) : Nat × AObj := (b, .cells c u b 0 [b])
def pieceA (p : Tab) (pl : T (T (List Phase))) (n : Nat) (l : List Nat) (m : Nat) (x : L) : Option L :=
  match runL p pl n x with
  | .next y => gcA l m y
  | _ => none
theorem Reaches.piece {p : Tab} {pl : T (T (List Phase))} {n m : Nat} {l : List Nat} {x y z : L} (h : pieceA p pl n l m x = some y) (t : ∃ k, Reaches p pl k y z) : ∃ k, Reaches p pl k x z := by
  obtain ⟨k, t⟩ := t
  unfold pieceA at h
  split at h
  · next y' e => exact ⟨_, .run e (.gc h t)⟩
  · cases h
def lastA (p : Tab) (pl : T (T (List Phase))) (n : Nat) (x : L) : Option L := match runL p pl n x with | .next y => some y | _ => none
theorem Reaches.last {p : Tab} {pl : T (T (List Phase))} {n : Nat} {x y : L} (h : lastA p pl n x = some y) : ∃ k, Reaches p pl k x y := by
  unfold lastA at h
  split at h
  · next y' e => cases h; exact ⟨_, .run e (.refl _)⟩
  · cases h
theorem Reaches.none {p : Tab} {pl : T (T (List Phase))} {x : L} : ∃ k, Reaches p pl k x x := ⟨_, .refl x⟩
end Go.Cx
namespace Go.Cx
def T.keys {α : Type} : T α → List Nat
  | .e => []
  | .n l v r => (match v with | some _ => [0] | none => []) ++ (l.keys.map (fun k => 2 * k + 1) ++ r.keys.map (fun k => 2 * k + 2))
theorem T.keys_of {α : Type} : ∀ (t : T α) (k : Nat) (a : α), t.get k = some a → k ∈ t.keys
  | .e, k, a, h => by rw [T.get_e] at h; cases h
  | .n l v r, k, a, h => by
    simp only [T.keys, List.mem_append, List.mem_map]
    by_cases h0 : k = 0
    · subst h0
      rw [T.get_zero] at h
      simp only [T.here] at h
      subst h
      exact .inl (by simp)
    · by_cases h1 : k % 2 = 1
      · rw [T.get_odd _ _ h1] at h
        exact .inr (.inl ⟨k / 2, T.keys_of l _ _ h, by omega⟩)
      · rw [T.get_even _ _ h0 (by omega)] at h
        exact .inr (.inr ⟨k / 2 - 1, T.keys_of r _ _ h, by omega⟩)
theorem table_ok {α : Type} {t : T α} {l : List α} (n : Nat) (hn : l.length = n) (hk : (t.keys.all fun k => Nat.blt k n) = true) (he : (List.range n).map t.get = l.map some) (k : Nat) (a : α) (h : t.get k = some a) : l[k]? = some a := by
  have h1 := List.all_eq_true.1 hk k (T.keys_of t k a h)
  have h2 : k < n := Nat.le_of_ble_eq_true h1
  have h3 := congrArg (fun x => x[k]?) he
  simp only [List.getElem?_map, List.getElem?_range h2, Option.map_some, h] at h3
  cases e : l[k]? with
  | none => rw [e] at h3; cases h3
  | some b => rw [e] at h3; simpa using h3.symm
end Go.Cx
end
