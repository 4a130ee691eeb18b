/- The evaluator: the evaluator of drawn regions. No condition. -/
import Derived.Test.YtmnhfjhlfgebiaaCxQ
import Derived.OrdersIn
set_option linter.unusedVariables false
noncomputable section
namespace Go.Cx
open Go.RowKit
variable {T : Nat → Type}

/-! Which objects an operation of a drawn region may look at. -/
inductive Dom where
  | only (l : List Nat)
  | but (l : List Nat)
def Dom.has : Dom → Nat → Bool
  | .only l, x => memN x l
  | .but l, x => bif memN x l then false else true

def pickTr {α : Type} (t : Tr α) (l : List Nat) : Tr α :=
  List.rec (motive := fun _ => Tr α) .nil (fun x _ ih => Option.rec (motive := fun _ => Tr α) ih (fun o => ih.set x o) (t.get x)) l
theorem pickTr_nil {α : Type} {t : Tr α} : pickTr t [] = .nil := rfl
theorem pickTr_cons {α : Type} {t : Tr α} {x : Nat} {l : List Nat} : pickTr t (x :: l) = match t.get x with
    | some o => (pickTr t l).set x o
    | none => pickTr t l := by
  show Option.rec (motive := fun _ => Tr α) (pickTr t l) (fun o => (pickTr t l).set x o) (t.get x) = _
  cases t.get x <;> rfl
def dropTr {α : Type} (t : Tr α) : List Nat → Tr α
  | [] => t
  | x :: l => (dropTr t l).del x
def restr (hp : Hp T) : Dom → Hp T
  | .only l => ⟨hp.next, pickTr hp.objs l, []⟩
  | .but l => ⟨hp.next, dropTr hp.objs l, []⟩

structure Rc (T : Nat → Type) where
  dst : Option Nat
  v : AV T
  dom : Dom
  tr : Tr (AV T)
  r : Hp T
  hp : Hp T

def gkEq : AO T → AO T → Bool
  | .grow _ _ _ f, .grow _ _ _ g => Nat.beq f g
  | .grow .., _ => false
  | _, .grow .. => false
  | _, _ => true
def allN (p : Nat → Bool) (l : List Nat) : Bool := List.rec (motive := fun _ => Bool) true (fun x _ ih => Bool.rec (motive := fun _ => Bool) false ih (p x)) l
theorem allN_cons {p : Nat → Bool} {x : Nat} {l : List Nat} : allN p (x :: l) = bif p x then allN p l else false := by
  show Bool.rec (motive := fun _ => Bool) false (allN p l) (p x) = _
  cases p x <;> rfl
theorem allN_nil {p : Nat → Bool} : allN p [] = true := rfl
def isSm {α : Type} : Option α → Bool
  | some _ => true
  | none => false
def putOk (old new : Hp T) (id : Nat) : Bool :=
  match new.get id with
  | none => false
  | some o => bif (match old.get id with
      | none => true
      | some o0 => gkEq o0 o) then (match o with
      | .grow _ _ _ f => isSm (new.get f)
      | .fam hd sh => allN (fun m => isSm (new.get m)) (hd :: sh)
      | _ => true) else false

def usedAsGuard (i : Nat) : List Oper → Bool
  | [] => false
  | o :: os => match o.guard with
    | some (j, _) => bif Nat.beq j i then true else usedAsGuard i os
    | none => usedAsGuard i os

def topIds : AV T → List Nat
  | .ptr id _ => [id]
  | .sc id _ _ _ _ => [id]
  | .yld id => [id]
  | .ls id _ _ => [id]
  | .lp id _ _ _ => [id]
  | _ => []
def clos (hp : Hp T) (id : Nat) : List Nat :=
  match hp.get id with
  | some (.grow _ _ _ f) => id :: f :: (match hp.get f with
    | some (.fam hd sh) => hd :: sh
    | _ => [])
  | some (.fam hd sh) => id :: hd :: sh
  | _ => [id]
def hidLog (hp : Hp T) : List Nat → List Nat → List Nat
  | [], acc => acc
  | x :: l, acc => hidLog hp l (match hp.get x with
    | some (.grow _ _ _ f) => x :: f :: acc
    | _ => x :: acc)
def hidOf (hp : Hp T) (m : Nat) : List (Nat × Rc T) → List Nat
  | [] => []
  | (k, q) :: qs => bif Nat.testBit m k then hidOf hp m qs else hidLog hp q.hp.log (hidOf hp m qs)
def isCallV (o : Oper) : Bool :=
  match o.op with
  | .call c => (match c.callee with
    | .builtin _ => false
    | _ => true)
  | _ => false
def onlyOf (hp : Hp T) (tm : Tr (AV T)) : List Operand → List Nat
  | [] => []
  | x :: l => (topIds (ev tm x)).flatMap (clos hp) ++ onlyOf hp tm l
/-- Whether an operation looks at objects at all. -/
def looksO : Op → Bool
  | .load _ _ => true
  | .store _ _ _ => true
  | .call _ => true
  | _ => false
def domOf (m : Nat) (wr : List (Nat × Rc T)) (o : Oper) (st : St T) : Dom :=
  bif isCallV o then .but (hidOf st.hp m wr) else .only (bif looksO o.op then onlyOf st.hp st.tm o.op.operands.toList else [])
def famOk (hp r : Hp T) : Dom → Bool
  | .only l => allN (fun f => match r.get f with
    | some (.fam hd sh) => allN (fun m => isSm (r.get m)) (hd :: sh)
    | _ => true) l
  | .but l => allN (fun m => match hp.get m with
    | some (.grow _ _ _ f) => memN f l
    | some _ => true
    | none => false) l

section
variable (P : Program) (E : Enc T) (cl : Bool) (act : Tgt → List (AV T) → Hp T → Tree (AV T × Hp T))
def dop (ops : List Oper) (o : Oper) (tr : Tr (AV T)) (r : Hp T) : Tree (AV T × Hp T) :=
  match o.guard with
  | none => vop P E cl act tr r o
  | some (j, want) =>
    match (ops[j]?).bind (·.dst) with
    | none => .fail
    | some d =>
      match tmAt tr d with
      | .lit b => bif b == want then vop P E cl act tr r o else .leaf (.tup [], r)
      | .tup [] => .leaf (.tup [], r)
      | _ => .fail
def split1 (rv : AV T × Hp T) : Tree (AV T × Hp T) :=
  match rv.1 with
  | .bool b => .br b (.leaf (.lit true, rv.2)) (.leaf (.lit false, rv.2))
  | _ => .leaf rv
def dval (ops : List Oper) (i : Nat) (o : Oper) (tr : Tr (AV T)) (r : Hp T) : Tree (AV T × Hp T) :=
  bif usedAsGuard i ops then (dop P E cl act ops o tr r).bind split1 else dop P E cl act ops o tr r

def dstD (n : Nat) (o : Oper) : Option Nat := match o.dst with
  | some d => bif Nat.blt d n then some d else none
  | none => none
/-- One operation, on what it may look at. -/
def dstep (ops : Array Oper) (i m : Nat) (wr : List (Nat × Rc T)) (o : Oper) (st : St T) : Tree (Rc T) :=
  (pickTr st.tm (o.looksAt ops)).force fun tr =>
  (fun dom => (restr st.hp dom).force fun r =>
    bif famOk st.hp r dom then
      (dval P E cl act ops.toList i o tr r).bind fun rv => rv.2.force fun hp' => fv cl rv.1 fun v =>
        bif allN (putOk st.hp hp') hp'.log then .leaf ⟨dstD st.n o, v, dom, tr, r, hp'⟩ else .fail
    else .fail) (domOf m wr o st)

def mergeL (new : Hp T) : List Nat → Tr (AO T) → Tr (AO T)
  | [], t => t
  | x :: l, t => match new.get x with
    | some o => (mergeL new l t).set x o
    | none => mergeL new l t
def appR (q : Rc T) (st : St T) : St T :=
  ⟨st.n, (match q.dst with
    | some d => st.tm.set d q.v
    | none => st.tm), ⟨q.hp.next, (match q.dom with
    | .but [] => q.hp.objs
    | _ => mergeL q.hp q.hp.log st.hp.objs), q.hp.log ++ st.hp.log⟩⟩
def appT (q : Rc T) (st : St T) : Tree (St T) :=
  forceN st.n fun n => (appR q st).tm.force fun tm => (appR q st).hp.force fun hp => .leaf ⟨n, tm, hp⟩
theorem appT_eq (q : Rc T) (st : St T) : appT q st = .leaf (appR q st) := by
  unfold appT
  simp only [forceN_eq, Tr.force_eq, Hp.force_eq]
  rfl

def drun (ops : Array Oper) : Nat → List Nat → List (Nat × Rc T) → List Oper → St T → Tree (List (Rc T) × St T)
  | _, _, _, [], st => .leaf ([], st)
  | i, ms, wr, o :: os, st => (dstep P E cl act ops i (ms.headD 0) wr o st).bind fun q => (appT q st).bind fun st' =>
    (drun ops (i + 1) ms.tail (match q.hp.log with
      | [] => wr
      | _ => (i, q) :: wr) os st').bind fun r => .leaf (q :: r.1, r.2)
end

/-! What an order may not see. -/
def pairOk (q p : Rc T) : Bool :=
  bif allN (fun x => bif p.dom.has x then false else bif memN x p.hp.log then false else true) q.hp.log then
    allN (fun y => bif (bif Nat.ble q.r.next y then Nat.blt y p.hp.next else false) then true else bif q.dom.has y then false else true) p.hp.log else false

def maskOf (acc : List Nat) (o : Oper) : Nat := o.after.toList.foldl (fun m e => bif Region.binds .any e then Nat.lor m (Nat.lor (2 ^ e.on) (acc.getD e.on 0)) else m) 0
def masks : List Oper → List Nat → List Nat
  | [], acc => acc
  | o :: os, acc => masks os (acc ++ [maskOf acc o])

def edgesOk : Nat → List Oper → Bool
  | _, [] => true
  | i, o :: os => o.after.toList.all (fun e => !Region.binds .any e || Nat.blt e.on i) && edgesOk (i + 1) os

def apartOne (ops : Array Oper) (m : Nat) (q : Oper) : Nat → List Oper → Bool
  | _, [] => true
  | k, p :: ps => (Nat.testBit m k || p.apart ops q) && apartOne ops m q (k + 1) ps
def apartAll (ops : Array Oper) : List Oper → List Nat → List Oper → Bool
  | prev, m :: ms, q :: qs => apartOne ops m q 0 prev && apartAll ops (prev ++ [q]) ms qs
  | _, _, [] => true
  | _, [], _ :: _ => false
/-- What the text alone decides. -/
def textOk (ops : Array Oper) : Bool := edgesOk 0 ops.toList && apartAll ops [] (masks ops.toList []) ops.toList

def chkOne (m : Nat) (p : Rc T) : Nat → List (Rc T) → Bool
  | _, [] => true
  | k, q :: qs => bif (bif Nat.testBit m k then true else pairOk q p) then chkOne m p (k + 1) qs else false
def chkW (m : Nat) (p : Rc T) : List (Nat × Rc T) → Bool
  | [] => true
  | (k, q) :: qs => bif (bif Nat.testBit m k then true else pairOk q p) then chkW m p qs else false
def chkAll : Nat → List (Nat × Rc T) → List (Rc T) → List Nat → List (Rc T) → Bool
  | i, wr, prev, m :: ms, q :: qs => match q.hp.log with
    | [] => bif chkW m q wr then chkAll (i + 1) wr (prev ++ [q]) ms qs else false
    | _ => bif chkOne m q 0 prev then chkAll (i + 1) ((i, q) :: wr) (prev ++ [q]) ms qs else false
  | _, _, _, _, [] => true
  | _, _, _, [], _ :: _ => false

def drawT (P : Program) (E : Enc T) (cl : Bool) (act : Tgt → List (AV T) → Hp T → Tree (AV T × Hp T)) (ops : Array Oper) (st : St T) : Tree (St T) :=
  bif textOk ops then
    ((drun P E cl act ops 0 (masks ops.toList []) [] ops.toList st).deamb).bind fun r =>
      bif chkAll 0 [] [] (masks ops.toList []) r.1 then .leaf r.2 else .fail
  else .fail
end Go.Cx
