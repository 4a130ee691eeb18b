/- The evaluator: the evaluator of one operation. No condition. -/
import Derived.Test.YtmnhfjhlfgebiaaCxB
set_option linter.unusedVariables false
noncomputable section
namespace Go.Cx
open Go.RowKit
variable {T : Nat → Type}

/-! Values, at hand. -/
def fv1 {β : Type} (v : AV T) (k : AV T → β) : β := AV.rec (motive_1 := fun _ => β) (motive_2 := fun _ => Unit)
    (k .any)
    (fun kd n => forceI n fun n' => k (.int kd n'))
    (fun b => k (.lit b))
    (fun b => k (.bool b))
    (fun s => k (.str s))
    (k .nilp)
    (k .nilf)
    (k .nils)
    (k .emp)
    (k .es)
    (k .nili)
    (fun id off => forceN off fun o => k (.ptr id o))
    (fun cs _ih => k (.rp cs))
    (fun cs _ih => k (.agg cs))
    (fun cs _ih => k (.tup cs))
    (fun τ l full => k (.sl τ l full))
    (fun id sz off len cap => Option.rec (motive := fun _ => β) (forceN off fun o => forceN len fun l => k (.sc id sz o l none)) (fun c => forceN off fun o => forceN len fun l => forceN c fun c' => k (.sc id sz o l (some c'))) cap)
    (fun t c _ih => k (.ifc t c))
    (fun f caps _ih => k (.fn f caps))
    (fun f first caps _ih1 _ih2 => k (.mfn f first caps))
    (fun id => k (.yld id))
    (fun kd e => k (.sym kd e))
    (fun id τ len => k (.ls id τ len))
    (fun id τ i o => forceN o fun o' => k (.lp id τ i o'))
    () (fun _ _ _ _ => ()) v
def fvl {β : Type} : List (AV T) → (List (AV T) → β) → β
  | [], k => k []
  | c :: cs, k => fv1 c fun c' => fvl cs fun cs' => k (c' :: cs')
def fv2 {β : Type} (v : AV T) (k : AV T → β) : β := match v with
  | .agg cs => fvl cs fun cs' => k (.agg cs')
  | v => fv1 v k
def fvl2 {β : Type} : List (AV T) → (List (AV T) → β) → β
  | [], k => k []
  | c :: cs, k => fv2 c fun c' => fvl2 cs fun cs' => k (c' :: cs')
def fv {β : Type} (cl : Bool) (v : AV T) (k : AV T → β) : β := bif cl then (match v with
  | .tup cs => fvl2 cs fun cs' => k (.tup cs')
  | .fn f cs => fvl2 cs fun cs' => k (.fn f cs')
  | .mfn f as cs => fvl2 as fun as' => fvl2 cs fun cs' => k (.mfn f as' cs')
  | .ifc t c => fv2 c fun c' => k (.ifc t c')
  | v => fv2 v k) else k v

theorem fv1_eq {β : Type} (v : AV T) (k : AV T → β) : fv1 v k = k v := by
  cases v with
  | int kd n => exact forceI_eq n fun n' => k (.int kd n')
  | ptr id off => exact forceN_eq off fun o => k (.ptr id o)
  | lp id τ i o => exact forceN_eq o fun o' => k (.lp id τ i o')
  | sc id sz off len cap =>
    cases cap with
    | none => show (forceN off fun o => forceN len fun l => k (.sc id sz o l none)) = _; rw [forceN_eq, forceN_eq]
    | some c => show (forceN off fun o => forceN len fun l => forceN c fun c' => k (.sc id sz o l (some c'))) = _; rw [forceN_eq, forceN_eq, forceN_eq]
  | _ => rfl
theorem fvl_eq {β : Type} : ∀ (l : List (AV T)) (k : List (AV T) → β), fvl l k = k l
  | [], _ => rfl
  | c :: cs, k => by simp only [fvl, fv1_eq, fvl_eq cs]
theorem fv2_eq {β : Type} (v : AV T) (k : AV T → β) : fv2 v k = k v := by
  unfold fv2
  split
  · simp only [fvl_eq]
  · simp only [fv1_eq]
theorem fvl2_eq {β : Type} : ∀ (l : List (AV T)) (k : List (AV T) → β), fvl2 l k = k l
  | [], _ => rfl
  | c :: cs, k => by simp only [fvl2, fv2_eq, fvl2_eq cs]
theorem fv_eq {β : Type} (cl : Bool) (v : AV T) (k : AV T → β) : fv cl v k = k v := by
  unfold fv
  cases cl with
  | false => rfl
  | true =>
    simp only [cond_true]
    split <;> simp only [fvl2_eq, fv2_eq]

def absV1 : Value → AV T
  | .int k n => .int k n
  | .bool b => .lit b
  | .string s => .str s
  | .slice none 0 0 => .nils
  | .pointer none => .nilp
  | .nilFunc => .nilf
  | .nilIface => .nili
  | _ => .any
def absV : Value → AV T
  | .agg cs => .agg (cs.toList.map absV1)
  | v => absV1 v

def ev (tm : Tr (AV T)) : Operand → AV T
  | .tmp t => tmAt tm t
  | .const v => absV v
  | .global _ => .any
  | .func f => .fn f []

def isAggT (P : Program) (t : TypeId) : Bool :=
  match P.underlying t with
  | some (.struct _) => true
  | some (.array _ _) => true
  | _ => false

def asB : AV T → Option Bool
  | .lit b => some b
  | .bool b => some b
  | _ => none

def asN : AV T → Option (IntKind × Int)
  | .int k n => some (k, n)
  | .sym k n => some (k, n)
  | _ => none

/-! Values that are left open. -/
def isOp1 : AV T → Bool
  | .sym _ _ => true
  | .bool _ => true
  | _ => false
def isOpen : AV T → Bool
  | .agg cs => cs.any isOp1
  | v => isOp1 v
def deI1 : AV T → AV T
  | .sym k n => .int k n
  | v => v
def deI : AV T → AV T
  | .agg cs => .agg (cs.map deI1)
  | v => deI1 v
def opn : AV T → AV T
  | .int k n => .sym k n
  | .lit b => .bool b
  | v => v
def opnT (t : Tree (AV T)) : Tree (AV T) := t.bind fun v => .leaf (opn v)
def pickGo {α : Type} (i : Int) (k : Nat → Tree α) : Nat → Nat → Tree α
  | 0, _ => .fail
  | 1, j => k j
  | r + 2, j => .br (decide (i = (j : Int))) (k j) (pickGo i k (r + 1) (j + 1))
/-- One of so many, by an open number. -/
def pickIx {α : Type} (n : Nat) (i : Int) (k : Nat → Tree α) : Tree α := .req ((decide (0 ≤ i) && decide (i < (n : Int))) = true) (pickGo i k n 0)
def isSl : AV T → Bool
  | .sl _ _ _ => true
  | _ => false
def isLs : AV T → Bool
  | .ls _ _ _ => true
  | _ => false

/-- What a slice that never changes reads as. -/
def asL (τ : Nat) : AV T → Option (List (T τ))
  | .nils => some []
  | .emp => some []
  | .sl τ' l _ => if h : τ' = τ then some (h ▸ l) else none
  | _ => none

/-! ### Cells that are told as an element -/
def flt1 : AV T → Bool
  | .int _ _ => true
  | .sym _ _ => true
  | .lit _ => true
  | .bool _ => true
  | .str _ => true
  | .nilp => true
  | .nils => true
  | .emp => true
  | .es => true
  | .nilf => true
  | .nili => true
  | .sl _ _ _ => true
  | .any => true
  | _ => false
/-- What a cell that was written may be told as. -/
def CellTo (fz : (σ : Nat) → AV T → Option (List (T σ))) (c c' : AV T) : Prop := (opn c = c' ∧ flt1 c' = true) ∨ ∃ σ l, c' = .sl σ l false ∧ fz σ c = some l
def AllTo (fz : (σ : Nat) → AV T → Option (List (T σ))) : List (AV T) → List (AV T) → Prop
  | [], [] => True
  | c :: cs, d :: ds => CellTo fz c d ∧ AllTo fz cs ds
  | _, _ => False
def mapO {α β : Type} (f : α → Option β) : List α → Option (List β)
  | [] => some []
  | x :: l => match f x, mapO f l with
    | some y, some r => some (y :: r)
    | _, _ => none
def iotaFrom : Nat → Nat → List Nat
  | 0, _ => []
  | n + 1, i => i :: iotaFrom n (i + 1)
structure Enc.Good (P : Program) (E : Enc T) : Prop where
  len : ∀ τ, E.ok τ = true → ∀ x, (E.enc τ x).length = P.cellsOf τ
  pos : ∀ τ, E.ok τ = true → 0 < P.cellsOf τ
  cell : ∀ τ, E.ok τ = true → ∀ x, (E.enc τ x).all isCell = true
  eqt : ∀ t, E.eqt t = true → P.eqGuardType P.depth t = false ∧ P.stoodInHeld t = false
  dec : ∀ τ fz cs x, E.ok τ = true → E.dec τ fz cs = some x → AllTo fz cs (E.enc τ x)

def lenA : AV T → Option Nat
  | .nils => some 0
  | .emp => some 0
  | .es => some 0
  | .sl _ l _ => some l.length
  | .sc _ _ _ len _ => some len
  | .ls _ _ len => some len
  | .str s => some s.size
  | _ => none

def lenTyOk (P : Program) (t : TypeId) (x : AV T) : Bool :=
  match P.underlying t, x with
  | some (.slice _), .str _ => false
  | some (.slice _), _ => true
  | some .string, .str _ => true
  | _, _ => false

def cellsA : AV T → Option (List (AV T))
  | .agg cs => some cs
  | .any => none
  | v => some [v]

def fieldOf (P : Program) (t : TypeId) (f : Nat) : Option Field :=
  match P.underlying t with
  | some (.struct fields) => fields[f]?
  | _ => none

def mkB (cl b : Bool) : AV T := bif cl then (bif b then .lit true else .lit false) else .bool b

/-- An element of a list, by an open index. -/
def ixD (E : Enc T) (τ : Nat) (l : List (T τ)) (i : Int) : T τ := (l[i.toNat]?).getD (E.d τ)

section
variable (P : Program) (E : Enc T) (cl : Bool)

/-- Cells one behind the other. -/
def rdN (c : Tr (AV T)) (d : AV T) : Nat → Nat → List (AV T)
  | 0, _ => []
  | k + 1, off => cellAt c d off :: rdN c d k (off + 1)

/-- A variable of the type t, out of a list of cells. -/
def rdL (t : TypeId) (cs : List (AV T)) : Tree (AV T) :=
  bif (P.underlying t).isNone then .fail else bif isAggT P t then (bif Nat.ble (P.cellsOf t) cs.length then .leaf (.agg (cs.take (P.cellsOf t))) else .fail)
  else match cs with
    | c :: _ => .leaf c
    | [] => .fail

/-- The same out of an object. -/
def rdO (t : TypeId) (n : Nat) (c : Tr (AV T)) (d : AV T) (off : Nat) : Tree (AV T) :=
  bif (P.underlying t).isNone then .fail else bif isAggT P t then (bif Nat.ble (off + P.cellsOf t) n then .leaf (.agg (rdN c d (P.cellsOf t) off)) else .fail)
  else (bif Nat.blt off n then .leaf (cellAt c d off) else .fail)

/-- An object whose cells may be read. -/
def look (hp : Hp T) (id : Nat) : Option (Nat × Tr (AV T) × AV T) :=
  match hp.get id with
  | some (.cells n c d) => some (n, c, d)
  | some (.grow n c d f) =>
    match hp.get f with
    | some (.fam h sh) => bif Nat.beq id h || memN id sh then some (n, c, d) else none
    | _ => none
  | _ => none

def popLoad (hp : Hp T) (t : TypeId) : AV T → Tree (AV T)
  | .rp cs => rdL P t cs
  | .ptr id off =>
    match look hp id with
    | some (n, c, d) => rdO P t n c d off
    | none => .fail
  | _ => .fail

def popFieldAddr (s : TypeId) (f : Nat) (x : AV T) : Tree (AV T) :=
  match fieldOf P s f with
  | none => .fail
  | some fd =>
    bif Nat.beq (P.cellsOf fd.type) 0 then .fail else
    match x with
    | .ptr id off => .leaf (.ptr id (off + fd.offset))
    | .rp cs => .leaf (.rp (cs.drop fd.offset))
    | _ => .fail

def popField (t : TypeId) (f : Nat) : AV T → Tree (AV T)
  | .agg cs =>
    match fieldOf P t f with
    | none => .fail
    | some fd => rdL P fd.type (cs.drop fd.offset)
  | _ => .fail

def popIndexAddr (t : TypeId) (x : AV T) (ix : AV T) : Tree (AV T) :=
  match P.underlying t, ix with
  | some (.slice τ), .int _ i =>
    match x with
    | .sc id sz off len _ => bif Nat.beq sz (P.cellsOf τ) && Nat.ble 1 sz then Tree.chk cl (decide (0 ≤ i) && decide (i < (len : Int))) (.leaf (.ptr id (off + i.toNat * sz))) else .fail
    | x =>
      match asL τ x with
      | some l => Tree.chk cl (decide (0 ≤ i) && decide (i < (l.length : Int))) (.leaf (.rp (E.enc τ (ixD E τ l i))))
      | none => .fail
  | some (.array n τ), .int _ i =>
    bif Nat.ble 1 (P.cellsOf τ) then
      Tree.chk cl (decide (0 ≤ i) && decide (i < (n : Int)))
        (match x with
        | .ptr id off => .leaf (.ptr id (off + i.toNat * P.cellsOf τ))
        | .rp cs => .leaf (.rp (cs.drop (i.toNat * P.cellsOf τ)))
        | _ => .fail)
    else .fail
  | _, _ => .fail

def popIndex (t : TypeId) (x ix : AV T) : Tree (AV T) :=
  match P.underlying t with
  | some (.array n τ) =>
    match x, ix with
    | .agg cs, .int _ i => Tree.chk cl (decide (0 ≤ i) && decide (i < (n : Int))) (rdL P τ (cs.drop (i.toNat * P.cellsOf τ)))
    | _, _ => .fail
  | some .string =>
    match x, ix with
    | .str s, .int _ i => match s[i.toNat]? with
      | some b => Tree.chk cl (decide (0 ≤ i)) (.leaf (.int .u8 b.toNat))
      | none => .fail
    | _, _ => .fail
  | _ => .fail

def arith (cc : Bool) (op : BinOp) (k : IntKind) (a b : Int) : Tree (AV T) :=
  match op with
  | .add => .leaf (.int k (k.wrap (a + b)))
  | .sub => .leaf (.int k (k.wrap (a - b)))
  | .mul => .leaf (.int k (k.wrap (a * b)))
  | .quo => Tree.chk cc (decide (b ≠ 0)) (.leaf (.int k (k.wrap (a.tdiv b))))
  | .rem => Tree.chk cc (decide (b ≠ 0)) (.leaf (.int k (a.tmod b)))
  | .and => .leaf (.int k (k.wrap (BitVec.ofInt k.bits a &&& BitVec.ofInt k.bits b).toNat))
  | .or => .leaf (.int k (k.wrap (BitVec.ofInt k.bits a ||| BitVec.ofInt k.bits b).toNat))
  | .xor => .leaf (.int k (k.wrap (BitVec.ofInt k.bits a ^^^ BitVec.ofInt k.bits b).toNat))
  | .andNot => .leaf (.int k (k.wrap (BitVec.ofInt k.bits a &&& ~~~(BitVec.ofInt k.bits b)).toNat))
  | .eql => .leaf (mkB cl (a == b))
  | .neq => .leaf (mkB cl (a != b))
  | .lss => .leaf (mkB cl (decide (a < b)))
  | .leq => .leaf (mkB cl (decide (a ≤ b)))
  | .gtr => .leaf (mkB cl (decide (a > b)))
  | .geq => .leaf (mkB cl (decide (a ≥ b)))
  | _ => .fail

def partA (t : TypeId) (cs : List (AV T)) (off : Nat) : Option (AV T) :=
  bif isAggT P t then some (.agg ((cs.drop off).take (P.cellsOf t))) else cs[off]?

def eqFields (go : TypeId → AV T → AV T → Option Bool) (xs ys : List (AV T)) : List Field → Option Bool
  | [] => some true
  | f :: fs =>
    match partA P f.type xs f.offset, partA P f.type ys f.offset with
    | some x, some y =>
      match go f.type x y, eqFields go xs ys fs with
      | some a, some b => (bif f.name != "_" then some (a && b) else none)
      | _, _ => none
    | _, _ => none

def eqv : Nat → TypeId → AV T → AV T → Option Bool
  | 0, _, _, _ => none
  | d + 1, t, x, y =>
    match P.underlying t with
    | some .bool => match asB x, asB y with | some a, some b => some (a == b) | _, _ => none
    | some (.int _) => match x, y with | .int k a, .int k' b => (bif decide (k = k') then some (a == b) else none) | _, _ => none
    | some .string => match x, y with | .str a, .str b => some (a.toList == b.toList) | _, _ => none
    | some (.slice _) => match x, y with | .nils, .nils => some true | .sc .., .nils => some false | .nils, .sc .. => some false | _, _ => none
    | some (.func _ _ _) => match x, y with | .nilf, .nilf => some true | .nilf, .fn .. => some false | .fn .., .nilf => some false | .nilf, .mfn .. => some false | .mfn .., .nilf => some false | _, _ => none
    | some (.struct fields) => match x, y with | .agg xs, .agg ys => (bif E.eqt t then eqFields P (eqv d) xs ys fields.toList else none) | _, _ => none
    | _ => none

def shiftA (op : BinOp) (k : IntKind) (a : Int) (b : Int) : Tree (AV T) :=
  match op with
  | .shl => Tree.chk cl (decide (0 ≤ b)) (.leaf (.int k (k.wrap (a * 2 ^ (min b.toNat k.bits)))))
  | .shr => Tree.chk cl (decide (0 ≤ b)) (.leaf (.int k (a.fdiv (2 ^ (min b.toNat k.bits)))))
  | _ => .fail

def isShift : BinOp → Bool
  | .shl => true
  | .shr => true
  | _ => false

/-- Whether a list that never changes is nil: only an empty one can be. -/
def nilT (t : TypeId) (x y : AV T) (pos : Bool) : Tree (AV T) :=
  match P.underlying t with
  | some (.slice _) => match y with
    | .nils => match x with
      | .sl _ l _ => .br l.isEmpty (.amb (.leaf (mkB cl pos)) (.leaf (mkB cl (!pos)))) (.leaf (mkB cl (!pos)))
      | _ => .fail
    | _ => .fail
  | _ => .fail

def popBin (cc : Bool) (op : BinOp) (t : TypeId) (x y : AV T) : Tree (AV T) :=
  match x, y with
  | .int k a, .int k' b => bif isShift op then shiftA cc op k a b else (bif decide (k = k') then arith cl cc op k a b else .fail)
  | x, y =>
    match op with
    | .eql => match eqv P E 8 t x y with | some b => .leaf (mkB cl b) | none => nilT P cl t x y true
    | .neq => match eqv P E 8 t x y with | some b => .leaf (mkB cl (!b)) | none => nilT P cl t x y false
    | _ => .fail

def popUn (op : UnOp) (x : AV T) : Tree (AV T) :=
  match op, x with
  | .not, .lit b => .leaf (mkB true (!b))
  | .not, .bool b => .leaf (.bool (!b))
  | .neg, .int k n => .leaf (.int k (k.wrap (0 - n)))
  | .neg, .sym k n => .leaf (.sym k (k.wrap (0 - n)))
  | _, _ => .fail

def popConvert (src dst : TypeId) (x : AV T) : Tree (AV T) :=
  bif (P.underlying src).isNone then .fail else
  match P.underlying dst, x with
  | some (.int k), .int _ n => .leaf (.int k (k.wrap n))
  | some (.int k), .sym _ n => .leaf (.sym k (k.wrap n))
  | _, _ => .fail

def popNil : AV T → Tree (AV T)
  | .ptr id off => .leaf (.ptr id off)
  | .rp cs => .leaf (.rp cs)
  | .fn f cs => .leaf (.fn f cs)
  | .mfn f as cs => .leaf (.mfn f as cs)
  | .ifc t c => .leaf (.ifc t c)
  | .yld id => .leaf (.yld id)
  | _ => .fail

def popPick (c a b : AV T) : Tree (AV T) :=
  match c with
  | .lit true => .leaf a
  | .lit false => .leaf b
  | .bool c =>
    match asB a, asB b with
    | some x, some y => .leaf (.bool (bif c then x else y))
    | _, _ => match asN a, asN b with
      | some (k, x), some (k', y) => bif decide (k = k') then .leaf (.sym k (bif c then x else y)) else .br c (.leaf a) (.leaf b)
      | _, _ => .br c (.leaf a) (.leaf b)
  | _ => .fail

def zeroA (t : TypeId) : Option (List (AV T)) :=
  match P.info? t with
  | some i => match i.zero with
    | some z => some (z.cells.toList.map absV1)
    | none => none
  | none => none

def fillA (place : Nat → Option (Nat × Nat)) : List (AV T) → List (Nat × AV T) → Option (List (AV T))
  | cs, [] => some cs
  | cs, (i, v) :: rest =>
    match place i, cellsA v with
    | some (off, size), some vc => bif Nat.beq vc.length size && Nat.ble (off + vc.length) cs.length then fillA place (cs.take off ++ vc ++ cs.drop (off + vc.length)) rest else none
    | _, _ => none

def placeA (t : TypeId) (i : Nat) : Option (Nat × Nat) :=
  match P.underlying t with
  | some (.struct fields) => match fields[i]? with
    | some f => some (f.offset, P.cellsOf f.type)
    | none => none
  | some (.array _ e) => some (i * P.cellsOf e, P.cellsOf e)
  | _ => none

/-- The parts of a type are types. -/
def partsOk (t : TypeId) : Bool :=
  match P.underlying t with
  | some (.struct fs) => fs.toList.all fun f => (P.info? f.type).isSome
  | some (.array _ e) => (P.info? e).isSome
  | _ => false

def popBuild (t : TypeId) (parts : List (Nat × AV T)) : Tree (AV T) :=
  bif isAggT P t && partsOk P t then
    match zeroA P t with
    | none => .fail
    | some z => match fillA (placeA P t) z parts with
      | some cs => .leaf (.agg cs)
      | none => .fail
  else .fail

/-! Interfaces. -/
def isIfT (t : TypeId) : Bool :=
  match P.underlying t with
  | some (.interface _) => true
  | none => true
  | _ => false
def isPtT (t : TypeId) : Bool :=
  match P.underlying t with
  | some (.pointer _) => true
  | _ => false
def popMakeI (t : TypeId) (x : AV T) : Tree (AV T) := bif isIfT P t then .fail else .leaf (.ifc t x)
def zeroVal (t : TypeId) : Option (AV T) :=
  match P.info? t with
  | some i => match i.zero with
    | some z => some (absV z)
    | none => none
  | none => none
def popAssert (asserted : TypeId) (commaOk : Bool) (x : AV T) : Tree (AV T) :=
  bif isIfT P asserted then .fail else
  match x with
  | .ifc t v => bif Nat.beq t asserted then (bif commaOk then .leaf (.tup [v, .lit true]) else .leaf v) else
      bif commaOk then (match zeroVal P asserted with
        | some z => .leaf (.tup [z, .lit false])
        | none => .fail) else .fail
  | .nili => bif commaOk then (match zeroVal P asserted with
        | some z => .leaf (.tup [z, .lit false])
        | none => .fail) else .fail
  | _ => .fail
/-- The function that is the method of a type, where no field is on the way. -/
def methodA (t : TypeId) (name : String) : Option Nat :=
  match P.info? t with
  | some ti => match ti.methods.find? (fun m => m.name == name) with
    | some m => match m.path.toList, m.func with
      | [], some (f, pr) => bif (P.underlying t).isSome && (pr == isPtT P t) then some f else none
      | _, _ => none
    | none => none
  | none => none

def popExtract (i : Nat) : AV T → Tree (AV T)
  | .tup vs => .ofOption vs[i]?
  | _ => .fail

/-- The bounds of a part of a slice: low, high, the greatest. -/
def bnd (d : Nat) : Option (AV T) → Option Int
  | none => some d
  | some (.int _ i) => some i
  | some _ => none

def capLe : Option Nat → Nat → Bool
  | none, _ => true
  | some c, n => Nat.ble n c

def popSlice (_ : Hp T) (t : TypeId) (x : AV T) (lo hi mx : Option (AV T)) : Tree (AV T) :=
  match P.underlying t with
  | some (.slice τ) =>
    bif (P.info? τ).isNone then .fail else
    match x with
    | .sc id sz off len cap =>
      bif Nat.beq sz (P.cellsOf τ) && Nat.ble 1 sz then
        match bnd 0 lo, bnd len hi with
        | some l, some h =>
          match mx with
          | none =>
            match cap with
            | some c => Tree.chk cl (decide (0 ≤ l) && decide (l ≤ h) && decide (h ≤ (c : Int))) (.leaf (.sc id sz (off + (bif Nat.beq c l.toNat then 0 else l.toNat * sz)) (h.toNat - l.toNat) (some (c - l.toNat))))
            | none =>
              Tree.chk cl (decide (0 ≤ l) && decide (l ≤ h) && decide (h ≤ (len : Int)))
                (Tree.ite' cl (decide (l < h)) (.leaf (.sc id sz (off + l.toNat * sz) (h.toNat - l.toNat) none))
                  (Tree.ite' cl (decide (l = 0)) (.leaf (.sc id sz off 0 none)) (.leaf .es)))
          | some (.int _ m) =>
            bif hi.isNone then .fail else
            Tree.chk cl (decide (0 ≤ l) && decide (l ≤ h) && decide (h ≤ m) && decide (m ≤ (match cap with | some c => (c : Int) | none => (len : Int)))) (.leaf (.sc id sz (off + (bif Nat.beq m.toNat l.toNat then 0 else l.toNat * sz)) (h.toNat - l.toNat) (some (m.toNat - l.toNat))))
          | some _ => .fail
        | _, _ => .fail
      else .fail
    | .nils =>
      match bnd 0 lo, bnd 0 hi, bnd 0 mx with
      | some l, some h, some m => bif mx.isSome && hi.isNone then .fail else Tree.chk cl (decide (l = 0) && decide (h = 0) && decide (m = 0)) (.leaf .nils)
      | _, _, _ => .fail
    | x =>
      match asL τ x with
      | some l =>
        match lo, hi, mx with
        | none, some (.int _ b), none => Tree.chk cl (decide (0 ≤ b) && decide (b ≤ (l.length : Int))) (.leaf (.sl τ (l.take b.toNat) false))
        | some (.int _ a), none, none => Tree.chk cl (decide (0 ≤ a) && decide (a ≤ (l.length : Int))) (.leaf (.sl τ (l.drop a.toNat) false))
        | some (.int _ a), some (.int _ b), none => Tree.chk cl (decide (0 ≤ a) && decide (a ≤ b) && decide (b ≤ (l.length : Int))) (.leaf (.sl τ ((l.take b.toNat).drop a.toNat) false))
        | none, none, none => .leaf (.sl τ l false)
        | none, some (.int _ b), some (.int _ m) => Tree.chk cl (decide (b = m) && decide (0 ≤ b) && decide (b ≤ (l.length : Int))) (.leaf (.sl τ (l.take b.toNat) true))
        | _, _, _ => .fail
      | none => .fail
  | some (.array n τ) =>
    bif (P.info? τ).isNone || Nat.beq (P.cellsOf τ) 0 then .fail else
    match x, bnd 0 lo, bnd n hi, mx with
    | .ptr id off, some l, some h, none => Tree.chk cl (decide (0 ≤ l) && decide (l ≤ h) && decide (h ≤ (n : Int))) (.leaf (.sc id (P.cellsOf τ) (off + (bif Nat.beq n l.toNat then 0 else l.toNat * P.cellsOf τ)) (h.toNat - l.toNat) (some (n - l.toNat))))
    | _, _, _, _ => .fail
  | _ => .fail

def minMax (mx : Bool) : List (AV T) → Option (AV T)
  | [.int k a, .int k' b] => bif decide (k = k') then some (.int k (bif mx then (if b > a then b else a) else (if b < a then b else a))) else none
  | _ => none

/-! ### The same, where something is left open -/
def popBinO (op : BinOp) (t : TypeId) (x y : AV T) : Tree (AV T) :=
  bif isOpen x || isOpen y then opnT (popBin P E false (!isOpen y) op t (deI x) (deI y)) else popBin P E cl cl op t x y
/-- Lists of objects. -/
def atLs (id τ len : Nat) (t : TypeId) (i : Int) : Tree (AV T) :=
  match P.underlying t with
  | some (.slice τ') => bif Nat.beq τ τ' && Nat.ble 1 (P.cellsOf τ) then .req ((decide (0 ≤ i) && decide (i < (len : Int))) = true) (.leaf (.lp id τ i 0)) else .fail
  | _ => .fail
def popLoadO (hp : Hp T) (t : TypeId) (x : AV T) : Tree (AV T) :=
  match x with
  | .lp id τ i k =>
    match hp.get id with
    | some (.lst τ' l) => bif Nat.beq τ' τ then .req ((decide (0 ≤ i) && decide (i < (l.length : Int))) = true) (rdL P t ((E.enc τ' (ixD E τ' l i)).drop k)) else .fail
    | _ => .fail
  | _ => popLoad P hp t x
def popFieldAddrO (s : TypeId) (f : Nat) (x : AV T) : Tree (AV T) :=
  match x with
  | .lp id τ i k =>
    match fieldOf P s f with
    | none => .fail
    | some fd => bif Nat.beq (P.cellsOf fd.type) 0 then .fail else .leaf (.lp id τ i (k + fd.offset))
  | _ => popFieldAddr P s f x
def popIndexAddrO (t : TypeId) (x ix : AV T) : Tree (AV T) :=
  match x with
  | .ls id τ len => match asN ix with
    | some (_, i) => atLs P id τ len t i
    | none => .fail
  | _ =>
  match ix with
  | .sym k i =>
    match x with
    | .sl _ _ _ => popIndexAddr P E false t x (.int k i)
    | .sc _ _ _ len _ => pickIx len i fun j => popIndexAddr P E cl t x (.int k (j : Int))
    | _ => match P.underlying t with
      | some (.array n _) => pickIx n i fun j => popIndexAddr P E cl t x (.int k (j : Int))
      | _ => .fail
  | _ => popIndexAddr P E (bif isSl x then false else cl) t x ix
def popIndexO (t : TypeId) (x ix : AV T) : Tree (AV T) :=
  match ix with
  | .sym k i =>
    match P.underlying t with
    | some (.array n _) => pickIx n i fun j => popIndex P cl t x (.int k (j : Int))
    | _ => .fail
  | _ => popIndex P cl t x ix
def popSliceO (hp : Hp T) (t : TypeId) (x : AV T) (lo hi mx : Option (AV T)) : Tree (AV T) :=
  bif isSl x then popSlice P false hp t x (lo.map deI) (hi.map deI) (mx.map deI) else popSlice P cl hp t x lo hi mx
def minMaxO (mx : Bool) (l : List (AV T)) : Option (AV T) :=
  bif l.any isOp1 then (minMax mx (l.map deI1)).map opn else minMax mx l

/-! ### Operations that change objects -/
def wrL : List (AV T) → Nat → Tr (AV T) → Tr (AV T)
  | [], _, c => c
  | v :: vs, off, c => fv1 v fun v' => (c.set off v').force fun c' => wrL vs (off + 1) c'

/-- Cells are written. -/
def wrObj (hp : Hp T) (id off : Nat) (vs : List (AV T)) : Tree (Hp T) :=
  bif vs.all isCell then
    match hp.get id with
    | some (.cells n c d) => bif Nat.ble (off + vs.length) n then .leaf (hp.put id (.cells n (wrL vs off c) d)) else .fail
    | some (.grow n c d f) =>
      match hp.get f with
      | some (.fam h _) => bif Nat.beq id h && Nat.ble (off + vs.length) n then .leaf ((hp.put id (.grow n (wrL vs off c) d f)).put f (.fam h [])) else .fail
      | _ => .fail
    | _ => .fail
  else .fail

def ofL (cs : List (AV T)) : Tr (AV T) := wrL cs 0 .nil

/-- Simple cells that are the same. -/
def sameC : AV T → AV T → Bool
  | .int k n, .int k' n' => decide (k = k') && decide (n = n')
  | .lit a, .lit b => a == b
  | .nilp, .nilp => true
  | .nilf, .nilf => true
  | .nils, .nils => true
  | .nili, .nili => true
  | _, _ => false

/-- An object that is made of these cells. -/
def objOf (cs : List (AV T)) : AO T :=
  match cs with
  | [] => .cells 0 .nil .any
  | z :: zs => bif zs.all (sameC z) then .cells (zs.length + 1) .nil z else .cells (zs.length + 1) (ofL (z :: zs)) .any

def iopBox (hp : Hp T) (v : AV T) : Tree (AV T × Hp T) :=
  match cellsA v with
  | some cs => .leaf (.ptr hp.next 0, hp.new (.cells cs.length (ofL cs) .any))
  | none => .fail

def iopAlloc (hp : Hp T) (t : TypeId) : Tree (AV T × Hp T) :=
  match zeroA P t with
  | some cs => .leaf (.ptr hp.next 0, hp.new (objOf cs))
  | none => .fail

def iopStore (hp : Hp T) (t : TypeId) (a v : AV T) : Tree (AV T × Hp T) :=
  match a, cellsA v with
  | .ptr id off, some vc => bif Nat.beq vc.length (P.cellsOf t) && Nat.ble 1 (P.cellsOf t) then (wrObj hp id off vc).bind fun hp' => .leaf (.any, hp') else .fail
  | _, _ => .fail

def cap30 : Nat := 2 ^ 30

/-- n times the same cells. -/
def repC (n : Nat) (z : List (AV T)) : AO T :=
  match z with
  | [] => .cells 0 .nil .any
  | z0 :: zs => bif zs.all (sameC z0) then .cells (n * (zs.length + 1)) .nil z0 else .cells (n * (zs.length + 1)) (ofL (List.replicate n (z0 :: zs)).flatten) .any

def iopMake (hp : Hp T) (t : TypeId) (n c : AV T) : Tree (AV T × Hp T) :=
  match P.underlying t, n, c with
  | some (.slice τ), .int _ n, .int _ c =>
    match zeroA P τ with
    | some z => bif Nat.beq z.length (P.cellsOf τ) && Nat.ble 1 z.length && Nat.ble (P.bytesOf τ) 65536 then
        Tree.chk cl (decide (0 ≤ n) && decide (n ≤ c) && decide (c ≤ (cap30 : Int))) (.leaf (.sc hp.next (P.cellsOf τ) 0 n.toNat (some c.toNat), hp.new (repC c.toNat z))) else .fail
    | none => .fail
  | _, _, _ => .fail

def iopBuildSlice (hp : Hp T) (t : TypeId) (n : Nat) (parts : List (Nat × AV T)) : Tree (AV T × Hp T) :=
  match P.underlying t with
  | some (.slice τ) =>
    match zeroA P τ with
    | some z =>
      bif Nat.beq z.length (P.cellsOf τ) && Nat.ble 1 z.length && Nat.ble (n * P.cellsOf τ) (2 ^ 20) then
        match fillA (fun i => some (i * P.cellsOf τ, P.cellsOf τ)) (List.replicate n z).flatten parts with
        | some cs => .leaf (.sc hp.next (P.cellsOf τ) 0 n (some n), hp.new (.cells (n * P.cellsOf τ) (ofL cs) .any))
        | none => .fail
      else .fail
    | none => .fail
  | _ => .fail

/-- The cells of the elements of a slice. -/
def srcCells (hp : Hp T) (τ : Nat) : AV T → Option (List (AV T))
  | .nils => some []
  | .emp => some []
  | .es => some []
  | .sc id sz off len _ =>
    bif Nat.beq len 0 then some [] else
    match look hp id with
    | some (n, c, d) => bif Nat.beq sz (P.cellsOf τ) && Nat.ble (off + len * sz) n then some (rdN c d (len * sz) off) else none
    | none => none
  | _ => none

/-- A new row that can grow, of a family of its own. -/
def newGrow (hp : Hp T) (sz : Nat) (cs : List (AV T)) (len : Nat) : Tree (AV T × Hp T) :=
  let hp1 := hp.new (.fam (hp.next + 1) [])
  .leaf (.sc (hp.next + 1) sz 0 len none, hp1.new (.grow (len * sz) (ofL cs) .any hp.next))

/-- A row that has grown. -/
def growC (c : Tr (AV T)) (d : AV T) (off k : Nat) (xs : List (AV T)) : Tr (AV T) := bif Nat.beq off 0 then wrL xs k c else ofL (rdN c d k off ++ xs)
def growD (d : AV T) (off : Nat) : AV T := bif Nat.beq off 0 then d else .any

def iopAppend (hp : Hp T) (tys : List TypeId) (s x : AV T) : Tree (AV T × Hp T) :=
  match tys with
  | [t, tx] =>
    match P.underlying t with
    | some (.slice τ) =>
      bif Nat.beq t tx && Nat.ble 1 (P.cellsOf τ) && Nat.ble (P.bytesOf τ) 65536 && (match zeroA (T := T) P τ with | some z => Nat.beq z.length (P.cellsOf τ) | none => false) then
        match srcCells P hp τ x with
        | none => .fail
        | some xs =>
          bif xs.all isCell then
            match s with
            | .nils => match xs with
              | [] => .leaf (.nils, hp)
              | _ => bif Nat.ble xs.length cap30 then newGrow hp (P.cellsOf τ) xs (xs.length / P.cellsOf τ) else .fail
            | .emp => match xs with
              | [] => .leaf (.emp, hp)
              | _ => bif Nat.ble xs.length cap30 then newGrow hp (P.cellsOf τ) xs (xs.length / P.cellsOf τ) else .fail
            | .sc id sz off len cap =>
              match xs with
              | [] => .leaf (s, hp)
              | _ =>
                let need := len + xs.length / sz
                bif Nat.beq sz (P.cellsOf τ) && Nat.ble need cap30 then
                  match look hp id with
                  | none => .fail
                  | some (n, c, d) =>
                    bif Nat.ble (off + len * sz) n then
                      match cap with
                      | some cp =>
                        Tree.ite' cl (Nat.ble need cp) ((wrObj hp id (off + len * sz) xs).bind fun hp' => .leaf (.sc id sz off need (some cp), hp'))
                          (newGrow hp sz (rdN c d (len * sz) off ++ xs) need)
                      | none =>
                        match hp.get id with
                        | some (.grow _ _ _ f) =>
                          bif Nat.ble (off + need * sz) n then (wrObj hp id (off + len * sz) xs).bind fun hp' => .leaf (.sc id sz off need none, hp')
                          else bif Nat.beq (off + len * sz) n then
                            match hp.get f with
                            | some (.fam h sh) =>
                              bif Nat.beq id h then
                                .leaf (.sc hp.next sz 0 need none, (hp.new (.grow (need * sz) (growC c d off (len * sz) xs) (growD d off) f)).put f (.fam hp.next (id :: sh)))
                              else .fail
                            | _ => .fail
                          else .fail
                        | _ => .fail
                    else .fail
                else .fail
            | _ => .fail
          else .fail
      else .fail
    | _ => .fail
  | _ => .fail

def iopCopy (hp : Hp T) (tys : List TypeId) (d s : AV T) : Tree (AV T × Hp T) :=
  match tys with
  | t :: _ =>
    match P.underlying t with
    | some (.slice τ) =>
      bif (P.info? τ).isNone then .fail else
      match d, srcCells P hp τ s with
      | .sc id sz off len _, some xs =>
        bif Nat.beq sz (P.cellsOf τ) && Nat.ble 1 sz then
          let n := bif Nat.ble (xs.length / sz) len then xs.length / sz else len
          match n with
          | 0 => .leaf (.int .i64 0, hp)
          | _ => (wrObj hp id off (xs.take (n * sz))).bind fun hp' => .leaf (.int .i64 n, hp')
        else .fail
      | _, _ => .fail
    | _ => .fail
  | _ => .fail

def clrL (n : Nat) (z : List (AV T)) : List (AV T) := (List.range n).map fun i => z.getD (i % z.length) .any
def iopClear (hp : Hp T) (tys : List TypeId) (x : AV T) : Tree (AV T × Hp T) :=
  match tys with
  | [t] =>
    match P.underlying t with
    | some (.slice τ) =>
      match zeroA (T := T) P τ with
      | some z =>
        match x with
        | .nils => .leaf (.tup [], hp)
        | .emp => .leaf (.tup [], hp)
        | .es => .leaf (.tup [], hp)
        | .sc id _ off len _ =>
          match len with
          | 0 => .leaf (.tup [], hp)
          | m + 1 => (wrObj hp id off (clrL ((m + 1) * z.length) z)).bind fun hp' => .leaf (.tup [], hp')
        | _ => .fail
      | none => .fail
    | _ => .fail
  | _ => .fail
end

/-! ### Lists of objects -/
section
variable (P : Program) (E : Enc T) (cl : Bool)
def spliceL (cs : List (AV T)) (k : Nat) (vs : List (AV T)) : List (AV T) := cs.take k ++ (vs ++ cs.drop (k + vs.length))
def asLd : (σ : Nat) → AV T → Option (List (T σ)) := fun σ v => asL σ v
def iopStoreO (hp : Hp T) (t : TypeId) (a v : AV T) : Tree (AV T × Hp T) :=
  match a with
  | .lp id τ i k =>
    match hp.get id, cellsA v with
    | some (.lst τ' l), some vc =>
      bif Nat.beq τ' τ && Nat.beq vc.length (P.cellsOf t) && Nat.ble 1 vc.length && Nat.ble (k + vc.length) (P.cellsOf τ') && vc.all isCell then
        match E.dec τ' asLd (spliceL (E.enc τ' (ixD E τ' l i)) k vc) with
        | some x => .req ((decide (0 ≤ i) && decide (i < (l.length : Int))) = true) (.leaf (.any, hp.put id (.lst τ' (l.set i.toNat x))))
        | none => .fail
      else .fail
    | _, _ => .fail
  | _ => iopStore P hp t a v

/-- What a slice reads as, object or not. -/
def srcL (hp : Hp T) (τ : Nat) (x : AV T) (k : List (T τ) → Tree (AV T × Hp T)) : Tree (AV T × Hp T) :=
  match x with
  | .es => k []
  | .ls id τ' len => match hp.get id with
    | some (.lst τ2 l) => if h : τ2 = τ then bif Nat.beq τ' τ then .req (len = l.length) (k (h ▸ l)) else .fail else .fail
    | _ => .fail
  | .sc id sz off len _ =>
    bif Nat.beq len 0 then k [] else
    match look hp id with
    | some (n, c, d) =>
      bif E.ok τ && Nat.beq sz (P.cellsOf τ) && Nat.ble (off + len * sz) n then
        match mapO (fun i => E.dec τ asLd (rdN c d sz (off + i * sz))) (iotaFrom len 0) with
        | some l => k l
        | none => .fail
      else .fail
    | none => .fail
  | x => match asL τ x with
    | some l => k l
    | none => .fail
def newL (hp : Hp T) (τ : Nat) (l xs : List (T τ)) : Tree (AV T × Hp T) :=
  .req (l.length + xs.length ≤ cap30) (.leaf (.ls hp.next τ (l ++ xs).length, hp.new (.lst τ (l ++ xs))))
/-- Something is appended to a list. -/
def appL (hp : Hp T) (τ : Nat) (s : AV T) (xs : List (T τ)) : Tree (AV T × Hp T) :=
  match s with
  | .nils => newL hp τ [] xs
  | .emp => newL hp τ [] xs
  | .sl τ' l true => .req (l.length = 0 ∧ τ' = τ) (newL hp τ [] xs)
  | .ls id τ' len => match hp.get id with
    | some (.lst τ2 l) => if h : τ2 = τ then bif Nat.beq τ' τ then .req (len = l.length) ((newL (hp.put id .dead) τ (h ▸ l) xs)) else .fail else .fail
    | _ => .fail
  | .sc _ _ _ len cap => match cap with
    | some c => bif Nat.beq len 0 && Nat.beq c 0 then newL hp τ [] xs else .fail
    | none => .fail
  | _ => .fail
def iopAppendO (hp : Hp T) (tys : List TypeId) (s x : AV T) : Tree (AV T × Hp T) :=
  bif isLs s || isSl s || isLs x || isSl x then
    match tys with
    | [t, tx] =>
      match P.underlying t with
      | some (.slice τ) =>
        bif Nat.beq t tx && E.ok τ && Nat.ble (P.bytesOf τ) 65536 && (match zeroA (T := T) P τ with | some z => Nat.beq z.length (P.cellsOf τ) | none => false) then
          srcL P E hp τ x fun xs => appL hp τ s xs
        else .fail
      | _ => .fail
    | _ => .fail
  else iopAppend P cl hp tys s x
def iopMakeO (hp : Hp T) (t : TypeId) (n c : AV T) : Tree (AV T × Hp T) :=
  bif isOp1 n || isOp1 c then
    match P.underlying t, asN n, asN c with
    | some (.slice τ), some (_, n), some (_, c) =>
      match zeroA P τ with
      | some z => bif E.ok τ && Nat.beq z.length (P.cellsOf τ) && Nat.ble (P.bytesOf τ) 65536 then
          match E.dec τ asLd z with
          | some x => .req (0 ≤ n ∧ c = n ∧ n ≤ (cap30 : Int)) (.leaf (.ls hp.next τ n.toNat, hp.new (.lst τ (List.replicate n.toNat x))))
          | none => .fail
        else .fail
      | none => .fail
    | _, _, _ => .fail
  else iopMake P cl hp t n c
end

/-! ### Who is called -/
inductive Tgt where
  | fn (f : Nat)
  | yld (id : Nat)

section
variable (P : Program) (E : Enc T) (cl : Bool) (act : Tgt → List (AV T) → Hp T → Tree (AV T × Hp T))

def pu (hp : Hp T) (t : Tree (AV T)) : Tree (AV T × Hp T) := t.bind fun v => .leaf (v, hp)

/-- Whether copies are to be lists that never change: a mark in the table of contracts. -/
def isFz (hp : Hp T) : Bool := match act (.fn 999983) [] hp with
  | .req _ _ => true
  | _ => false
def frzLeaf (r : AV T × Hp T) : Tree (AV T × Hp T) := match r.1 with
  | .ls id τ len => match r.2.get id with
    | some (.lst τ2 l) => if h : τ2 = τ then .req (len = l.length) (.leaf (.sl τ (h ▸ l) false, r.2.put id .dead)) else .fail
    | _ => .fail
  | _ => .fail
def frzT (b : Bool) (t : Tree (AV T × Hp T)) : Tree (AV T × Hp T) := bif b then t.bind frzLeaf else t
def vcall (tm : Tr (AV T)) (hp : Hp T) (c : Call) : Tree (AV T × Hp T) :=
  match c.callee with
  | .value f =>
    match ev tm f with
    | .fn g caps => act (.fn g) (c.args.toList.map (ev tm) ++ caps) hp
    | .mfn g first caps => act (.fn g) ((first ++ c.args.toList.map (ev tm)) ++ caps) hp
    | .yld id => act (.yld id) (c.args.toList.map (ev tm)) hp
    | _ => .fail
  | .invoke r name =>
    match ev tm r with
    | .ifc t v => match methodA P t name with
      | some f => act (.fn f) (v :: c.args.toList.map (ev tm)) hp
      | none => .fail
    | _ => .fail
  | .builtin .len =>
    match c.args.toList, c.argTypes.toList with
    | [x], [t] => match lenA (ev tm x) with
      | some n => bif lenTyOk P t (ev tm x) then .leaf (bif isSl (ev tm x) || isLs (ev tm x) then .sym .i64 (n : Int) else .int .i64 (n : Int), hp) else .fail
      | none => .fail
    | _, _ => .fail
  | .builtin .cap =>
    match c.args.toList, c.argTypes.toList with
    | [x], [t] =>
      match P.underlying t, ev tm x with
      | some (.slice _), .sc _ _ _ _ (some n) => .leaf (.int .i64 (n : Int), hp)
      | some (.slice _), .nils => .leaf (.int .i64 0, hp)
      | some (.slice _), .emp => .leaf (.int .i64 0, hp)
      | _, _ => .fail
    | _, _ => .fail
  | .builtin .min => pu hp (.ofOption (minMaxO false (c.args.toList.map (ev tm))))
  | .builtin .max => pu hp (.ofOption (minMaxO true (c.args.toList.map (ev tm))))
  | .builtin .append =>
    match c.args.toList with
    | [s, x] => frzT (bif isSl (ev tm x) then isFz act hp else false) (iopAppendO P E cl hp c.argTypes.toList (ev tm s) (ev tm x))
    | _ => .fail
  | .builtin .copy =>
    match c.args.toList with
    | [s, x] => iopCopy P hp c.argTypes.toList (ev tm s) (ev tm x)
    | _ => .fail
  | .builtin .clear =>
    match c.args.toList with
    | [x] => iopClear P hp c.argTypes.toList (ev tm x)
    | _ => .fail
  | _ => .fail

/-- What an operation gives, and what becomes of the objects. -/
def vop (tm : Tr (AV T)) (hp : Hp T) (o : Oper) : Tree (AV T × Hp T) :=
  match o.op with
  | .move x => .leaf (ev tm x, hp)
  | .assign x => .leaf (ev tm x, hp)
  | .pick c a b => pu hp (popPick (ev tm c) (ev tm a) (ev tm b))
  | .load t a => pu hp (popLoadO P E hp t (ev tm a))
  | .fieldAddr s x f => pu hp (popFieldAddrO P s f (ev tm x))
  | .field t x f => pu hp (popField P t f (ev tm x))
  | .indexAddr t x ix => pu hp (popIndexAddrO P E cl t (ev tm x) (ev tm ix))
  | .index t x ix => pu hp (popIndexO P cl t (ev tm x) (ev tm ix))
  | .binOp op t x y _ => pu hp (popBinO P E cl op t (ev tm x) (ev tm y))
  | .unOp op _ x => pu hp (popUn op (ev tm x))
  | .convert src dst x => pu hp (popConvert P src dst (ev tm x))
  | .nilCheck x => pu hp (popNil (ev tm x))
  | .build t parts => pu hp (popBuild P t (parts.toList.map fun p => (p.1, ev tm p.2)))
  | .buildSlice t n parts => iopBuildSlice P hp t n (parts.toList.map fun p => (p.1, ev tm p.2))
  | .extract x i => pu hp (popExtract i (ev tm x))
  | .makeFunc (.func f) first caps => bif Nat.beq first.size 0 then .leaf (.fn f (caps.toList.map (ev tm)), hp) else .leaf (.mfn f (first.toList.map (ev tm)) (caps.toList.map (ev tm)), hp)
  | .slice t x lo hi mx => pu hp (popSliceO P cl hp t (ev tm x) (lo.map (ev tm)) (hi.map (ev tm)) (mx.map (ev tm)))
  | .box _ v => iopBox hp (ev tm v)
  | .alloc t => iopAlloc P hp t
  | .store t a v => iopStoreO P E hp t (ev tm a) (ev tm v)
  | .makeSlice t n c => iopMakeO P E cl hp t (ev tm n) (ev tm c)
  | .call c => vcall P E cl act tm hp c
  | .makeInterface t x => pu hp (popMakeI P t (ev tm x))
  | .typeAssert x _ asserted ok => pu hp (popAssert P asserted ok (ev tm x))
  | _ => .fail

def put (dst : Option Nat) (v : AV T) (hp : Hp T) (st : St T) : St T :=
  match dst with
  | some d => bif Nat.blt d st.n then ⟨st.n, st.tm.set d v, hp⟩ else ⟨st.n, st.tm, hp⟩
  | none => ⟨st.n, st.tm, hp⟩
/-- The same, at hand. -/
def putT (dst : Option Nat) (v : AV T) (hp : Hp T) (st : St T) : Tree (St T) :=
  forceN st.n fun n => hp.force fun hp' =>
  match dst with
  | some d => fv cl v fun v' => bif Nat.blt d n then (st.tm.set d v').force fun tm' => .leaf ⟨n, tm', hp'⟩ else st.tm.force fun tm' => .leaf ⟨n, tm', hp'⟩
  | none => st.tm.force fun tm' => .leaf ⟨n, tm', hp'⟩
theorem putT_eq (dst : Option Nat) (v : AV T) (hp : Hp T) (st : St T) : putT cl dst v hp st = .leaf (put dst v hp st) := by
  unfold putT put
  rw [forceN_eq, Hp.force_eq]
  cases dst with
  | none => simp only [Tr.force_eq]
  | some d =>
    simp only [fv_eq, Tr.force_eq]
    cases Nat.blt d st.n <;> rfl

def xop (o : Oper) (st : St T) : Tree (St T) := (vop P E cl act st.tm st.hp o).bind fun r => putT cl o.dst r.1 r.2 st
end
end Go.Cx
