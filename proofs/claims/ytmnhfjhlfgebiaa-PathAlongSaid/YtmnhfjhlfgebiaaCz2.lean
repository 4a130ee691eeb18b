/- The evaluator: forms of states. No condition. -/
import Derived.Test.YtmnhfjhlfgebiaaCz1
set_option linter.unusedVariables false
noncomputable section
namespace Go.Cx
open Go.RowKit
variable {T : Nat → Type} {P : Program} {E : Enc T} {cl : Bool} {fuel : Nat}

/-! ### Forms of states: which temporaries matter, and what lies there -/
inductive V (T : Nat → Type) where
  | n (i : Int)
  | t (b : Bool)
  | l (τ : Nat) (xs : List (T τ))
/-- Cells that never change. -/
inductive Sh0 where
  | i (k : IntKind)
  | b
  | s (τ : Nat)
  | f (g : Nat)
  | x
inductive Sh1 where
  | i (k : IntKind)
  | b
  | s (τ : Nat)
  /-- the address of a cell of an object, by the object's number in the form -/
  | o (k off : Nat)
  /-- the slice of a whole list object -/
  | g (k τ : Nat)
  | x
  /-- a known function that has caught nothing -/
  | f (g : Nat)
  /-- the address of cells that never change -/
  | r (cs : List Sh0)
  /-- the function that a loop over a function hands in, by the record's number in the form -/
  | y (k : Nat)
  /-- a number that is known -/
  | k (kd : IntKind) (n : Int)
inductive Sh where
  | one (s : Sh1)
  | agg (cs : List Sh1)
  /-- a known function, with what it has caught -/
  | fn (f : Nat) (cs : List Sh1)
  /-- a known function with its first arguments -/
  | mfn (f : Nat) (cs : List Sh1)
  /-- a known function whose one first argument is a struct -/
  | mfa (f : Nat) (cs : List Sh1)
/-- The code of a loop over a function. -/
structure RfCode where
  params : Array Tmp
  assign : Code
  body : Code
def RecIs (a b : RfCode) : Prop := a = b
/-- Objects whose names stay. pd: how the record of a loop stands: 0 ready, 1 left by a return, k + 2 left by the exit k. -/
inductive FSh where
  | c (cs : List Sh1)
  | lp (n : Nat) (tms : List (Nat × Sh)) (code : RfCode) (pd : Nat)
inductive OSh where
  | c (cs : List Sh1)
  | l (τ : Nat)
  /-- an object of a caller -/
  | fx (id : Nat) (s : FSh)
structure Tmpl where
  nt : Nat
  tms : List (Nat × Sh)
  obs : List OSh

/-- Where an object of the form comes from. -/
inductive AE where
  | o (id : Nat)
  /-- an empty slice -/
  | e
  | s (id len : Nat)
  | c (id sz off len cap : Nat)
def AE.id : AE → Option Nat
  | .o id => some id
  | .e => none
  | .s id _ => some id
  | .c id _ _ _ _ => some id
abbrev As := List (Nat × AE)
def asOf (k : Nat) : As → Option AE
  | [] => none
  | (j, a) :: as => bif Nat.beq k j then some a else asOf k as
def asHas (id : Nat) : As → Bool
  | [] => false
  | (_, a) :: as => match a.id with
    | some x => bif Nat.beq id x then true else asHas id as
    | none => asHas id as
def rd0 : Sh0 → AV T → Option (List (V T))
  | .i k, v => match asN v with
    | some (k', n) => bif decide (k = k') then some [.n n] else none
    | none => none
  | .b, v => match asB v with
    | some b => some [.t b]
    | none => none
  | .s τ, v => match asL τ v with
    | some l => some [.l τ l]
    | none => none
  | .f g, v => match v with
    | .fn g' cs => match cs with
      | [] => bif Nat.beq g' g then some [] else none
      | _ :: _ => none
    | _ => none
  | .x, _ => some []
def rdL0 : List Sh0 → List (AV T) → Option (List (V T))
  | [], [] => some []
  | s :: ss, v :: vs => match rd0 s v with
    | some d => match rdL0 ss vs with
      | some ds => some (d ++ ds)
      | none => none
    | none => none
  | _, _ => none
def rd1 (P : Program) : Sh1 → AV T → As → Option (List (V T) × As)
  | .i k, v, as => match asN v with
    | some (k', n) => bif decide (k = k') then some ([.n n], as) else none
    | none => none
  | .b, v, as => match asB v with
    | some b => some ([.t b], as)
    | none => none
  | .s τ, v, as => match asL τ v with
    | some l => some ([.l τ l], as)
    | none => none
  | .o k off, v, as => match v with
    | .ptr id off' => bif Nat.beq off off' then (match asOf k as with
      | some (.o id') => bif Nat.beq id id' then some ([], as) else none
      | some _ => none
      | none => bif asHas id as then none else some ([], (k, .o id) :: as)) else none
    | _ => none
  | .g k τ, v, as => match asOf k as with
    | some _ => none
    | none => match v with
      | .nils => some ([], (k, .e) :: as)
      | .emp => some ([], (k, .e) :: as)
      | .ls id τ' len => bif asHas id as || !Nat.beq τ' τ then none else some ([], (k, .s id len) :: as)
      | .sc id sz off len (some c) => bif Nat.beq len 0 && Nat.beq c 0 then some ([], (k, .e) :: as) else bif asHas id as || !Nat.blt 0 len || !Nat.ble c cap30 || !Nat.beq sz (P.cellsOf τ) then none else some ([], (k, .c id sz off len c) :: as)
      | _ => none
  | .x, _, as => some ([], as)
  | .f g, v, as => match v with
    | .fn g' cs => match cs with
      | [] => bif Nat.beq g' g then some ([], as) else none
      | _ :: _ => none
    | _ => none
  | .r ss, v, as => match v with
    | .rp cs => match rdL0 ss cs with
      | some d => some (d, as)
      | none => none
    | _ => none
  | .y k, v, as => match v with
    | .yld id => match asOf k as with
      | some (.o id') => bif Nat.beq id id' then some ([], as) else none
      | _ => none
    | _ => none
  | .k kd n, v, as => match v with
    | .int kd' n' => bif decide (kd = kd' ∧ n = n') then some ([], as) else none
    | _ => none
def rdL1 (P : Program) : List Sh1 → List (AV T) → As → Option (List (V T) × As)
  | [], [], as => some ([], as)
  | s :: ss, v :: vs, as => match rd1 P s v as with
    | some (d, as1) => match rdL1 P ss vs as1 with
      | some (ds, as2) => some (d ++ ds, as2)
      | none => none
    | none => none
  | _, _, _ => none
def rdSh (P : Program) : Sh → AV T → As → Option (List (V T) × As)
  | .one s, v, as => rd1 P s v as
  | .agg ss, v, as => match v with
    | .agg cs => rdL1 P ss cs as
    | _ => none
  | .fn f ss, v, as => match v with
    | .fn g cs => bif Nat.beq g f then rdL1 P ss cs as else none
    | _ => none
  | .mfn f ss, v, as => match v with
    | .mfn g cs [] => bif Nat.beq g f then rdL1 P ss cs as else none
    | _ => none
  | .mfa f ss, v, as => match v with
    | .mfn g [.agg cs] [] => bif Nat.beq g f then rdL1 P ss cs as else none
    | _ => none
def rdTms (P : Program) (tm : Tr (AV T)) : List (Nat × Sh) → As → Option (List (V T) × As)
  | [], as => some ([], as)
  | (j, s) :: l, as => match rdSh P s (tmAt tm j) as with
    | some (d, as1) => match rdTms P tm l as1 with
      | some (ds, as2) => some (d ++ ds, as2)
      | none => none
    | none => none
def pdState : Nat → LoopState
  | 0 => .ready
  | _ + 1 => .done
def pdPend : Nat → Option Code
  | 0 => none
  | 1 => some .ret
  | k + 2 => some (.exit k)
def pdOk : LoopState → Option Code → Nat → Bool
  | .ready, none, 0 => true
  | .done, some .ret, 1 => true
  | .done, some (.exit j), k + 2 => Nat.beq j k
  | _, _, _ => false
theorem pdOk_ok {s : LoopState} {p : Option Code} {k : Nat} (h : pdOk s p k = true) : s = pdState k ∧ p = pdPend k := by
  unfold pdOk at h
  split at h
  · exact ⟨rfl, rfl⟩
  · exact ⟨rfl, rfl⟩
  · rw [bbeq h]; exact ⟨rfl, rfl⟩
  · cases h
/-- The objects of the form whose names are known. -/
def seedAs : Nat → List OSh → As → Option As
  | _, [], as => some as
  | k, .fx id _ :: l, as => bif asHas id as then none else seedAs (k + 1) l ((k, .o id) :: as)
  | k, .c _ :: l, as => seedAs (k + 1) l as
  | k, .l _ :: l, as => seedAs (k + 1) l as
/-- The cells of the objects that are no lists. -/
def rdObs (P : Program) (hp : Hp T) : Nat → List OSh → As → Option (List (V T) × As)
  | _, [], as => some ([], as)
  | k, .l _ :: l, as => rdObs P hp (k + 1) l as
  | k, .fx id (.c ss) :: l, as => match hp.get id with
    | some (.cells n c d) => bif Nat.beq n ss.length then (match rdL1 P ss (rdN c d n 0) as with
      | some (d, as1) => match rdObs P hp (k + 1) l as1 with
        | some (ds, as2) => some (d ++ ds, as2)
        | none => none
      | none => none) else none
    | _ => none
  | k, .fx id (.lp n tms _ pd) :: l, as => match hp.get id with
    | some (.loop r) => bif Nat.beq r.n n && pdOk r.state r.pend pd then (match rdTms P r.tm tms as with
      | some (d, as1) => match rdObs P hp (k + 1) l as1 with
        | some (ds, as2) => some (d ++ ds, as2)
        | none => none
      | none => none) else none
    | _ => none
  | k, .c ss :: l, as => match asOf k as with
    | some (.o id) => match hp.get id with
      | some (.cells n c d) => bif Nat.beq n ss.length then (match rdL1 P ss (rdN c d n 0) as with
        | some (d, as1) => match rdObs P hp (k + 1) l as1 with
          | some (ds, as2) => some (d ++ ds, as2)
          | none => none
        | none => none) else none
      | _ => none
    | _ => none
/-- A list, from where it comes, and what has to hold. -/
def rdList (P : Program) (E : Enc T) (hp : Hp T) (τ : Nat) : Option AE → Option (List (T τ) × Option Prop)
  | some .e => some ([], none)
  | some (.s id len) => match hp.get id with
    | some (.lst τ2 l) => if h : τ2 = τ then some (h ▸ l, some (len = l.length)) else none
    | _ => none
  | some (.c id sz off len cap) => match hp.get id with
    | some (.cells n c d) =>
      bif E.ok τ && Nat.beq sz (P.cellsOf τ) && Nat.ble len cap && Nat.ble (off + cap * sz) n then
        match mapO (fun i => E.dec τ asLd (rdN c d sz (off + i * sz))) (iotaFrom len 0) with
        | some l => some (l, none)
        | none => none
      else none
    | _ => none
  | _ => none
def rdLists (P : Program) (E : Enc T) (hp : Hp T) (as : As) : Nat → List OSh → Option (List (V T) × List Prop)
  | _, [] => some ([], [])
  | k, .c _ :: l => rdLists P E hp as (k + 1) l
  | k, .fx _ (.c _) :: l => rdLists P E hp as (k + 1) l
  | k, .fx id (.lp _ _ code _) :: l => match hp.get id with
    | some (.loop r) => match rdLists P E hp as (k + 1) l with
      | some (ds, ps) => some (ds, RecIs ⟨r.params, r.assign, r.body⟩ code :: ps)
      | none => none
    | _ => none
  | k, .l τ :: l => match rdList P E hp τ (asOf k as) with
    | some (xs, p) => match rdLists P E hp as (k + 1) l with
      | some (ds, ps) => some (.l τ xs :: ds, p.toList ++ ps)
      | none => none
    | none => none
def asLow (n : Nat) (as : As) : Bool := as.all fun p => Nat.blt p.1 n
/-- What is read of a state: the lists of objects, the temporaries, the cells of objects; and what has to hold. -/
def rdSt (P : Program) (E : Enc T) (t : Tmpl) (st : St T) : Option (List (V T) × List Prop) :=
  bif Nat.beq st.n t.nt then match seedAs 0 t.obs [] with
    | some as0 => match rdTms P st.tm t.tms as0 with
      | some (v1, as1) => match rdObs P st.hp 0 t.obs as1 with
        | some (v2, as2) => bif asLow t.obs.length as2 then (match rdLists P E st.hp as2 0 t.obs with
          | some (v0, ps) => some (v0 ++ (v1 ++ v2), ps)
          | none => none) else none
        | none => none
      | none => none
    | none => none
  else none

def mk0 : Sh0 → List (V T) → Option (AV T × List (V T))
  | .i k, ds => match ds with
    | .n n :: r => some (.sym k n, r)
    | _ => none
  | .b, ds => match ds with
    | .t b :: r => some (.bool b, r)
    | _ => none
  | .s τ, ds => match ds with
    | .l τ' xs :: r => if h : τ' = τ then some (.sl τ (h ▸ xs) false, r) else none
    | _ => none
  | .f g, ds => some (.fn g [], ds)
  | .x, ds => some (.any, ds)
def mkL0 : List Sh0 → List (V T) → Option (List (AV T) × List (V T))
  | [], ds => some ([], ds)
  | s :: ss, ds => match mk0 s ds with
    | some (v, r) => match mkL0 ss r with
      | some (vs, r2) => some (v :: vs, r2)
      | none => none
    | none => none
def mk1 (nm : Nat → Nat) (ln : Nat → Nat) : Sh1 → List (V T) → Option (AV T × List (V T))
  | .i k, ds => match ds with
    | .n n :: r => some (.sym k n, r)
    | _ => none
  | .b, ds => match ds with
    | .t b :: r => some (.bool b, r)
    | _ => none
  | .s τ, ds => match ds with
    | .l τ' xs :: r => if h : τ' = τ then some (.sl τ (h ▸ xs) false, r) else none
    | _ => none
  | .o k off, ds => some (.ptr (nm k) off, ds)
  | .g k τ, ds => some (.ls (nm k) τ (ln k), ds)
  | .y k, ds => some (.yld (nm k), ds)
  | .k kd n, ds => some (.int kd n, ds)
  | .x, ds => some (.any, ds)
  | .f g, ds => some (.fn g [], ds)
  | .r ss, ds => match mkL0 ss ds with
    | some (cs, r) => some (.rp cs, r)
    | none => none
def mkL1 (nm : Nat → Nat) (ln : Nat → Nat) : List Sh1 → List (V T) → Option (List (AV T) × List (V T))
  | [], ds => some ([], ds)
  | s :: ss, ds => match mk1 nm ln s ds with
    | some (v, r) => match mkL1 nm ln ss r with
      | some (vs, r2) => some (v :: vs, r2)
      | none => none
    | none => none
def mkSh (nm : Nat → Nat) (ln : Nat → Nat) : Sh → List (V T) → Option (AV T × List (V T))
  | .one s, ds => mk1 nm ln s ds
  | .agg ss, ds => match mkL1 nm ln ss ds with
    | some (cs, r) => some (.agg cs, r)
    | none => none
  | .fn f ss, ds => match mkL1 nm ln ss ds with
    | some (cs, r) => some (.fn f cs, r)
    | none => none
  | .mfn f ss, ds => match mkL1 nm ln ss ds with
    | some (cs, r) => some (.mfn f cs [], r)
    | none => none
  | .mfa f ss, ds => match mkL1 nm ln ss ds with
    | some (cs, r) => some (.mfn f [.agg cs] [], r)
    | none => none
def mkTms (nm : Nat → Nat) (ln : Nat → Nat) : List (Nat × Sh) → List (V T) → Tr (AV T) → Option (Tr (AV T) × List (V T))
  | [], ds, tm => some (tm, ds)
  | (j, s) :: l, ds, tm => match mkSh nm ln s ds with
    | some (v, r) => match mkTms nm ln l r tm with
      | some (tm', r2) => (tm'.set j v).force fun tm2 => some (tm2, r2)
      | none => none
    | none => none
/-- An object of the form, made. -/
inductive MO (T : Nat → Type) where
  | c (cs : List (AV T))
  | l (τ : Nat) (xs : List (T τ))
  | f (id : Nat) (cs : List (AV T))
  | r (id : Nat) (r : LoopRec T)
def MO.ao : MO T → AO T
  | .c cs => .cells cs.length (ofL cs) .any
  | .l τ xs => .lst τ xs
  | .f _ cs => .cells cs.length (ofL cs) .any
  | .r _ x => .loop x
/-- Its name. -/
def MO.at (b : Nat) : MO T → Nat
  | .c _ => b
  | .l _ _ => b
  | .f id _ => id
  | .r id _ => id
def nmOf : List OSh → Nat → Nat → Nat
  | [], b, k => b + k
  | .fx id _ :: l, b, k => match k with
    | 0 => id
    | k + 1 => nmOf l (b + 1) k
  | .c _ :: l, b, k => match k with
    | 0 => b
    | k + 1 => nmOf l (b + 1) k
  | .l _ :: l, b, k => match k with
    | 0 => b
    | k + 1 => nmOf l (b + 1) k
/-- All names of a form's objects. -/
def nmsOf : List OSh → Nat → List Nat
  | [], _ => []
  | .fx id _ :: l, b => id :: nmsOf l (b + 1)
  | .c _ :: l, b => b :: nmsOf l (b + 1)
  | .l _ :: l, b => b :: nmsOf l (b + 1)
/-- The objects of callers have names below n. -/
def fxLow (n : Nat) : List OSh → Bool
  | [] => true
  | .fx id _ :: l => bif Nat.blt id n then fxLow n l else false
  | .c _ :: l => fxLow n l
  | .l _ :: l => fxLow n l
/-- They are there. -/
def fxIn (hp : Hp T) : List OSh → Bool
  | [] => true
  | .fx id _ :: l => (match hp.get id with
    | some _ => fxIn hp l
    | none => false)
  | .c _ :: l => fxIn hp l
  | .l _ :: l => fxIn hp l
/-- The lists, at the head of the data. -/
def mkLs : List OSh → List (V T) → Option (List (Option (V T)) × List (V T))
  | [], ds => some ([], ds)
  | .c _ :: l, ds => match mkLs l ds with
    | some (r, d) => some (none :: r, d)
    | none => none
  | .fx _ _ :: l, ds => match mkLs l ds with
    | some (r, d) => some (none :: r, d)
    | none => none
  | .l _ :: l, ds => match ds with
    | v :: ds' => match mkLs l ds' with
      | some (r, d) => some (some v :: r, d)
      | none => none
    | [] => none
def vLen : Option (Option (V T)) → Nat
  | some (some (.l _ xs)) => xs.length
  | _ => 0
def mkObs (nm : Nat → Nat) (ln : Nat → Nat) : List OSh → List (Option (V T)) → List (V T) → Option (List (MO T) × List (V T))
  | [], _, ds => some ([], ds)
  | .c ss :: l, _ :: lv, ds => match mkL1 nm ln ss ds with
    | some (cs, r) => match mkObs nm ln l lv r with
      | some (os, r2) => some (.c cs :: os, r2)
      | none => none
    | none => none
  | .fx id (.c ss) :: l, _ :: lv, ds => match mkL1 nm ln ss ds with
    | some (cs, r) => match mkObs nm ln l lv r with
      | some (os, r2) => some (.f id cs :: os, r2)
      | none => none
    | none => none
  | .fx id (.lp n tms code pd) :: l, _ :: lv, ds => match mkTms nm ln tms ds .nil with
    | some (tm, r) => match mkObs nm ln l lv r with
      | some (os, r2) => some (.r id ⟨pdState pd, pdPend pd, n, tm, code.params, code.assign, code.body⟩ :: os, r2)
      | none => none
    | none => none
  | .l τ :: l, some (.l τ' xs) :: lv, ds => bif Nat.beq τ' τ then (match mkObs nm ln l lv ds with
    | some (os, r2) => some (.l τ' xs :: os, r2)
    | none => none) else none
  | _, _, _ => none
def deadAll : List Nat → Tr (AO T) → Tr (AO T)
  | [], t => t
  | x :: l, t => ((deadAll l t).set x .dead).force fun t' => t'
def layObs : Nat → List (MO T) → Tr (AO T) → Tr (AO T)
  | _, [], t => t
  | b, o :: os, t => (t.set (o.at b) o.ao).force fun t' => layObs (b + 1) os t'
/-- A state of a form: its objects from base on, the next free name, names that are given up, the log. -/
def mkSt (t : Tmpl) (base nx : Nat) (old log : List Nat) (ds : List (V T)) : Option (St T) :=
  match mkLs t.obs ds with
  | none => none
  | some (lv, d0) => match mkTms (nmOf t.obs base) (fun k => vLen lv[k]?) t.tms d0 .nil with
    | some (tm, d1) => match mkObs (nmOf t.obs base) (fun k => vLen lv[k]?) t.obs lv d1 with
      | some (os, []) => tm.force fun tm' => (layObs base os (deadAll old .nil)).force fun objs => some ⟨t.nt, tm', ⟨nx, objs, log⟩⟩
      | _ => none
    | none => none

/-! ### What is read is what is made -/
def AsLe (a b : As) : Prop := ∀ k x, asOf k a = some x → asOf k b = some x
def AsInj (a : As) : Prop := ∀ k j x y id, asOf k a = some x → asOf j a = some y → x.id = some id → y.id = some id → k = j
theorem AsLe.refl {a : As} : AsLe a a := fun _ _ h => h
theorem AsLe.trans {a b c : As} (h : AsLe a b) (k : AsLe b c) : AsLe a c := fun x y e => k x y (h x y e)
theorem asOf_nil {k : Nat} : asOf k [] = none := rfl
theorem asOf_cons {k j : Nat} {a : AE} {as : As} : asOf k ((j, a) :: as) = if k = j then some a else asOf k as := by
  show (bif Nat.beq k j then some a else asOf k as) = _
  cases h : Nat.beq k j with
  | true => rw [if_pos (Nat.eq_of_beq_eq_true h)]; rfl
  | false => rw [if_neg (Nat.ne_of_beq_eq_false h)]; rfl
theorem asHas_of {k id : Nat} {a : AE} (ha : a.id = some id) : ∀ {as : As}, asOf k as = some a → asHas id as = true
  | [], h => by cases h
  | (j, x) :: as, h => by
    rw [asOf_cons] at h
    unfold asHas
    split at h
    · cases h
      rw [ha]
      simp
    · have ih := asHas_of ha h
      cases x.id with
      | none => exact ih
      | some y =>
        simp only
        cases Nat.beq id y with
        | true => rfl
        | false => exact ih
theorem asOf_low {n k : Nat} {a : AE} : ∀ {as : As}, asLow n as = true → asOf k as = some a → k < n
  | [], _, h => by cases h
  | (j, x) :: as, hl, h => by
    have hl' : (Nat.blt j n && asLow n as) = true := hl
    rw [Bool.and_eq_true] at hl'
    rw [asOf_cons] at h
    split at h
    · rename_i e; rw [e]; exact bblt hl'.1
    · exact asOf_low hl'.2 h

/-- Where an object of the form is. -/
def hdOf (β : Nat → Option Hd) : AE → Option Hd
  | .o id => β id
  | .e => none
  | .s id _ => β id
  | .c id sz off _ cap => match β id with
    | some h => some ⟨h.block, h.base + off, cap * sz⟩
    | none => none
def Rn (A : As) (nm : Nat → Nat) (ln : Nat → Nat) (β β' : Nat → Option Hd) : Prop := ∀ k a, asOf k A = some a → (∀ h, hdOf β a = some h → β' (nm k) = some h) ∧
  match a with
  | .o _ => True
  | .e => ln k = 0
  | .s _ len => len = ln k
  | .c _ _ _ len _ => len = ln k

section
variable {w : World} {M : Nat → Prop} {β β' : Nat → Option Hd}

structure RdOk (as as' : As) : Prop where
  le : AsLe as as'
  inj : AsInj as → AsInj as'
theorem RdOk.refl {a : As} : RdOk a a := ⟨.refl, fun h => h⟩
theorem RdOk.trans {a b c : As} (h : RdOk a b) (k : RdOk b c) : RdOk a c := ⟨h.le.trans k.le, fun x => k.inj (h.inj x)⟩
theorem RdOk.cons {as : As} {k : Nat} {a : AE} (hk : asOf k as = none) (hh : ∀ id, a.id = some id → asHas id as = false) : RdOk as ((k, a) :: as) := by
  refine ⟨fun j x e => ?_, fun hi j1 j2 x y id e1 e2 i1 i2 => ?_⟩
  · rw [asOf_cons]
    split
    · rename_i e'; subst e'; rw [hk] at e; cases e
    · exact e
  · rw [asOf_cons] at e1 e2
    split at e1 <;> split at e2
    · omega
    · cases e1
      have := asHas_of i2 e2
      rw [hh id i1] at this
      cases this
    · cases e2
      have := asHas_of i1 e1
      rw [hh id i2] at this
      cases this
    · exact hi _ _ _ _ _ e1 e2 i1 i2

theorem rd0_ok {s : Sh0} {v : AV T} {ds : List (V T)} (h : rd0 s v = some ds) :
    ∀ rest, ∃ v', mk0 s (ds ++ rest) = some (v', rest) ∧ ∀ (P : Program) (E : Enc T) (w : World) (M : Nat → Prop) u, RV P E w M (fun _ => none) v u → RV P E w M (fun _ => none) v' u := by
  cases s with
  | i k =>
    simp only [rd0] at h
    split at h
    · rename_i k' n hn
      cases hk : decide (k = k') with
      | false => rw [hk] at h; cases h
      | true =>
        rw [hk] at h
        cases h
        have hk := of_decide_eq_true hk
        subst hk
        exact fun rest => ⟨.sym k n, rfl, fun _ _ _ _ u hv => by rw [asN_val hv hn]; exact .sym⟩
    · cases h
  | b =>
    simp only [rd0] at h
    split at h
    · rename_i b hb
      cases h
      exact fun rest => ⟨.bool b, rfl, fun _ _ _ _ u hv => by rw [asB_val hv hb]; exact .bool⟩
    · cases h
  | s τ =>
    simp only [rd0] at h
    split at h
    · rename_i l hl
      cases h
      refine fun rest => ⟨.sl τ l false, ?_, fun _ _ _ _ u hv => (RV.flt1 rfl (asL_ro hv hl)).less fun _ h => h⟩
      simp only [List.cons_append, List.nil_append, mk0]
      exact dif_pos trivial
    · cases h
  | f g =>
    simp only [rd0] at h
    split at h
    · rename_i g' cs
      split at h
      · cases hb : Nat.beq g' g with
        | false => rw [hb] at h; cases h
        | true =>
          rw [hb] at h
          cases h
          have e := bbeq hb
          subst e
          exact fun rest => ⟨.fn g' [], rfl, fun _ _ _ _ u hv => hv⟩
      · cases h
    · cases h
  | x =>
    cases h
    exact fun rest => ⟨.any, rfl, fun _ _ _ _ _ _ => .any⟩
theorem rdL0_ok : ∀ {ss : List Sh0} {vs : List (AV T)} {ds : List (V T)}, rdL0 ss vs = some ds →
    ∀ rest, ∃ vs', mkL0 ss (ds ++ rest) = some (vs', rest) ∧ vs'.length = vs.length ∧ ∀ (P : Program) (E : Enc T) (w : World) (M : Nat → Prop) (j : Nat) c c' u, vs[j]? = some c → vs'[j]? = some c' → RV P E w M (fun _ => none) c u → RV P E w M (fun _ => none) c' u
  | [], [], ds, h => by
    cases h
    exact fun rest => ⟨[], rfl, rfl, fun _ _ _ _ j c c' u h => by simp at h⟩
  | s :: ss, v :: vs, ds, h => by
    simp only [rdL0] at h
    split at h
    · rename_i d h1
      split at h
      · rename_i ds' h2
        cases h
        intro rest
        obtain ⟨v', e1, k1⟩ := rd0_ok h1 (ds' ++ rest)
        obtain ⟨vs', e2, e3, k2⟩ := rdL0_ok h2 rest
        refine ⟨v' :: vs', by rw [List.append_assoc]; simp only [mkL0, e1, e2], by simp [e3], fun P E w M j c c' u hc hc' hv => ?_⟩
        cases j with
        | zero =>
          simp at hc hc'
          subst hc; subst hc'
          exact k1 P E w M u hv
        | succ j => exact k2 P E w M j c c' u (by simpa using hc) (by simpa using hc') hv
      · cases h
    · cases h
  | [], _ :: _, _, h => by cases h
  | _ :: _, [], _, h => by cases h

theorem rd1_ok {s : Sh1} {v : AV T} {as as' : As} {ds : List (V T)} (h : rd1 P s v as = some (ds, as')) :
    RdOk as as' ∧ ∀ nm ln rest, ∃ v', mk1 nm ln s (ds ++ rest) = some (v', rest) ∧ ∀ (E : Enc T) (w : World) (M : Nat → Prop) A β β' u, AsLe as' A → Rn A nm ln β β' → RV P E w M β v u → RV P E w M β' v' u := by
  cases s with
  | i k =>
    simp only [rd1] at h
    split at h
    · rename_i k' n hn
      cases hk : decide (k = k') with
      | false => rw [hk] at h; cases h
      | true =>
        rw [hk] at h
        cases h
        have hk := of_decide_eq_true hk
        subst hk
        exact ⟨.refl, fun nm ln rest => ⟨.sym k n, rfl, fun _ _ _ A β β' u _ _ hv => by rw [asN_val hv hn]; exact .sym⟩⟩
    · cases h
  | b =>
    simp only [rd1] at h
    split at h
    · rename_i b hb
      cases h
      exact ⟨.refl, fun nm ln rest => ⟨.bool b, rfl, fun _ _ _ A β β' u _ _ hv => by rw [asB_val hv hb]; exact .bool⟩⟩
    · cases h
  | s τ =>
    simp only [rd1] at h
    split at h
    · rename_i l hl
      cases h
      refine ⟨.refl, fun nm ln rest => ⟨.sl τ l false, ?_, fun _ _ _ A β β' u _ _ hv => (RV.flt1 rfl (asL_ro hv hl)).less fun _ h => h⟩⟩
      simp only [List.cons_append, List.nil_append, mk1]
      exact dif_pos trivial
    · cases h
  | o k off =>
    simp only [rd1] at h
    split at h
    · rename_i id off'
      cases ho : Nat.beq off off' with
      | false => rw [ho] at h; cases h
      | true =>
        rw [ho] at h
        have ho := bbeq ho
        subst ho
        simp only [cond_true] at h
        split at h
        · rename_i id' hid
          cases hb : Nat.beq id id' with
          | false => rw [hb] at h; cases h
          | true =>
            rw [hb] at h
            cases h
            have hb := bbeq hb
            subst hb
            refine ⟨.refl, fun nm ln rest => ⟨.ptr (nm k) off, rfl, fun _ _ _ A β β' u hle hR hv => ?_⟩⟩
            cases hv with
            | ptr hβ => exact .ptr ((hR k (.o id) (hle _ _ hid)).1 _ (show hdOf β (.o id) = some _ from hβ))
        · cases h
        · rename_i hnone
          cases hb : asHas id as with
          | true => rw [hb] at h; cases h
          | false =>
            rw [hb] at h
            cases h
            refine ⟨.cons hnone (fun id' e => by cases e; exact hb), fun nm ln rest => ⟨.ptr (nm k) off, rfl, fun _ _ _ A β β' u hle hR hv => ?_⟩⟩
            cases hv with
            | ptr hβ => exact .ptr ((hR k (.o id) (hle _ _ (by rw [asOf_cons, if_pos rfl]))).1 _ (show hdOf β (.o id) = some _ from hβ))
    · cases h
  | g k τ =>
    simp only [rd1] at h
    split at h
    · cases h
    · rename_i hnone
      have empty : ∀ {as2 : As}, as2 = (k, AE.e) :: as → RdOk as as2 ∧ ∀ nm ln rest, ∃ v', mk1 (T := T) nm ln (.g k τ) ([] ++ rest) = some (v', rest) ∧ ∀ (E : Enc T) (w : World) (M : Nat → Prop) A β' a, AsLe as2 A → (∀ β, Rn A nm ln β β' → RV P E w M β' v' (.slice a 0 0)) := by
        rintro _ rfl
        refine ⟨.cons hnone (fun id e => by cases e), fun nm ln rest => ⟨.ls (nm k) τ (ln k), rfl, fun E w M A β' a hle β hR => ?_⟩⟩
        have := (hR k _ (hle _ _ (by rw [asOf_cons, if_pos rfl]))).2
        have e : ln k = 0 := this
        rw [e]
        exact .ls0
      split at h
      · cases h
        obtain ⟨e1, e2⟩ := empty rfl
        refine ⟨e1, fun nm ln rest => ?_⟩
        obtain ⟨v', q1, q2⟩ := e2 nm ln rest
        refine ⟨v', q1, fun E w M A β β' u hle hR hv => ?_⟩
        cases hv
        exact q2 E w M A β' none hle β hR
      · cases h
        obtain ⟨e1, e2⟩ := empty rfl
        refine ⟨e1, fun nm ln rest => ?_⟩
        obtain ⟨v', q1, q2⟩ := e2 nm ln rest
        refine ⟨v', q1, fun E w M A β β' u hle hR hv => ?_⟩
        cases hv
        exact q2 E w M A β' _ hle β hR
      · rename_i id τ' len
        cases hb : asHas id as || !Nat.beq τ' τ with
        | true => rw [hb] at h; cases h
        | false =>
          rw [hb] at h
          cases h
          rw [Bool.or_eq_false_iff] at hb
          have ht : τ' = τ := by
            cases ht : Nat.beq τ' τ with
            | true => exact bbeq ht
            | false => rw [ht] at hb; simp at hb
          subst ht
          refine ⟨.cons hnone (fun id' e => by cases e; exact hb.1), fun nm ln rest => ⟨.ls (nm k) τ' (ln k), rfl, fun _ _ _ A β β' u hle hR hv => ?_⟩⟩
          obtain ⟨r1, r2⟩ := hR k _ (hle _ _ (by rw [asOf_cons, if_pos rfl]))
          have r2 : len = ln k := r2
          rw [← r2]
          cases hv with
          | ls0 => exact .ls0
          | ls q1 q2 q3 q4 q5 => exact .ls (r1 _ q1) q2 q3 q4 q5
      · rename_i id sz off len c
        cases hz : Nat.beq len 0 && Nat.beq c 0 with
        | true =>
          rw [hz] at h
          simp only [cond_true] at h
          rw [Bool.and_eq_true] at hz
          have z1 := bbeq hz.1
          have z2 := bbeq hz.2
          subst z1; subst z2
          cases h
          obtain ⟨e1, e2⟩ := empty rfl
          refine ⟨e1, fun nm ln rest => ?_⟩
          obtain ⟨v', q1, q2⟩ := e2 nm ln rest
          refine ⟨v', q1, fun E w M A β β' u hle hR hv => ?_⟩
          cases hv with
          | sc p1 p2 p3 p4 =>
            have := p3 _ rfl
            subst this
            exact q2 E w M A β' _ hle β hR
        | false =>
        rw [hz] at h
        simp only [cond_false] at h
        cases hb : asHas id as || !Nat.blt 0 len || !Nat.ble c cap30 || !Nat.beq sz (P.cellsOf τ) with
        | true => rw [hb] at h; cases h
        | false =>
          rw [hb] at h
          cases h
          rw [Bool.or_eq_false_iff, Bool.or_eq_false_iff, Bool.or_eq_false_iff] at hb
          have hpos : 0 < len := by
            cases ht : Nat.blt 0 len with
            | true => exact bblt ht
            | false => rw [ht] at hb; simp at hb
          have hcap : c ≤ cap30 := by
            cases ht : Nat.ble c cap30 with
            | true => exact bble ht
            | false => rw [ht] at hb; simp at hb
          have hsz : sz = P.cellsOf τ := by
            cases ht : Nat.beq sz (P.cellsOf τ) with
            | true => exact bbeq ht
            | false => rw [ht] at hb; simp at hb
          refine ⟨.cons hnone (fun id' e => by cases e; exact hb.1.1.1), fun nm ln rest => ⟨.ls (nm k) τ (ln k), rfl, fun _ _ _ A β β' u hle hR hv => ?_⟩⟩
          have hA := hle _ _ (by rw [asOf_cons, if_pos rfl])
          obtain ⟨r1, r2⟩ := hR k _ hA
          have r2 : len = ln k := r2
          rw [← r2]
          cases hv with
          | sc q1 q2 q3 q4 =>
            rename_i cc hh
            have e := q3 c rfl
            subst e
            have hb' := r1 ⟨hh.block, hh.base + off, cc * sz⟩ (by simp only [hdOf, q1])
            exact .ls hb' hpos q2 (by rw [hsz]) (Nat.le_trans hcap (by decide))
      · cases h
  | x =>
    cases h
    exact ⟨.refl, fun nm ln rest => ⟨.any, rfl, fun _ _ _ _ _ _ _ _ _ _ => .any⟩⟩
  | f g =>
    simp only [rd1] at h
    split at h
    · rename_i g' cs
      split at h
      · cases hb : Nat.beq g' g with
        | false => rw [hb] at h; cases h
        | true =>
          rw [hb] at h
          cases h
          have e := bbeq hb
          subst e
          refine ⟨.refl, fun nm ln rest => ⟨.fn g' [], rfl, fun _ _ _ A β β' u _ _ hv => ?_⟩⟩
          cases hv with
          | fn h1 h2 => exact .fn h1 fun j c v hc => by simp at hc
      · cases h
    · cases h
  | k kd n =>
    simp only [rd1] at h
    split at h
    · rename_i kd' n'
      cases hb : decide (kd = kd' ∧ n = n') with
      | false => rw [hb] at h; cases h
      | true =>
        rw [hb] at h
        cases h
        obtain ⟨e1, e2⟩ := of_decide_eq_true hb
        subst e1
        subst e2
        refine ⟨.refl, fun nm ln rest => ⟨.int kd n, rfl, fun _ _ _ A β β' u _ _ hv => ?_⟩⟩
        cases hv with
        | int => exact .int
    · cases h
  | r ss =>
    simp only [rd1] at h
    split at h
    · rename_i cs
      split at h
      · rename_i d hd
        cases h
        refine ⟨.refl, fun nm ln rest => ?_⟩
        obtain ⟨cs', e1, e2, k⟩ := rdL0_ok hd rest
        refine ⟨.rp cs', by simp only [mk1, e1], fun E w M A β β' u _ _ hv => ?_⟩
        cases hv with
        | rp f h1 h2 h3 h4 h5 =>
          have key : ∀ (j : Nat) (c : AV T), cs'[j]? = some c → ∃ c0, cs[j]? = some c0 := fun j c hc => by
            have := (List.getElem?_eq_some_iff.1 hc).1
            exact ⟨cs[j]'(by omega), List.getElem?_eq_getElem (by omega)⟩
          refine .rp f h1 h2 (fun hn => h3 fun he => hn ?_) (fun j c hc => ?_) fun j c hc => ?_
          · subst he
            exact List.eq_nil_of_length_eq_zero (by simpa using e2)
          · obtain ⟨c0, hc0⟩ := key j c hc
            exact h4 j c0 hc0
          · obtain ⟨c0, hc0⟩ := key j c hc
            exact k P E w M j c0 c _ hc0 hc (h5 j c0 hc0)
      · cases h
    · cases h
  | y k =>
    simp only [rd1] at h
    split at h
    · rename_i id
      split at h
      · rename_i id' hid
        cases hb : Nat.beq id id' with
        | false => rw [hb] at h; cases h
        | true =>
          rw [hb] at h
          cases h
          have hb := bbeq hb
          subst hb
          refine ⟨.refl, fun nm ln rest => ⟨.yld (nm k), rfl, fun _ _ _ A β β' u hle hR hv => ?_⟩⟩
          cases hv with
          | yld hβ => exact .yld ((hR k (.o id) (hle _ _ hid)).1 _ (show hdOf β (.o id) = some _ from hβ))
      · cases h
    · cases h
theorem rdL1_ok : ∀ {ss : List Sh1} {vs : List (AV T)} {as as' : As} {ds : List (V T)}, rdL1 P ss vs as = some (ds, as') →
    RdOk as as' ∧ ∀ nm ln rest, ∃ vs', mkL1 nm ln ss (ds ++ rest) = some (vs', rest) ∧ vs'.length = vs.length ∧ vs.length = ss.length ∧
      ∀ (E : Enc T) (w : World) (M : Nat → Prop) A β β', AsLe as' A → Rn A nm ln β β' → ∀ (j : Nat) (c c' : AV T) u, vs[j]? = some c → vs'[j]? = some c' → RV P E w M β c u → RV P E w M β' c' u
  | [], [], as, as', ds, h => by
    cases h
    exact ⟨.refl, fun nm ln rest => ⟨[], rfl, rfl, rfl, fun _ _ _ _ _ _ _ _ j c c' u h => by simp at h⟩⟩
  | s :: ss, v :: vs, as, as', ds, h => by
    simp only [rdL1] at h
    split at h
    · rename_i d as1 h1
      split at h
      · rename_i ds' as2 h2
        cases h
        obtain ⟨a1, a2⟩ := rd1_ok h1
        obtain ⟨b1, b2⟩ := rdL1_ok h2
        refine ⟨a1.trans b1, fun nm ln rest => ?_⟩
        obtain ⟨v', e1, k1⟩ := a2 nm ln (ds' ++ rest)
        obtain ⟨vs', e2, e3, e4, k2⟩ := b2 nm ln rest
        refine ⟨v' :: vs', by rw [List.append_assoc]; simp only [mkL1, e1, e2], by simp [e3], by simp [e4], fun E w M A β β' hle hR j c c' u hc hc' hv => ?_⟩
        cases j with
        | zero =>
          simp at hc hc'
          subst hc; subst hc'
          exact k1 E w M A β β' u (b1.le.trans hle) hR hv
        | succ j => exact k2 E w M A β β' hle hR j c c' u (by simpa using hc) (by simpa using hc') hv
      · cases h
    · cases h
  | [], _ :: _, _, _, _, h => by cases h
  | _ :: _, [], _, _, _, h => by cases h

theorem rdSh_ok {s : Sh} {v : AV T} {as as' : As} {ds : List (V T)} (h : rdSh P s v as = some (ds, as')) :
    RdOk as as' ∧ ∀ nm ln rest, ∃ v', mkSh nm ln s (ds ++ rest) = some (v', rest) ∧ ∀ (E : Enc T) (w : World) (M : Nat → Prop) A β β' u, AsLe as' A → Rn A nm ln β β' → RV P E w M β v u → RV P E w M β' v' u := by
  cases s with
  | one s =>
    obtain ⟨a1, a2⟩ := rd1_ok h
    refine ⟨a1, fun nm ln rest => ?_⟩
    obtain ⟨v', e1, k⟩ := a2 nm ln rest
    exact ⟨v', e1, fun E w M A β β' u hle hR hv => k E w M A β β' u hle hR hv⟩
  | agg ss =>
    simp only [rdSh] at h
    split at h
    · rename_i cs
      obtain ⟨a1, a2⟩ := rdL1_ok h
      refine ⟨a1, fun nm ln rest => ?_⟩
      obtain ⟨vs', e1, e2, e3, k⟩ := a2 nm ln rest
      refine ⟨.agg vs', by simp only [mkSh, e1], fun E w M A β β' u hle hR hv => ?_⟩
      cases hv with
      | agg h1 h2 =>
        refine .agg (by rw [e2, h1]) fun j c v hc hv => ?_
        have hj : j < cs.length := by rw [← e2]; exact (List.getElem?_eq_some_iff.1 hc).1
        exact k E w M A β β' hle hR j _ c v (List.getElem?_eq_getElem hj) hc (h2 j _ v (List.getElem?_eq_getElem hj) hv)
    · cases h
  | fn f ss =>
    simp only [rdSh] at h
    split at h
    · rename_i g cs
      cases hb : Nat.beq g f with
      | false => rw [hb] at h; cases h
      | true =>
      rw [hb] at h
      have hb := bbeq hb
      subst hb
      obtain ⟨a1, a2⟩ := rdL1_ok h
      refine ⟨a1, fun nm ln rest => ?_⟩
      obtain ⟨vs', e1, e2, e3, k⟩ := a2 nm ln rest
      refine ⟨.fn g vs', by simp only [mkSh, e1], fun E w M A β β' u hle hR hv => ?_⟩
      cases hv with
      | fn h1 h2 =>
        refine .fn (by rw [e2, h1]) fun j c v hc hv => ?_
        have hj : j < cs.length := by rw [← e2]; exact (List.getElem?_eq_some_iff.1 hc).1
        exact k E w M A β β' hle hR j _ c v (List.getElem?_eq_getElem hj) hc (h2 j _ v (List.getElem?_eq_getElem hj) hv)
    · cases h
  | mfn f ss =>
    simp only [rdSh] at h
    split at h
    · rename_i g cs
      cases hb : Nat.beq g f with
      | false => rw [hb] at h; cases h
      | true =>
      rw [hb] at h
      have hb := bbeq hb
      subst hb
      obtain ⟨a1, a2⟩ := rdL1_ok h
      refine ⟨a1, fun nm ln rest => ?_⟩
      obtain ⟨vs', e1, e2, e3, k⟩ := a2 nm ln rest
      refine ⟨.mfn g vs' [], by simp only [mkSh, e1], fun E w M A β β' u hle hR hv => ?_⟩
      cases hv with
      | mfn h1 h2 h3 h4 =>
        refine .mfn (by rw [e2, h1]) (fun j c v hc hv => ?_) h3 fun j c v hc => by simp at hc
        have hj : j < cs.length := by rw [← e2]; exact (List.getElem?_eq_some_iff.1 hc).1
        exact k E w M A β β' hle hR j _ c v (List.getElem?_eq_getElem hj) hc (h2 j _ v (List.getElem?_eq_getElem hj) hv)
    · cases h
  | mfa f ss =>
    simp only [rdSh] at h
    split at h
    · rename_i g cs
      cases hb : Nat.beq g f with
      | false => rw [hb] at h; cases h
      | true =>
      rw [hb] at h
      have hb := bbeq hb
      subst hb
      obtain ⟨a1, a2⟩ := rdL1_ok h
      refine ⟨a1, fun nm ln rest => ?_⟩
      obtain ⟨vs', e1, e2, e3, k⟩ := a2 nm ln rest
      refine ⟨.mfn g [.agg vs'] [], by simp only [mkSh, e1], fun E w M A β β' u hle hR hv => ?_⟩
      cases hv with
      | mfn h1 h2 h3 h4 =>
        refine .mfn h1 (fun j c v hc hv => ?_) h3 fun j c v hc => by simp at hc
        have hj : j = 0 := by
          have := (List.getElem?_eq_some_iff.1 hc).1
          simp at this
          exact this
        subst hj
        obtain rfl : AV.agg vs' = c := by simpa using hc
        have ha := h2 0 _ v rfl hv
        cases ha with
        | agg g1 g2 =>
          refine .agg (by rw [e2, g1]) fun j c v hc hv => ?_
          have hj : j < cs.length := by rw [← e2]; exact (List.getElem?_eq_some_iff.1 hc).1
          exact k E w M A β β' hle hR j _ c v (List.getElem?_eq_getElem hj) hc (g2 j _ v (List.getElem?_eq_getElem hj) hv)
    · cases h

theorem rdTms_ok {tm : Tr (AV T)} : ∀ {l : List (Nat × Sh)} {as as' : As} {ds : List (V T)}, rdTms P tm l as = some (ds, as') →
    RdOk as as' ∧ ∀ nm ln rest, ∃ tm', mkTms nm ln l (ds ++ rest) .nil = some (tm', rest) ∧
      ∀ (E : Enc T) (w : World) (M : Nat → Prop) A β β', AsLe as' A → Rn A nm ln β β' → ∀ j u, RV P E w M β (tmAt tm j) u → RV P E w M β' (tmAt tm' j) u
  | [], as, as', ds, h => by
    cases h
    refine ⟨.refl, fun nm ln rest => ⟨.nil, rfl, fun _ _ _ _ _ _ _ _ j u _ => ?_⟩⟩
    rw [tmAt_eq, Tr.get_nil]
    exact .any
  | (j0, s) :: l, as, as', ds, h => by
    simp only [rdTms] at h
    split at h
    · rename_i d as1 h1
      split at h
      · rename_i ds' as2 h2
        cases h
        obtain ⟨a1, a2⟩ := rdSh_ok h1
        obtain ⟨b1, b2⟩ := rdTms_ok h2
        refine ⟨a1.trans b1, fun nm ln rest => ?_⟩
        obtain ⟨v', e1, k1⟩ := a2 nm ln (ds' ++ rest)
        obtain ⟨tm', e2, k2⟩ := b2 nm ln rest
        refine ⟨tm'.set j0 v', by rw [List.append_assoc]; simp only [mkTms, e1, e2, Tr.force_eq], fun E w M A β β' hle hR j u hv => ?_⟩
        rw [tmAt_set]
        split
        · rename_i e
          subst e
          exact k1 E w M A β β' u (b1.le.trans hle) hR hv
        · exact k2 E w M A β β' hle hR j u hv
      · cases h
    · cases h

/-- The made lists fit the form. -/
def LvOk : List (Option (V T)) → List OSh → Prop
  | [], [] => True
  | v :: lv, o :: l => (match o with
    | .c _ => v = none
    | .fx _ _ => v = none
    | .l τ => ∃ xs, v = some (.l τ xs)) ∧ LvOk lv l
  | _, _ => False
def ObFrom (P : Program) (hp : Hp T) (nm : Nat → Nat) (ln : Nat → Nat) (k0 : Nat) (as' : As) (l : List OSh) (lv : List (Option (V T))) (k : Nat) : MO T → Prop
  | .c o => (∃ ss, l[k]? = some (.c ss)) ∧ ∃ id n c d, asOf (k0 + k) as' = some (.o id) ∧ hp.get id = some (.cells n c d) ∧ o.length = n ∧
        ∀ (E : Enc T) (w : World) (M : Nat → Prop) A β β', AsLe as' A → Rn A nm ln β β' → ∀ (j : Nat) (c' : AV T) u, o[j]? = some c' → RV P E w M β (cellAt c d j) u → RV P E w M β' c' u
  | .l τ xs => l[k]? = some (.l τ) ∧ lv[k]? = some (some (.l τ xs))
  | .f id o => (∃ ss, l[k]? = some (.fx id (.c ss))) ∧ ∃ n c d, hp.get id = some (.cells n c d) ∧ o.length = n ∧
        ∀ (E : Enc T) (w : World) (M : Nat → Prop) A β β', AsLe as' A → Rn A nm ln β β' → ∀ (j : Nat) (c' : AV T) u, o[j]? = some c' → RV P E w M β (cellAt c d j) u → RV P E w M β' c' u
  | .r id r => (∃ n tms code pd, l[k]? = some (.fx id (.lp n tms code pd)) ∧ RecIs ⟨r.params, r.assign, r.body⟩ code) ∧ ∃ r0, hp.get id = some (.loop r0) ∧ r.state = r0.state ∧ r.pend = r0.pend ∧ r.n = r0.n ∧
        ∀ (E : Enc T) (w : World) (M : Nat → Prop) A β β', AsLe as' A → Rn A nm ln β β' → ∀ j u, RV P E w M β (tmAt r0.tm j) u → RV P E w M β' (tmAt r.tm j) u
theorem ObFrom.succ {P : Program} {hp : Hp T} {nm : Nat → Nat} {ln : Nat → Nat} {k0 : Nat} {as' : As} {l : List OSh} {lv : List (Option (V T))} {k : Nat} {o : OSh} {v : Option (V T)} {m : MO T}
    (h : ObFrom P hp nm ln (k0 + 1) as' l lv k m) : ObFrom P hp nm ln k0 as' (o :: l) (v :: lv) (k + 1) m := by
  cases m with
  | c os =>
    obtain ⟨⟨ss, h0⟩, h⟩ := h
    refine ⟨⟨ss, by simpa using h0⟩, ?_⟩
    rw [show k0 + (k + 1) = k0 + 1 + k by omega]
    exact h
  | l τ xs => exact ⟨by simpa using h.1, by simpa using h.2⟩
  | f id o =>
    obtain ⟨⟨ss, h0⟩, h⟩ := h
    exact ⟨⟨ss, by simpa using h0⟩, h⟩
  | r id r =>
    obtain ⟨⟨n, tms, code, pd, h0, h1⟩, h⟩ := h
    exact ⟨⟨n, tms, code, pd, by simpa using h0, h1⟩, h⟩
theorem rdObs_ok {hp : Hp T} : ∀ {l : List OSh} {k0 : Nat} {as as' : As} {ds : List (V T)}, rdObs P hp k0 l as = some (ds, as') →
    RdOk as as' ∧ ∀ nm ln lv rest, LvOk lv l → ∃ os, mkObs nm ln l lv (ds ++ rest) = some (os, rest) ∧ os.length = l.length ∧
      ∀ (k : Nat) (o : MO T), os[k]? = some o → ObFrom P hp nm ln k0 as' l lv k o
  | [], k0, as, as', ds, h => by
    cases h
    refine ⟨.refl, fun nm ln lv rest hlv => ?_⟩
    cases lv with
    | nil => exact ⟨[], rfl, rfl, fun k o h => by simp at h⟩
    | cons v lv => exact hlv.elim
  | .l τ :: l, k0, as, as', ds, h => by
    simp only [rdObs] at h
    obtain ⟨b1, b2⟩ := rdObs_ok h
    refine ⟨b1, fun nm ln lv rest hlv => ?_⟩
    cases lv with
    | nil => exact hlv.elim
    | cons v lv =>
      obtain ⟨⟨xs, rfl⟩, hlv⟩ := hlv
      obtain ⟨os, f1, f2, k2⟩ := b2 nm ln lv rest hlv
      refine ⟨.l τ xs :: os, by simp only [mkObs, f1, Nat.beq_refl, cond_true], by simp [f2], fun k o ho => ?_⟩
      cases k with
      | zero =>
        simp at ho
        subst ho
        exact ⟨rfl, rfl⟩
      | succ k => exact (k2 k o (by simpa using ho)).succ
  | .fx id (.c ss) :: l, k0, as, as', ds, h => by
    simp only [rdObs] at h
    split at h
    · rename_i n c d hget
      cases hn : Nat.beq n ss.length with
      | false => rw [hn] at h; cases h
      | true =>
        rw [hn] at h
        simp only [cond_true] at h
        split at h
        · rename_i d1 as1 h1
          split at h
          · rename_i ds' as2 h2
            cases h
            obtain ⟨a1, a2⟩ := rdL1_ok h1
            obtain ⟨b1, b2⟩ := rdObs_ok h2
            refine ⟨a1.trans b1, fun nm ln lv rest hlv => ?_⟩
            cases lv with
            | nil => exact hlv.elim
            | cons v lv =>
            obtain ⟨hv, hlv⟩ := hlv
            obtain ⟨vs', e1, e2, e3, k1⟩ := a2 nm ln (ds' ++ rest)
            obtain ⟨os, f1, f2, k2⟩ := b2 nm ln lv rest hlv
            refine ⟨.f id vs' :: os, by rw [List.append_assoc]; simp only [mkObs, e1, f1], by simp [f2], fun k o ho => ?_⟩
            cases k with
            | zero =>
              simp at ho
              subst ho
              refine ⟨⟨ss, rfl⟩, n, c, d, hget, by rw [e2, rdN_length], fun E w M A β β' hle hR j c' u hc hv => ?_⟩
              have hj : j < (rdN c d n 0).length := by rw [← e2]; exact (List.getElem?_eq_some_iff.1 hc).1
              have hg := List.getElem?_eq_getElem hj
              have hx := (rdN_get c d n 0 j _ hg).2
              rw [Nat.zero_add] at hx
              rw [hx] at hg
              exact k1 E w M A β β' (b1.le.trans hle) hR j _ c' u hg hc hv
            | succ k => exact (k2 k o (by simpa using ho)).succ
          · cases h
        · cases h
    · cases h
  | .fx id (.lp n tms code pd) :: l, k0, as, as', ds, h => by
    simp only [rdObs] at h
    split at h
    · rename_i r hget
      cases hn : Nat.beq r.n n && pdOk r.state r.pend pd with
      | false => rw [hn] at h; cases h
      | true =>
        rw [hn] at h
        simp only [cond_true] at h
        rw [Bool.and_eq_true] at hn
        have hn1 := bbeq hn.1
        obtain ⟨hs, hp'⟩ := pdOk_ok hn.2
        split at h
        · rename_i d1 as1 h1
          split at h
          · rename_i ds' as2 h2
            cases h
            obtain ⟨a1, a2⟩ := rdTms_ok h1
            obtain ⟨b1, b2⟩ := rdObs_ok h2
            refine ⟨a1.trans b1, fun nm ln lv rest hlv => ?_⟩
            cases lv with
            | nil => exact hlv.elim
            | cons v lv =>
            obtain ⟨hv, hlv⟩ := hlv
            obtain ⟨tm', e1, k1⟩ := a2 nm ln (ds' ++ rest)
            obtain ⟨os, f1, f2, k2⟩ := b2 nm ln lv rest hlv
            refine ⟨.r id ⟨pdState pd, pdPend pd, n, tm', code.params, code.assign, code.body⟩ :: os, by rw [List.append_assoc]; simp only [mkObs, e1, f1], by simp [f2], fun k o ho => ?_⟩
            cases k with
            | zero =>
              simp at ho
              subst ho
              exact ⟨⟨n, tms, code, pd, rfl, rfl⟩, r, hget, hs.symm, hp'.symm, hn1.symm, fun E w M A β β' hle hR j u hv => k1 E w M A β β' (b1.le.trans hle) hR j u hv⟩
            | succ k => exact (k2 k o (by simpa using ho)).succ
          · cases h
        · cases h
    · cases h
  | .c ss :: l, k0, as, as', ds, h => by
    simp only [rdObs] at h
    split at h
    · rename_i id hid
      split at h
      · rename_i n c d hget
        cases hn : Nat.beq n ss.length with
        | false => rw [hn] at h; cases h
        | true =>
          rw [hn] at h
          simp only [cond_true] at h
          split at h
          · rename_i d1 as1 h1
            split at h
            · rename_i ds' as2 h2
              cases h
              obtain ⟨a1, a2⟩ := rdL1_ok h1
              obtain ⟨b1, b2⟩ := rdObs_ok h2
              refine ⟨a1.trans b1, fun nm ln lv rest hlv => ?_⟩
              cases lv with
              | nil => exact hlv.elim
              | cons v lv =>
              obtain ⟨hv, hlv⟩ := hlv
              obtain ⟨vs', e1, e2, e3, k1⟩ := a2 nm ln (ds' ++ rest)
              obtain ⟨os, f1, f2, k2⟩ := b2 nm ln lv rest hlv
              refine ⟨.c vs' :: os, by rw [List.append_assoc]; simp only [mkObs, e1, f1], by simp [f2], fun k o ho => ?_⟩
              cases k with
              | zero =>
                simp at ho
                subst ho
                refine ⟨⟨ss, rfl⟩, id, n, c, d, (a1.trans b1).le _ _ hid, hget, by rw [e2, rdN_length], fun E w M A β β' hle hR j c' u hc hv => ?_⟩
                have hj : j < (rdN c d n 0).length := by rw [← e2]; exact (List.getElem?_eq_some_iff.1 hc).1
                have hg := List.getElem?_eq_getElem hj
                have hx := (rdN_get c d n 0 j _ hg).2
                rw [Nat.zero_add] at hx
                rw [hx] at hg
                exact k1 E w M A β β' (b1.le.trans hle) hR j _ c' u hg hc hv
              | succ k => exact (k2 k o (by simpa using ho)).succ
            · cases h
          · cases h
      · cases h
    · cases h
end

section
variable {w : World} {M : Nat → Prop} {β : Nat → Option Hd}
theorem rdLists_ok {hp : Hp T} {as : As} : ∀ {l : List OSh} {k0 : Nat} {ds : List (V T)} {ps : List Prop}, rdLists P E hp as k0 l = some (ds, ps) →
    ∀ rest, ∃ lv, mkLs l (ds ++ rest) = some (lv, rest) ∧ LvOk lv l ∧ (∀ (k τ : Nat) (xs : List (T τ)), lv[k]? = some (some (.l τ xs)) → ∃ p, rdList P E hp τ (asOf (k0 + k) as) = some (xs, p) ∧ ∀ q, p = some q → q ∈ ps) ∧
      ∀ (k id n : Nat) tms code pd, l[k]? = some (.fx id (.lp n tms code pd)) → ∃ r, hp.get id = some (.loop r) ∧ RecIs ⟨r.params, r.assign, r.body⟩ code ∈ ps
  | [], k0, ds, ps, h, rest => by
    cases h
    exact ⟨[], rfl, trivial, fun k τ xs h => by simp at h, fun k id n tms code pd h => by simp at h⟩
  | .c ss :: l, k0, ds, ps, h, rest => by
    simp only [rdLists] at h
    obtain ⟨lv, h1, h2, h3, h4⟩ := rdLists_ok h rest
    refine ⟨none :: lv, by simp only [mkLs, h1], ⟨rfl, h2⟩, fun k τ xs hk => ?_, fun k id n tms code pd hk => ?_⟩
    · cases k with
      | zero => simp at hk
      | succ k =>
        rw [show k0 + (k + 1) = k0 + 1 + k by omega]
        exact h3 k τ xs (by simpa using hk)
    · cases k with
      | zero => simp at hk
      | succ k => exact h4 k id n tms code pd (by simpa using hk)
  | .fx i0 (.c ss) :: l, k0, ds, ps, h, rest => by
    simp only [rdLists] at h
    obtain ⟨lv, h1, h2, h3, h4⟩ := rdLists_ok h rest
    refine ⟨none :: lv, by simp only [mkLs, h1], ⟨rfl, h2⟩, fun k τ xs hk => ?_, fun k id n tms code pd hk => ?_⟩
    · cases k with
      | zero => simp at hk
      | succ k =>
        rw [show k0 + (k + 1) = k0 + 1 + k by omega]
        exact h3 k τ xs (by simpa using hk)
    · cases k with
      | zero => simp at hk
      | succ k => exact h4 k id n tms code pd (by simpa using hk)
  | .fx i0 (.lp n0 tms0 code0 pd0) :: l, k0, ds, ps, h, rest => by
    simp only [rdLists] at h
    split at h
    · rename_i r0 hr0
      split at h
      · rename_i ds' ps' h'
        cases h
        obtain ⟨lv, h1, h2, h3, h4⟩ := rdLists_ok h' rest
        refine ⟨none :: lv, by simp only [mkLs, h1], ⟨rfl, h2⟩, fun k τ xs hk => ?_, fun k id n tms code pd hk => ?_⟩
        · cases k with
          | zero => simp at hk
          | succ k =>
            rw [show k0 + (k + 1) = k0 + 1 + k by omega]
            obtain ⟨p, g1, g2⟩ := h3 k τ xs (by simpa using hk)
            exact ⟨p, g1, fun q hq => List.mem_cons_of_mem _ (g2 q hq)⟩
        · cases k with
          | zero =>
            simp only [List.getElem?_cons_zero, Option.some.injEq, OSh.fx.injEq, FSh.lp.injEq] at hk
            obtain ⟨rfl, _, _, rfl, _⟩ := hk
            exact ⟨r0, hr0, List.mem_cons_self ..⟩
          | succ k =>
            obtain ⟨r, g1, g2⟩ := h4 k id n tms code pd (by simpa using hk)
            exact ⟨r, g1, List.mem_cons_of_mem _ g2⟩
      · cases h
    · cases h
  | .l τ0 :: l, k0, ds, ps, h, rest => by
    simp only [rdLists] at h
    split at h
    · rename_i xs0 p0 h0
      split at h
      · rename_i ds' ps' h'
        cases h
        obtain ⟨lv, h1, h2, h3, h4⟩ := rdLists_ok h' rest
        refine ⟨some (.l τ0 xs0) :: lv, by simp only [List.cons_append, mkLs, h1], ⟨⟨xs0, rfl⟩, h2⟩, fun k τ xs hk => ?_, fun k id n tms code pd hk => ?_⟩
        · cases k with
          | zero =>
            simp at hk
            obtain ⟨rfl, hk⟩ := hk
            cases hk
            exact ⟨p0, h0, fun q hq => by rw [hq]; simp⟩
          | succ k =>
            rw [show k0 + (k + 1) = k0 + 1 + k by omega]
            obtain ⟨p, g1, g2⟩ := h3 k τ xs (by simpa using hk)
            exact ⟨p, g1, fun q hq => List.mem_append_right _ (g2 q hq)⟩
        · cases k with
          | zero => simp at hk
          | succ k =>
            obtain ⟨r, g1, g2⟩ := h4 k id n tms code pd (by simpa using hk)
            exact ⟨r, g1, List.mem_append_right _ g2⟩
      · cases h
    · cases h

theorem rdList_len {hp : Hp T} {τ : Nat} {a : AE} {xs : List (T τ)} {p : Option Prop} (h : rdList P E hp τ (some a) = some (xs, p)) (hp' : ∀ q, p = some q → q) :
    match a with
    | .o _ => True
    | .e => xs.length = 0
    | .s _ len => len = xs.length
    | .c _ _ _ len _ => len = xs.length := by
  cases a with
  | o id => trivial
  | e => cases h; rfl
  | s id len =>
    simp only [rdList] at h
    split at h
    · split at h
      · rename_i τ2 l _ e
        subst e
        cases h
        exact hp' _ rfl
      · cases h
    · cases h
  | c id sz off len cap =>
    simp only [rdList] at h
    split at h
    · rename_i n c d hget
      cases hb : E.ok τ && Nat.beq sz (P.cellsOf τ) && Nat.ble len cap && Nat.ble (off + cap * sz) n with
      | false => rw [hb] at h; cases h
      | true =>
        rw [hb] at h
        simp only [cond_true] at h
        split at h
        · rename_i l hl
          cases h
          have := (mapO_get hl).1
          rw [iotaFrom_length] at this
          exact this.symm
        · cases h
    · cases h

theorem rdList_at (hE : E.Good P) {hp : Hp T} (hH : HeapRel P E w M β hp.get) {τ : Nat} {a : Option AE} {xs : List (T τ)} {p : Option Prop} (h : rdList P E hp τ a = some (xs, p)) (hne : xs ≠ []) :
    ∃ ae id h0 h, a = some ae ∧ ae.id = some id ∧ Live hp.get id ∧ keyOf hp.get id = id ∧ β id = some h0 ∧ hdOf β ae = some h ∧ h.block = h0.block ∧ ListAt P E w M τ xs h := by
  cases a with
  | none => cases h
  | some a =>
  cases a with
  | o id => cases h
  | e => cases h; exact absurd rfl hne
  | s id len =>
    simp only [rdList] at h
    split at h
    · rename_i τ2 l hget
      split at h
      · rename_i e
        subst e
        cases h
        have hlive : Live hp.get id := by unfold Live; rw [hget]; exact hne
        obtain ⟨h0, g1, g2⟩ := hH.obj id _ hlive hget
        exact ⟨_, id, h0, h0, rfl, rfl, hlive, by unfold keyOf; rw [hget], g1, g1, rfl, g2⟩
      · cases h
    · cases h
  | c id sz off len cap =>
    simp only [rdList] at h
    split at h
    · rename_i n c d hget
      cases hb : E.ok τ && Nat.beq sz (P.cellsOf τ) && Nat.ble len cap && Nat.ble (off + cap * sz) n with
      | false => rw [hb] at h; cases h
      | true =>
        rw [hb] at h
        simp only [cond_true] at h
        split at h
        · rename_i l hl
          cases h
          rw [Bool.and_eq_true, Bool.and_eq_true, Bool.and_eq_true] at hb
          obtain ⟨⟨⟨hok, hsz⟩, hlc⟩, hle⟩ := hb
          have hsz := bbeq hsz
          have hlc := bble hlc
          have hle := bble hle
          have hlive : Live hp.get id := by unfold Live; rw [hget]; trivial
          obtain ⟨h0, g1, g2⟩ := hH.obj id _ hlive hget
          obtain ⟨vs, el, q1, q2, q3, q4⟩ := g2
          obtain ⟨k1, k2⟩ := mapO_get hl
          rw [iotaFrom_length] at k1
          have hmulc : xs.length * P.cellsOf τ ≤ cap * sz := by rw [k1, hsz]; exact Nat.mul_le_mul_right _ hlc
          refine ⟨_, id, h0, ⟨h0.block, h0.base + off, cap * sz⟩, rfl, rfl, hlive, by unfold keyOf; rw [hget], g1, by simp only [hdOf, g1], rfl, vs, el, q1, ?_, hmulc, hok, fun i x j c' hx hc' => ?_⟩
          · show h0.base + off + cap * sz ≤ vs.size
            omega
          · obtain ⟨i', e1, e2⟩ := k2 i x hx
            have e1 := iotaFrom_get e1
            have hi : i < xs.length := (List.getElem?_eq_some_iff.1 hx).1
            have hi' : i' = i := by omega
            subst hi'
            obtain ⟨r1, r2⟩ := (hE.dec τ _ _ x hok e2).get
            have hj : j < P.cellsOf τ := by
              rw [← hE.len τ hok x]
              exact (List.getElem?_eq_some_iff.1 hc').1
            have hmul : i' * P.cellsOf τ + P.cellsOf τ ≤ xs.length * P.cellsOf τ := by
              have := Nat.mul_le_mul_right (P.cellsOf τ) (show i' + 1 ≤ xs.length by omega)
              rw [Nat.add_mul, Nat.one_mul] at this
              exact this
            have hlt : j < (rdN c d sz (off + i' * sz)).length := by rw [rdN_length]; omega
            have hget : (rdN c d sz (off + i' * sz))[j]? = some (cellAt c d (off + i' * sz + j)) := by
              rw [List.getElem?_eq_getElem hlt]
              rw [(rdN_get c d sz (off + i' * sz) j _ (List.getElem?_eq_getElem hlt)).2]
            have hrv := q4 (off + i' * sz + j) (by rw [hsz] at hle ⊢; rw [hsz] at hmulc; omega)
            have e3 : h0.base + (off + i' * sz + j) = h0.base + off + (i' * P.cellsOf τ + j) := by rw [hsz]; omega
            rw [e3] at hrv
            exact cellTo_rv hrv (r2 j _ c' hget hc')
        · cases h
    · cases h
end

/-! ### The objects of a form -/
theorem get_deadAll : ∀ (l : List Nat) (t : Tr (AO T)) (id : Nat), (deadAll l t).get id = if id ∈ l then some .dead else t.get id
  | [], t, id => by simp [deadAll]
  | x :: l, t, id => by
    simp only [deadAll, Tr.force_eq]
    rw [Tr.get_set, get_deadAll l t id]
    by_cases h : id = x
    · rw [if_pos h, if_pos (by rw [h]; exact List.mem_cons_self ..)]
    · rw [if_neg h]
      by_cases h2 : id ∈ l
      · rw [if_pos h2, if_pos (List.mem_cons_of_mem _ h2)]
      · rw [if_neg h2, if_neg (by intro h3; rcases List.mem_cons.1 h3 with h3 | h3; exact h h3; exact h2 h3)]
/-- Which of the objects lies at a name. -/
def findLay : Nat → List (MO T) → Nat → Option (Nat × MO T)
  | _, [], _ => none
  | b, o :: os, id => match findLay (b + 1) os id with
    | some (k, x) => some (k + 1, x)
    | none => if id = o.at b then some (0, o) else none
theorem findLay_some : ∀ (os : List (MO T)) (b id : Nat) {k : Nat} {o : MO T}, findLay b os id = some (k, o) → os[k]? = some o ∧ o.at (b + k) = id
  | [], b, id, k, o, h => by cases h
  | x :: os, b, id, k, o, h => by
    simp only [findLay] at h
    split at h
    · rename_i k' x' h'
      cases h
      obtain ⟨h1, h2⟩ := findLay_some os (b + 1) id h'
      exact ⟨by simpa using h1, by rw [← h2]; congr 1; omega⟩
    · split at h
      · rename_i e
        cases h
        exact ⟨rfl, e.symm⟩
      · cases h
theorem findLay_none : ∀ (os : List (MO T)) (b id : Nat), findLay b os id = none → ∀ (k : Nat) (o : MO T), os[k]? = some o → o.at (b + k) ≠ id
  | [], b, id, h, k, o, ho => by simp at ho
  | x :: os, b, id, h, k, o, ho => by
    simp only [findLay] at h
    split at h
    · cases h
    · rename_i h'
      split at h
      · cases h
      · rename_i hne
        cases k with
        | zero =>
          simp at ho
          subst ho
          exact fun e => hne e.symm
        | succ k =>
          rw [show b + (k + 1) = b + 1 + k by omega]
          exact findLay_none os (b + 1) id h' k o (by simpa using ho)
theorem get_layObs : ∀ (os : List (MO T)) (b : Nat) (t : Tr (AO T)) (id : Nat), (layObs b os t).get id = match findLay b os id with
    | some (_, o) => some o.ao
    | none => t.get id
  | [], b, t, id => rfl
  | o :: os, b, t, id => by
    simp only [layObs, Tr.force_eq]
    rw [get_layObs os (b + 1), Tr.get_set]
    simp only [findLay]
    cases findLay (b + 1) os id with
    | some x => rfl
    | none =>
      simp only
      by_cases h : id = o.at b
      · rw [if_pos h, if_pos h]
      · rw [if_neg h, if_neg h]

theorem nmOf_at : ∀ (l : List OSh) (b k : Nat), (∀ id s, l[k]? = some (.fx id s) → nmOf l b k = id) ∧ ((∀ id s, l[k]? ≠ some (.fx id s)) → nmOf l b k = b + k)
  | [], b, k => ⟨fun id s h => by simp at h, fun _ => rfl⟩
  | .fx i s0 :: l, b, 0 => ⟨fun id s h => by simp at h; exact h.1, fun h => absurd rfl (h i s0)⟩
  | .c _ :: l, b, 0 => ⟨fun id s h => by simp at h, fun h => rfl⟩
  | .l _ :: l, b, 0 => ⟨fun id s h => by simp at h, fun h => rfl⟩
  | .fx i s0 :: l, b, k + 1 => by
    obtain ⟨h1, h2⟩ := nmOf_at l (b + 1) k
    exact ⟨fun id s h => h1 id s (by simpa using h), fun h => by rw [show b + (k + 1) = b + 1 + k by omega]; exact h2 fun id s e => h id s (by simpa using e)⟩
  | .c _ :: l, b, k + 1 => by
    obtain ⟨h1, h2⟩ := nmOf_at l (b + 1) k
    exact ⟨fun id s h => h1 id s (by simpa using h), fun h => by rw [show b + (k + 1) = b + 1 + k by omega]; exact h2 fun id s e => h id s (by simpa using e)⟩
  | .l _ :: l, b, k + 1 => by
    obtain ⟨h1, h2⟩ := nmOf_at l (b + 1) k
    exact ⟨fun id s h => h1 id s (by simpa using h), fun h => by rw [show b + (k + 1) = b + 1 + k by omega]; exact h2 fun id s e => h id s (by simpa using e)⟩
theorem mem_nmsOf : ∀ (l : List OSh) (b id : Nat), id ∈ nmsOf l b ↔ ∃ k, k < l.length ∧ nmOf l b k = id
  | [], b, id => by simp [nmsOf]
  | o :: l, b, id => by
    have key : ∀ x, (nmOf (o :: l) b 0 = x) → (∀ k, nmOf (o :: l) b (k + 1) = nmOf l (b + 1) k) → (id ∈ x :: nmsOf l (b + 1) ↔ ∃ k, k < (o :: l).length ∧ nmOf (o :: l) b k = id) := by
      intro x h1 h2
      rw [List.mem_cons, mem_nmsOf l (b + 1) id]
      constructor
      · rintro (rfl | ⟨k, hk, e⟩)
        · exact ⟨0, by simp, h1⟩
        · exact ⟨k + 1, by simpa using hk, (h2 k).trans e⟩
      · rintro ⟨k, hk, e⟩
        cases k with
        | zero => exact .inl (e.symm.trans h1)
        | succ k => exact .inr ⟨k, by simpa using hk, (h2 k).symm.trans e⟩
    cases o with
    | c ss => exact key b rfl fun _ => rfl
    | l τ => exact key b rfl fun _ => rfl
    | fx i s => exact key i rfl fun _ => rfl
theorem fxLow_at {n : Nat} : ∀ {l : List OSh}, fxLow n l = true → ∀ (k id : Nat) s, l[k]? = some (.fx id s) → id < n
  | [], _, k, id, s, h => by simp at h
  | .fx i s0 :: l, h, k, id, s, hk => by
    simp only [fxLow] at h
    cases hb : Nat.blt i n with
    | false => rw [hb] at h; cases h
    | true =>
      rw [hb] at h
      cases k with
      | zero => simp at hk; rw [← hk.1]; exact bblt hb
      | succ k => exact fxLow_at h k id s (by simpa using hk)
  | .c _ :: l, h, k, id, s, hk => by
    cases k with
    | zero => simp at hk
    | succ k => exact fxLow_at (l := l) h k id s (by simpa using hk)
  | .l _ :: l, h, k, id, s, hk => by
    cases k with
    | zero => simp at hk
    | succ k => exact fxLow_at (l := l) h k id s (by simpa using hk)
theorem fxIn_at {hp : Hp T} : ∀ {l : List OSh}, fxIn hp l = true → ∀ (k id : Nat) s, l[k]? = some (.fx id s) → hp.get id ≠ none
  | [], _, k, id, s, h => by simp at h
  | .fx i s0 :: l, h, k, id, s, hk => by
    simp only [fxIn] at h
    split at h
    · rename_i o ho
      cases k with
      | zero => simp at hk; rw [← hk.1, ho]; simp
      | succ k => exact fxIn_at h k id s (by simpa using hk)
    · cases h
  | .c _ :: l, h, k, id, s, hk => by
    cases k with
    | zero => simp at hk
    | succ k => exact fxIn_at (l := l) h k id s (by simpa using hk)
  | .l _ :: l, h, k, id, s, hk => by
    cases k with
    | zero => simp at hk
    | succ k => exact fxIn_at (l := l) h k id s (by simpa using hk)
theorem seedAs_ok : ∀ {l : List OSh} {k0 : Nat} {as as' : As}, (∀ j x, asOf j as = some x → j < k0) → seedAs k0 l as = some as' →
    RdOk as as' ∧ ∀ (k id : Nat) s, l[k]? = some (.fx id s) → asOf (k0 + k) as' = some (.o id)
  | [], k0, as, as', _, h => by cases h; exact ⟨.refl, fun k id s h => by simp at h⟩
  | .fx i s0 :: l, k0, as, as', hlow, h => by
    simp only [seedAs] at h
    cases hb : asHas i as with
    | true => rw [hb] at h; cases h
    | false =>
      rw [hb] at h
      simp only [cond_false] at h
      have hnone : asOf k0 as = none := by
        cases e : asOf k0 as with
        | none => rfl
        | some x => have := hlow k0 x e; omega
      obtain ⟨h1, h2⟩ := seedAs_ok (fun j x e => by
        rw [asOf_cons] at e
        split at e
        · omega
        · have := hlow j x e; omega) h
      have h0 : RdOk as ((k0, AE.o i) :: as) := .cons hnone (fun id e => by cases e; exact hb)
      refine ⟨h0.trans h1, fun k id s hk => ?_⟩
      cases k with
      | zero =>
        simp at hk
        rw [← hk.1]
        exact h1.le _ _ (by rw [asOf_cons, if_pos (by omega)])
      | succ k =>
        rw [show k0 + (k + 1) = k0 + 1 + k by omega]
        exact h2 k id s (by simpa using hk)
  | .c _ :: l, k0, as, as', hlow, h => by
    simp only [seedAs] at h
    obtain ⟨h1, h2⟩ := seedAs_ok (fun j x e => by have := hlow j x e; omega) h
    refine ⟨h1, fun k id s hk => ?_⟩
    cases k with
    | zero => simp at hk
    | succ k =>
      rw [show k0 + (k + 1) = k0 + 1 + k by omega]
      exact h2 k id s (by simpa using hk)
  | .l _ :: l, k0, as, as', hlow, h => by
    simp only [seedAs] at h
    obtain ⟨h1, h2⟩ := seedAs_ok (fun j x e => by have := hlow j x e; omega) h
    refine ⟨h1, fun k id s hk => ?_⟩
    cases k with
    | zero => simp at hk
    | succ k =>
      rw [show k0 + (k + 1) = k0 + 1 + k by omega]
      exact h2 k id s (by simpa using hk)

open Classical in
/-- A state of a form describes what the state that was read describes. -/
theorem Rel.canon (hE : E.Good P) {F : Fm} {st : St T} {a : Act} {w : World} {t : Tmpl} {ds : List (V T)} {ps : List Prop} {n0 : Nat} (hF : FreshF F n0) (hR : Rel P E F st a w) (h : rdSt P E t st = some (ds, ps)) (hps : ∀ p ∈ ps, p) (hlow0 : fxLow n0 t.obs = true) {base nx : Nat} {old log : List Nat}
    (hb : n0 ≤ base) (hx : base + t.obs.length ≤ nx) (hl : nx ≤ F.lim) (hold : ∀ id ∈ old, ¬ (nx ≤ id ∧ id < F.lim)) :
    ∃ st', mkSt t base nx old log ds = some st' ∧ Rel P E F st' a w := by
  obtain ⟨M, β, hR⟩ := hR
  obtain ⟨hn0, hb0, hrr, hfr⟩ := hF
  unfold rdSt at h
  cases hnt : Nat.beq st.n t.nt with
  | false => rw [hnt] at h; cases h
  | true =>
  rw [hnt] at h
  simp only [cond_true] at h
  have hnt := bbeq hnt
  split at h
  case h_2 => cases h
  rename_i as0 hseed
  split at h
  case h_2 => cases h
  rename_i v1 as1 h1
  split at h
  case h_2 => cases h
  rename_i v2 A h2
  cases hlow : asLow t.obs.length A with
  | false => rw [hlow] at h; cases h
  | true =>
  rw [hlow] at h
  simp only [cond_true] at h
  split at h
  case h_2 => cases h
  rename_i v0 ps0 h0
  cases h
  obtain ⟨s1, s2⟩ := seedAs_ok (fun j x e => by cases e) hseed
  obtain ⟨lv, e0, hlv, k0, kr⟩ := rdLists_ok h0 (v1 ++ v2)
  obtain ⟨a1, a2⟩ := rdTms_ok h1
  obtain ⟨b1, b2⟩ := rdObs_ok h2
  obtain ⟨tm', e1, k1⟩ := a2 (nmOf t.obs base) (fun k => vLen lv[k]?) v2
  obtain ⟨os, e2, e3, k2⟩ := b2 (nmOf t.obs base) (fun k => vLen lv[k]?) lv [] hlv
  rw [List.append_nil] at e2
  have hinj : AsInj A := (s1.trans (a1.trans b1)).inj fun k j x y id e => by cases e
  have hfxA : ∀ (k id : Nat) s, t.obs[k]? = some (.fx id s) → asOf k A = some (.o id) := fun k id s e => by
    have := s2 k id s e
    rw [Nat.zero_add] at this
    exact (a1.trans b1).le _ _ this
  -- the names
  generalize hnm : nmOf t.obs base = nm at *
  have hat : ∀ k, (∀ id s, t.obs[k]? = some (.fx id s) → nm k = id) ∧ ((∀ id s, t.obs[k]? ≠ some (.fx id s)) → nm k = base + k) := fun k => hnm ▸ nmOf_at t.obs base k
  have hcase : ∀ k, (∃ id s, t.obs[k]? = some (.fx id s) ∧ nm k = id ∧ id < n0) ∨ ((∀ id s, t.obs[k]? ≠ some (.fx id s)) ∧ nm k = base + k) := fun k => by
    by_cases hc : ∃ id s, t.obs[k]? = some (.fx id s)
    · obtain ⟨id, s, hc⟩ := hc
      exact .inl ⟨id, s, hc, (hat k).1 id s hc, fxLow_at hlow0 k id s hc⟩
    · have hc' : ∀ id s, t.obs[k]? ≠ some (.fx id s) := fun id s e => hc ⟨id, s, e⟩
      exact .inr ⟨hc', (hat k).2 hc'⟩
  have hnmi : ∀ k j, nm k = nm j → k = j := fun k j e => by
    rcases hcase k with ⟨i1, s1', c1, c2, c3⟩ | ⟨c1, c2⟩ <;> rcases hcase j with ⟨i2, s2', d1, d2, d3⟩ | ⟨d1, d2⟩
    · have e' : i1 = i2 := by rw [← c2, ← d2, e]
      subst e'
      exact hinj _ _ _ _ i1 (hfxA k _ _ c1) (hfxA j _ _ d1) rfl rfl
    · omega
    · omega
    · omega
  let β' : Nat → Option Hd := fun id => if h : ∃ k, k < t.obs.length ∧ nm k = id then (asOf h.choose A).bind (hdOf β) else if F.n0 ≤ id ∧ id < F.lim then none else β id
  have hβk : ∀ k, k < t.obs.length → β' (nm k) = (asOf k A).bind (hdOf β) := fun k hk => by
    have hex : ∃ j, j < t.obs.length ∧ nm j = nm k := ⟨k, hk, rfl⟩
    show (if h : ∃ j, j < t.obs.length ∧ nm j = nm k then (asOf h.choose A).bind (hdOf β) else _) = _
    rw [dif_pos hex, hnmi _ _ hex.choose_spec.2]
  have hβo : ∀ id, (∀ k, k < t.obs.length → nm k ≠ id) → β' id = if F.n0 ≤ id ∧ id < F.lim then none else β id := fun id hid => by
    show (if h : ∃ j, j < t.obs.length ∧ nm j = id then (asOf h.choose A).bind (hdOf β) else _) = _
    rw [dif_neg (fun ⟨k, hk, e⟩ => hid k hk e)]
  have hβf : ∀ (k id : Nat) s, t.obs[k]? = some (.fx id s) → β' id = β id := fun k id s e => by
    have hk := (List.getElem?_eq_some_iff.1 e).1
    have := hβk k hk
    rw [(hat k).1 id s e, hfxA k id s e] at this
    exact this
  have hos : ∀ (k : Nat) (o : MO T), os[k]? = some o → k < t.obs.length ∧ o.at (base + k) = nm k := fun k o ho => by
    have hk := (List.getElem?_eq_some_iff.1 ho).1
    have hob := k2 k o ho
    refine ⟨by omega, ?_⟩
    cases o with
    | c o => obtain ⟨⟨ss, h⟩, _⟩ := hob; exact ((hat k).2 (fun id s e => by rw [h] at e; cases e)).symm
    | l τ xs => obtain ⟨h, _⟩ := hob; exact ((hat k).2 (fun id s e => by rw [h] at e; cases e)).symm
    | f id o => obtain ⟨⟨ss, h⟩, _⟩ := hob; exact ((hat k).1 _ _ h).symm
    | r id r => obtain ⟨⟨n, tms, code, pd, h, _⟩, _⟩ := hob; exact ((hat k).1 _ _ h).symm
  have hRn : Rn A nm (fun k => vLen lv[k]?) β β' := fun k ae e1 => by
    have hk := asOf_low hlow e1
    refine ⟨fun h e2 => ?_, ?_⟩
    · rw [hβk k hk, e1]
      exact e2
    · have hob := k2 k _ (List.getElem?_eq_getElem (by omega))
      cases hm : os[k]'(by omega) with
      | c o =>
        rw [hm] at hob
        obtain ⟨_, id, n, c, d, f1, _⟩ := hob
        rw [Nat.zero_add, e1] at f1
        cases f1
        trivial
      | f id o =>
        rw [hm] at hob
        obtain ⟨⟨ss, h⟩, _⟩ := hob
        have := hfxA k _ _ h
        rw [e1] at this
        cases this
        trivial
      | r id r =>
        rw [hm] at hob
        obtain ⟨⟨n, tms, code, pd, h, _⟩, _⟩ := hob
        have := hfxA k _ _ h
        rw [e1] at this
        cases this
        trivial
      | l τ xs =>
        rw [hm] at hob
        obtain ⟨_, f1⟩ := hob
        obtain ⟨p, g1, g2⟩ := k0 k τ xs f1
        rw [Nat.zero_add, e1] at g1
        have := rdList_len g1 fun q hq => hps q (g2 q hq)
        have e : vLen lv[k]? = xs.length := by rw [f1]; rfl
        cases ae with
        | o id => trivial
        | e => exact e.trans this
        | s id len => exact this.trans e.symm
        | c id sz off len cap => exact this.trans e.symm
  let st' : St T := ⟨t.nt, tm', ⟨nx, layObs base os (deadAll old .nil), log⟩⟩
  have hget0 : ∀ id, st'.hp.get id = match findLay base os id with
      | some (_, o) => some o.ao
      | none => if id ∈ old then some .dead else none := fun id => by
    show (layObs base os (deadAll old .nil)).get id = _
    rw [get_layObs, get_deadAll, Tr.get_nil]
  have hget : ∀ (k : Nat) (o : MO T), os[k]? = some o → st'.hp.get (nm k) = some o.ao := fun k o ho => by
    rw [hget0]
    cases hf : findLay base os (nm k) with
    | none => exact absurd (hos k o ho).2 (findLay_none os base _ hf k o ho)
    | some x =>
      obtain ⟨j, o'⟩ := x
      obtain ⟨q1, q2⟩ := findLay_some os base _ hf
      have q3 := (hos j o' q1).2
      rw [q2] at q3
      have := hnmi _ _ q3
      subst this
      rw [ho] at q1
      cases q1
      rfl
  have hsome : ∀ id, st'.hp.get id ≠ none → st'.hp.get id ≠ some .dead → ∃ k o, os[k]? = some o ∧ nm k = id := fun id h1 h2 => by
    rw [hget0] at h1 h2
    cases hf : findLay base os id with
    | none =>
      rw [hf] at h1 h2
      simp only at h1 h2
      split at h2
      · exact absurd rfl h2
      · rename_i hne; rw [if_neg hne] at h1; exact absurd rfl h1
    | some x =>
      obtain ⟨j, o'⟩ := x
      obtain ⟨q1, q2⟩ := findLay_some os base _ hf
      exact ⟨j, o', q1, (hos j o' q1).2.symm.trans q2⟩
  have hLv : ∀ id, Live st'.hp.get id → ∃ k o, os[k]? = some o ∧ nm k = id := fun id hv => by
    refine hsome id (fun e => ?_) fun e => ?_
    · unfold Live at hv; rw [e] at hv; exact hv
    · unfold Live at hv; rw [e] at hv; exact hv
  have hcell : ∀ (k : Nat) (o : MO T), os[k]? = some o → Live st'.hp.get (nm k) → ∃ ae id0 h0 h, asOf k A = some ae ∧ ae.id = some id0 ∧ Live st.hp.get id0 ∧ keyOf st.hp.get id0 = id0 ∧ β id0 = some h0 ∧ h.block = h0.block ∧ β' (nm k) = some h ∧
      ObjRel P E w M β' o.ao h := by
    intro k o ho hv
    obtain ⟨hk, _⟩ := hos k o ho
    have hob := k2 k o ho
    have hβ' : ∀ {ae : AE}, asOf k A = some ae → β' (nm k) = hdOf β ae := fun {ae} e => by
      rw [hβk k hk, e]
      rfl
    unfold Live at hv
    rw [hget k o ho] at hv
    cases o with
    | c o =>
      obtain ⟨_, id0, n, c, d, f1, f2, f3, f4⟩ := hob
      rw [Nat.zero_add] at f1
      have hlive : Live st.hp.get id0 := by unfold Live; rw [f2]; trivial
      obtain ⟨h, g1, g2⟩ := hR.now.heap.obj id0 _ hlive f2
      obtain ⟨vs, el, q1, q2, q3, q4⟩ := g2
      refine ⟨.o id0, id0, h, h, f1, rfl, hlive, by unfold keyOf; rw [f2], g1, rfl, (hβ' f1).trans g1, vs, el, q1, ?_, Nat.le_refl _, fun j hj => ?_⟩
      · rw [f3]; exact q2
      · rw [ofL_get _ _ _ hj]
        have hg : o[j]? = some (o.getD j .any) := by
          rw [List.getD_eq_getElem?_getD, List.getElem?_eq_getElem hj]
          rfl
        exact f4 E w M A β β' .refl hRn j _ _ hg (q4 j (by omega))
    | f id0 o =>
      obtain ⟨⟨ss, f0⟩, n, c, d, f2, f3, f4⟩ := hob
      have f1 := hfxA k _ _ f0
      have hlive : Live st.hp.get id0 := by unfold Live; rw [f2]; trivial
      obtain ⟨h, g1, g2⟩ := hR.now.heap.obj id0 _ hlive f2
      obtain ⟨vs, el, q1, q2, q3, q4⟩ := g2
      refine ⟨.o id0, id0, h, h, f1, rfl, hlive, by unfold keyOf; rw [f2], g1, rfl, (hβ' f1).trans g1, vs, el, q1, ?_, Nat.le_refl _, fun j hj => ?_⟩
      · rw [f3]; exact q2
      · rw [ofL_get _ _ _ hj]
        have hg : o[j]? = some (o.getD j .any) := by
          rw [List.getD_eq_getElem?_getD, List.getElem?_eq_getElem hj]
          rfl
        exact f4 E w M A β β' .refl hRn j _ _ hg (q4 j (by omega))
    | r id0 r =>
      obtain ⟨⟨n, tms, code, pd, f0, fc⟩, r0, f2, f3, f4, f5, f6⟩ := hob
      have f1 := hfxA k _ _ f0
      have hlive : Live st.hp.get id0 := by unfold Live; rw [f2]; trivial
      obtain ⟨h, g1, lp, g2, g3, g4, g5, g6, g7, g8⟩ := hR.now.heap.obj id0 _ hlive f2
      obtain ⟨r1, hr1, hrec⟩ := kr k _ _ _ _ _ f0
      rw [f2] at hr1
      cases hr1
      have hrec := hps _ hrec
      have e : (⟨r.params, r.assign, r.body⟩ : RfCode) = ⟨r0.params, r0.assign, r0.body⟩ := Eq.trans fc (Eq.symm hrec)
      simp only [RfCode.mk.injEq] at e
      refine ⟨.o id0, id0, h, h, f1, rfl, hlive, by unfold keyOf; rw [f2], g1, rfl, (hβ' f1).trans g1, lp, g2, by rw [g3, f3], by rw [g4, f4], by rw [g5, e.1], by rw [g6, e.2.1], by rw [g7, e.2.2], by rw [f5]; exact g8.1, fun j => ?_⟩
      exact f6 E w M A β β' .refl hRn j _ (g8.2 j)
    | l τ xs =>
      obtain ⟨_, f1⟩ := hob
      obtain ⟨p, g1, g2⟩ := k0 _ τ xs f1
      rw [Nat.zero_add] at g1
      obtain ⟨ae, id0, h0, h, r1, r2, r3, r4, r5, r6, r7, r8⟩ := rdList_at hE hR.now.heap g1 hv
      exact ⟨ae, id0, h0, h, r1, r2, r3, r4, r5, r7, (hβ' r1).trans r6, r8⟩
  have hkey : ∀ id, Live st'.hp.get id → keyOf st'.hp.get id = id := fun id hv => by
    obtain ⟨k, o, ho, rfl⟩ := hLv id hv
    unfold keyOf
    rw [hget k o ho]
    cases o <;> rfl
  have hnf : ∀ {f hd sh}, st'.hp.get f ≠ some (.fam hd sh) := fun {f hd sh} hf => by
    obtain ⟨k, o, ho, rfl⟩ := hsome f (by rw [hf]; simp) (by rw [hf]; simp)
    rw [hget k o ho] at hf
    cases o <;> cases hf
  refine ⟨st', ?_, M, β', hR.defers, ?_, hR.nb0, ⟨⟨?_, ?_, ?_, ?_⟩, hR.now.nb, ?_, ?_⟩, ⟨?_, ?_⟩, ?_, ?_⟩
  · unfold mkSt
    rw [e0]
    simp only [hnm, e1, e2, Tr.force_eq]
    rfl
  · -- evo
    refine ⟨hR.evo.os, hR.evo.tape, hR.evo.output, hR.evo.size, hR.evo.old, hR.evo.mutb, hR.evo.keep, ?_, ?_, ?_⟩
    · rintro b ⟨id, h, l1, l2, l3⟩
      obtain ⟨k, o, ho, rfl⟩ := hLv id l1
      obtain ⟨ae, id0, h0, h', f1, f2, f3, f4, f5, f6, f7, _⟩ := hcell k o ho l1
      rw [l2] at f7
      cases f7
      exact hR.evo.own b ⟨id0, h0, f3, f5, f6 ▸ l3⟩
    · intro id h e
      have hne : ¬ (F.n0 ≤ id ∧ id < F.lim) := fun hc => by rw [hfr id hc.1 hc.2] at e; cases e
      by_cases hc : ∃ k, k < t.obs.length ∧ nm k = id
      · obtain ⟨k, hk, rfl⟩ := hc
        rcases hcase k with ⟨i1, s1', c1, c2, c3⟩ | ⟨c1, c2⟩
        · rw [c2] at e ⊢
          rw [hβf k i1 s1' c1]
          exact hR.evo.hd i1 h e
        · omega
      · rw [hβo id (fun k hk e => hc ⟨k, hk, e⟩), if_neg hne]
        exact hR.evo.hd id h e
    · intro id h e
      by_cases hc : F.n0 ≤ id ∧ id < F.lim
      · exact .inr hc
      · by_cases hc2 : ∃ k, k < t.obs.length ∧ nm k = id
        · obtain ⟨k, hk, rfl⟩ := hc2
          rcases hcase k with ⟨i1, s1', c1, c2, c3⟩ | ⟨c1, c2⟩
          · rw [c2] at e ⊢
            rw [hβf k i1 s1' c1] at e
            exact hR.evo.nm i1 h e
          · omega
        · rw [hβo id (fun k hk e => hc2 ⟨k, hk, e⟩), if_neg hc] at e
          exact hR.evo.nm id h e
  · -- obj
    intro id o hv ho
    obtain ⟨k, o', ho', rfl⟩ := hLv id hv
    obtain ⟨ae, id0, h0, h, f1, f2, f3, f4, f5, f6, f7, f8⟩ := hcell k o' ho' hv
    rw [hget k o' ho'] at ho
    cases ho
    exact ⟨h, f7, f8⟩
  · -- inj
    intro i j hi hj l1 l2 hne e1 e2
    rw [hkey i l1, hkey j l2] at hne
    obtain ⟨k, o, ho, rfl⟩ := hLv i l1
    obtain ⟨k', o', ho', rfl⟩ := hLv j l2
    obtain ⟨ai, i0, hi0, h1, f1, f2, f3, f4, f5, f6, f7, _⟩ := hcell k o ho l1
    obtain ⟨aj, j0, hj0, h2, g1, g2, g3, g4, g5, g6, g7, _⟩ := hcell k' o' ho' l2
    rw [e1] at f7; cases f7
    rw [e2] at g7; cases g7
    rw [f6, g6]
    refine hR.now.heap.inj i0 j0 hi0 hj0 f3 g3 (fun e => ?_) f5 g5
    rw [f4, g4] at e
    subst e
    exact hne (by rw [hinj _ _ _ _ _ f1 g1 f2 g2])
  · -- own
    intro i h l1 e
    obtain ⟨k, o, ho, rfl⟩ := hLv i l1
    obtain ⟨ai, i0, hi0, h1, f1, f2, f3, f4, f5, f6, f7, _⟩ := hcell k o ho l1
    rw [e] at f7; cases f7
    rw [f6]
    exact hR.now.heap.own i0 hi0 f3 f5
  · -- shade
    intro f hd s sh nh ns ch cs dh ds' hh hs hf
    exact absurd hf hnf
  · -- free
    intro id h1 h2
    have h1 : nx ≤ id := h1
    have hno : ∀ k, k < t.obs.length → nm k ≠ id := fun k hk e => by
      rcases hcase k with ⟨i1, s1', c1, c2, c3⟩ | ⟨c1, c2⟩ <;> omega
    constructor
    · rw [hβo id hno, if_pos (by omega)]
    · rw [hget0]
      cases hf : findLay base os id with
      | none =>
        simp only
        rw [if_neg (fun hm => hold id hm ⟨h1, h2⟩)]
      | some x =>
        obtain ⟨j, o'⟩ := x
        obtain ⟨q1, q2⟩ := findLay_some os base _ hf
        obtain ⟨q3, q4⟩ := hos j o' q1
        exact absurd (q4.symm.trans q2) (hno j q3)
  · -- nomem
    intro f hd s sh hf
    exact absurd hf hnf
  · show t.nt = _
    rw [← hnt]
    exact hR.tmps.1
  · intro j
    exact k1 E w M A β β' b1.le hRn j _ (hR.tmps.2 j)
  · intro p e
    rw [hrr] at e
    cases e
  · show F.n0 ≤ nx
    omega
end Go.Cx
