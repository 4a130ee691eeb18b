/- The types of the program as Lean has them, and the numbers of its functions. -/
import Derived.Test.YtfajcbcjinabiaaRows
import Derived.Test.YtfajcbcjinabiaaCz5
set_option linter.unusedVariables false
noncomputable section
namespace Go.Proofs.Ytfajcbcjinabiaa.W
open Go Go.Cx Go.RowKit Go.ChangeShapes Go.WideShapes

/-- type 77: moonpool/api.Seg -/
structure Seg where
  Long : Int
  Rise : Int
  Area : Int
  Gap : Int

/-- type 135: moonpool/api.Knot -/
structure Knot where
  At : Int
  V : Int

/-- type 125: moonpool/api.Line -/
structure Line where
  Knots : List Knot

/-- type 127: moonpool/api.Stress -/
structure Stress where
  In : Line
  Out : Line

/-- type 129: moonpool/api.Grade -/
structure Grade where
  Burst : Int
  Collapse : Int
  Pull : Int
  Weight : Int
  Cost : Int

/-- type 131: moonpool/api.Test -/
structure Test where
  P : Int
  Held : Bool
  Tick : Int

/-- type 133: moonpool/api.Sensor -/
structure Sensor where
  Channel : Int
  Period : Int
  Delay : Int
  Noise : Int
  Step : Int
  Lost : Int
  Limit : Int
  Hold : Int

/-- type 23: moonpool/api.Mud -/
structure Mud where
  Yield : Int
  Visc : Int

/-- type 28: moonpool/api.Job -/
structure Job where
  Ends : List Int
  Loads : List Stress
  Grades : List Grade
  Factor : Int
  Over : Int

/-- type 32: moonpool/api.Range -/
structure Range where
  Lo : Int
  Hi : Int

/-- type 34: moonpool/api.Kicks -/
structure Kicks where
  Rate : Range
  Grow : Range

/-- type 37: moonpool/api.Hole -/
structure Hole where
  Segs : List Seg

/-- type 40: moonpool/api.Well -/
structure Well where
  Hole : Hole
  Weight : Int
  Points : List Knot
  Limit : Int
  Pipe : Int
  Step : Int

/-- type 42: moonpool/api.Program -/
structure Program where
  Kind : Int
  Weight : Int
  Margin : Int
  Err : Int

/-- type 44: moonpool/api.Phase -/
structure Phase where
  Tick : Int
  Age : Int
  Shoe : Int
  To : Int
  Sea : Int
  Light : Int
  Weight : Int
  Top : Int
  Long : Int
  Area : Int
  Gap : Int
  Mud : Mud
  Flow : Int
  Job : Job
  Stack : List Test
  Cased : List Test
  Sensors : List Sensor
  Kicks : Kicks
  Notice : Int
  Well : Well
  Program : Program
  Volumes : List Int
  Pores : List Int

/-- type 53: moonpool/api.Blow -/
structure Blow where
  Lost : List Bool
  Moves : List (List Int)

/-- type 97: moonpool/whole.Wide -/
structure Wide where
  Hi : Int
  Lo : Int

def T : Nat → Type
  | 2 => Int
  | 3 => Int
  | 4 => Bool
  | 54 => List Int
  | 77 => Seg
  | 127 => Stress
  | 129 => Grade
  | 131 => Test
  | 133 => Sensor
  | 135 => Knot
  | _ => Unit

def okT (τ : Nat) : Bool := memN τ [2, 3, 4, 54, 77, 127, 129, 131, 133, 135]
def encT : (τ : Nat) → T τ → List (AV T)
  | 2, (x : Int) => [.sym .i64 x]
  | 3, (x : Int) => [.sym .i64 x]
  | 4, (x : Bool) => [.bool x]
  | 54, (x : List Int) => [.sl 3 x false]
  | 77, (x : Seg) => [.sym .i64 x.Long, .sym .i64 x.Rise, .sym .i64 x.Area, .sym .i64 x.Gap]
  | 127, (x : Stress) => [.sl 135 x.In.Knots false, .sl 135 x.Out.Knots false]
  | 129, (x : Grade) => [.sym .i64 x.Burst, .sym .i64 x.Collapse, .sym .i64 x.Pull, .sym .i64 x.Weight, .sym .i64 x.Cost]
  | 131, (x : Test) => [.sym .i64 x.P, .bool x.Held, .sym .i64 x.Tick]
  | 133, (x : Sensor) => [.sym .i64 x.Channel, .sym .i64 x.Period, .sym .i64 x.Delay, .sym .i64 x.Noise, .sym .i64 x.Step, .sym .i64 x.Lost, .sym .i64 x.Limit, .sym .i64 x.Hold]
  | 135, (x : Knot) => [.sym .i64 x.At, .sym .i64 x.V]
  | _, _ => []

def decT : (τ : Nat) → ((σ : Nat) → AV T → Option (List (T σ))) → List (AV T) → Option (T τ)
  | 2, fz, [c0] => ((decI .i64 c0).bind fun x0 => some (x0 : Int) : Option Int)
  | 3, fz, [c0] => ((decI .i64 c0).bind fun x0 => some (x0 : Int) : Option Int)
  | 4, fz, [c0] => ((asB c0).bind fun x0 => some (x0 : Bool) : Option Bool)
  | 54, fz, [c0] => ((fz 3 c0).bind fun x0 => some (x0 : List Int) : Option (List Int))
  | 77, fz, [c0, c1, c2, c3] => ((decI .i64 c0).bind fun x0 => (decI .i64 c1).bind fun x1 => (decI .i64 c2).bind fun x2 => (decI .i64 c3).bind fun x3 => some (⟨x0, x1, x2, x3⟩ : Seg) : Option Seg)
  | 127, fz, [c0, c1] => ((fz 135 c0).bind fun x0 => (fz 135 c1).bind fun x1 => some (⟨(⟨x0⟩ : Line), (⟨x1⟩ : Line)⟩ : Stress) : Option Stress)
  | 129, fz, [c0, c1, c2, c3, c4] => ((decI .i64 c0).bind fun x0 => (decI .i64 c1).bind fun x1 => (decI .i64 c2).bind fun x2 => (decI .i64 c3).bind fun x3 => (decI .i64 c4).bind fun x4 => some (⟨x0, x1, x2, x3, x4⟩ : Grade) : Option Grade)
  | 131, fz, [c0, c1, c2] => ((decI .i64 c0).bind fun x0 => (asB c1).bind fun x1 => (decI .i64 c2).bind fun x2 => some (⟨x0, x1, x2⟩ : Test) : Option Test)
  | 133, fz, [c0, c1, c2, c3, c4, c5, c6, c7] => ((decI .i64 c0).bind fun x0 => (decI .i64 c1).bind fun x1 => (decI .i64 c2).bind fun x2 => (decI .i64 c3).bind fun x3 => (decI .i64 c4).bind fun x4 => (decI .i64 c5).bind fun x5 => (decI .i64 c6).bind fun x6 => (decI .i64 c7).bind fun x7 => some (⟨x0, x1, x2, x3, x4, x5, x6, x7⟩ : Sensor) : Option Sensor)
  | 135, fz, [c0, c1] => ((decI .i64 c0).bind fun x0 => (decI .i64 c1).bind fun x1 => some (⟨x0, x1⟩ : Knot) : Option Knot)
  | _, _, _ => none

def dT : (τ : Nat) → T τ
  | 2 => (0 : Int)
  | 3 => (0 : Int)
  | 4 => (false : Bool)
  | 54 => ([] : List Int)
  | 77 => (⟨0, 0, 0, 0⟩ : Seg)
  | 127 => (⟨⟨[]⟩, ⟨[]⟩⟩ : Stress)
  | 129 => (⟨0, 0, 0, 0, 0⟩ : Grade)
  | 131 => (⟨0, false, 0⟩ : Test)
  | 133 => (⟨0, 0, 0, 0, 0, 0, 0, 0⟩ : Sensor)
  | 135 => (⟨0, 0⟩ : Knot)
  | n => by
    unfold T
    split <;> first | exact () | exact (0 : Int) | exact ([] : List Int) | exact (false : Bool) | exact (⟨0, 0, 0, 0, 0, 0, 0, 0⟩ : Sensor) | exact (⟨0, 0, 0, 0, 0⟩ : Grade) | exact (⟨0, 0, 0, 0⟩ : Seg) | exact (⟨0, 0⟩ : Knot) | exact (⟨0, false, 0⟩ : Test) | exact (⟨⟨[]⟩, ⟨[]⟩⟩ : Stress)
def E : Enc T := ⟨okT, encT, dT, fun t => bif Try.prog.eqGuardType Try.prog.depth t then false else bif Try.prog.stoodInHeld t then false else true, decT⟩
theorem ok_cases {τ : Nat} (h : E.ok τ = true) : τ = 2 ∨ τ = 3 ∨ τ = 4 ∨ τ = 54 ∨ τ = 77 ∨ τ = 127 ∨ τ = 129 ∨ τ = 131 ∨ τ = 133 ∨ τ = 135 := by
  have h := memN_iff.1 (show memN τ [2, 3, 4, 54, 77, 127, 129, 131, 133, 135] = true from h)
  simpa only [List.mem_cons, List.mem_nil_iff, or_false] using h
set_option maxHeartbeats 4000000 in
theorem decOk : E.DecOk Try.prog := by
  intro τ fz cs x h hd
  rcases ok_cases h with rfl | rfl | rfl | rfl | rfl | rfl | rfl | rfl | rfl | rfl
  · match cs, hd with
    | [c0], hd =>
      have hd : ((decI .i64 c0).bind fun x0 => some (x0 : Int)) = some x := hd
      obtain ⟨x0, h0, hd⟩ := Option.bind_eq_some_iff.1 hd
      cases hd
      exact ⟨decI_to h0, trivial⟩
  · match cs, hd with
    | [c0], hd =>
      have hd : ((decI .i64 c0).bind fun x0 => some (x0 : Int)) = some x := hd
      obtain ⟨x0, h0, hd⟩ := Option.bind_eq_some_iff.1 hd
      cases hd
      exact ⟨decI_to h0, trivial⟩
  · match cs, hd with
    | [c0], hd =>
      have hd : ((asB c0).bind fun x0 => some (x0 : Bool)) = some x := hd
      obtain ⟨x0, h0, hd⟩ := Option.bind_eq_some_iff.1 hd
      cases hd
      exact ⟨asB_to h0, trivial⟩
  · match cs, hd with
    | [c0], hd =>
      have hd : ((fz 3 c0).bind fun x0 => some (x0 : List Int)) = some x := hd
      obtain ⟨x0, h0, hd⟩ := Option.bind_eq_some_iff.1 hd
      cases hd
      exact ⟨fz_to h0, trivial⟩
  · match cs, hd with
    | [c0, c1, c2, c3], hd =>
      have hd : ((decI .i64 c0).bind fun x0 => (decI .i64 c1).bind fun x1 => (decI .i64 c2).bind fun x2 => (decI .i64 c3).bind fun x3 => some (⟨x0, x1, x2, x3⟩ : Seg)) = some x := hd
      obtain ⟨x0, h0, hd⟩ := Option.bind_eq_some_iff.1 hd
      obtain ⟨x1, h1, hd⟩ := Option.bind_eq_some_iff.1 hd
      obtain ⟨x2, h2, hd⟩ := Option.bind_eq_some_iff.1 hd
      obtain ⟨x3, h3, hd⟩ := Option.bind_eq_some_iff.1 hd
      cases hd
      exact ⟨decI_to h0, decI_to h1, decI_to h2, decI_to h3, trivial⟩
  · match cs, hd with
    | [c0, c1], hd =>
      have hd : ((fz 135 c0).bind fun x0 => (fz 135 c1).bind fun x1 => some (⟨(⟨x0⟩ : Line), (⟨x1⟩ : Line)⟩ : Stress)) = some x := hd
      obtain ⟨x0, h0, hd⟩ := Option.bind_eq_some_iff.1 hd
      obtain ⟨x1, h1, hd⟩ := Option.bind_eq_some_iff.1 hd
      cases hd
      exact ⟨fz_to h0, fz_to h1, trivial⟩
  · match cs, hd with
    | [c0, c1, c2, c3, c4], hd =>
      have hd : ((decI .i64 c0).bind fun x0 => (decI .i64 c1).bind fun x1 => (decI .i64 c2).bind fun x2 => (decI .i64 c3).bind fun x3 => (decI .i64 c4).bind fun x4 => some (⟨x0, x1, x2, x3, x4⟩ : Grade)) = some x := hd
      obtain ⟨x0, h0, hd⟩ := Option.bind_eq_some_iff.1 hd
      obtain ⟨x1, h1, hd⟩ := Option.bind_eq_some_iff.1 hd
      obtain ⟨x2, h2, hd⟩ := Option.bind_eq_some_iff.1 hd
      obtain ⟨x3, h3, hd⟩ := Option.bind_eq_some_iff.1 hd
      obtain ⟨x4, h4, hd⟩ := Option.bind_eq_some_iff.1 hd
      cases hd
      exact ⟨decI_to h0, decI_to h1, decI_to h2, decI_to h3, decI_to h4, trivial⟩
  · match cs, hd with
    | [c0, c1, c2], hd =>
      have hd : ((decI .i64 c0).bind fun x0 => (asB c1).bind fun x1 => (decI .i64 c2).bind fun x2 => some (⟨x0, x1, x2⟩ : Test)) = some x := hd
      obtain ⟨x0, h0, hd⟩ := Option.bind_eq_some_iff.1 hd
      obtain ⟨x1, h1, hd⟩ := Option.bind_eq_some_iff.1 hd
      obtain ⟨x2, h2, hd⟩ := Option.bind_eq_some_iff.1 hd
      cases hd
      exact ⟨decI_to h0, asB_to h1, decI_to h2, trivial⟩
  · match cs, hd with
    | [c0, c1, c2, c3, c4, c5, c6, c7], hd =>
      have hd : ((decI .i64 c0).bind fun x0 => (decI .i64 c1).bind fun x1 => (decI .i64 c2).bind fun x2 => (decI .i64 c3).bind fun x3 => (decI .i64 c4).bind fun x4 => (decI .i64 c5).bind fun x5 => (decI .i64 c6).bind fun x6 => (decI .i64 c7).bind fun x7 => some (⟨x0, x1, x2, x3, x4, x5, x6, x7⟩ : Sensor)) = some x := hd
      obtain ⟨x0, h0, hd⟩ := Option.bind_eq_some_iff.1 hd
      obtain ⟨x1, h1, hd⟩ := Option.bind_eq_some_iff.1 hd
      obtain ⟨x2, h2, hd⟩ := Option.bind_eq_some_iff.1 hd
      obtain ⟨x3, h3, hd⟩ := Option.bind_eq_some_iff.1 hd
      obtain ⟨x4, h4, hd⟩ := Option.bind_eq_some_iff.1 hd
      obtain ⟨x5, h5, hd⟩ := Option.bind_eq_some_iff.1 hd
      obtain ⟨x6, h6, hd⟩ := Option.bind_eq_some_iff.1 hd
      obtain ⟨x7, h7, hd⟩ := Option.bind_eq_some_iff.1 hd
      cases hd
      exact ⟨decI_to h0, decI_to h1, decI_to h2, decI_to h3, decI_to h4, decI_to h5, decI_to h6, decI_to h7, trivial⟩
  · match cs, hd with
    | [c0, c1], hd =>
      have hd : ((decI .i64 c0).bind fun x0 => (decI .i64 c1).bind fun x1 => some (⟨x0, x1⟩ : Knot)) = some x := hd
      obtain ⟨x0, h0, hd⟩ := Option.bind_eq_some_iff.1 hd
      obtain ⟨x1, h1, hd⟩ := Option.bind_eq_some_iff.1 hd
      cases hd
      exact ⟨decI_to h0, decI_to h1, trivial⟩
set_option maxRecDepth 100000 in
theorem good : E.Good Try.prog := by
  refine ⟨fun τ h => ?_, fun τ h => ?_, fun τ h => ?_, fun t h => ?_, decOk⟩
  · rcases ok_cases h with rfl | rfl | rfl | rfl | rfl | rfl | rfl | rfl | rfl | rfl
    · intro x; exact (show 1 = Try.prog.cellsOf 2 by kernel_rfl)
    · intro x; exact (show 1 = Try.prog.cellsOf 3 by kernel_rfl)
    · intro x; exact (show 1 = Try.prog.cellsOf 4 by kernel_rfl)
    · intro x; exact (show 1 = Try.prog.cellsOf 54 by kernel_rfl)
    · intro x; exact (show 4 = Try.prog.cellsOf 77 by kernel_rfl)
    · intro x; exact (show 2 = Try.prog.cellsOf 127 by kernel_rfl)
    · intro x; exact (show 5 = Try.prog.cellsOf 129 by kernel_rfl)
    · intro x; exact (show 3 = Try.prog.cellsOf 131 by kernel_rfl)
    · intro x; exact (show 8 = Try.prog.cellsOf 133 by kernel_rfl)
    · intro x; exact (show 2 = Try.prog.cellsOf 135 by kernel_rfl)
  · rcases ok_cases h with rfl | rfl | rfl | rfl | rfl | rfl | rfl | rfl | rfl | rfl
    · exact (Nat.lt_of_lt_of_eq (by decide : 0 < 1) (show 1 = Try.prog.cellsOf 2 by kernel_rfl))
    · exact (Nat.lt_of_lt_of_eq (by decide : 0 < 1) (show 1 = Try.prog.cellsOf 3 by kernel_rfl))
    · exact (Nat.lt_of_lt_of_eq (by decide : 0 < 1) (show 1 = Try.prog.cellsOf 4 by kernel_rfl))
    · exact (Nat.lt_of_lt_of_eq (by decide : 0 < 1) (show 1 = Try.prog.cellsOf 54 by kernel_rfl))
    · exact (Nat.lt_of_lt_of_eq (by decide : 0 < 4) (show 4 = Try.prog.cellsOf 77 by kernel_rfl))
    · exact (Nat.lt_of_lt_of_eq (by decide : 0 < 2) (show 2 = Try.prog.cellsOf 127 by kernel_rfl))
    · exact (Nat.lt_of_lt_of_eq (by decide : 0 < 5) (show 5 = Try.prog.cellsOf 129 by kernel_rfl))
    · exact (Nat.lt_of_lt_of_eq (by decide : 0 < 3) (show 3 = Try.prog.cellsOf 131 by kernel_rfl))
    · exact (Nat.lt_of_lt_of_eq (by decide : 0 < 8) (show 8 = Try.prog.cellsOf 133 by kernel_rfl))
    · exact (Nat.lt_of_lt_of_eq (by decide : 0 < 2) (show 2 = Try.prog.cellsOf 135 by kernel_rfl))
  · rcases ok_cases h with rfl | rfl | rfl | rfl | rfl | rfl | rfl | rfl | rfl | rfl
    · intro x; rfl
    · intro x; rfl
    · intro x; rfl
    · intro x; rfl
    · intro x; rfl
    · intro x; rfl
    · intro x; rfl
    · intro x; rfl
    · intro x; rfl
    · intro x; rfl
  · have h : (bif Try.prog.eqGuardType Try.prog.depth t then false else bif Try.prog.stoodInHeld t then false else true) = true := h
    cases h1 : Try.prog.eqGuardType Try.prog.depth t with
    | true => rw [h1] at h; cases h
    | false =>
      cases h2 : Try.prog.stoodInHeld t with
      | true => rw [h1, h2] at h; cases h
      | false => exact ⟨rfl, rfl⟩
instance goodP : Go.Cx.GoodP Try.prog E := ⟨good⟩
theorem own : ownKnob Try.prog.godebug = none := by kernel_rfl
theorem mixes : Try.prog.follows .mixedOrders = true := by kernel_rfl
theorem named : Try.prog.funcs.all (fun fn => !(fn.name == "runtime.NumGoroutine")) = true := by kernel_rfl
theorem names : NamesOk Try.prog := fun f fn h => by
  have := Array.all_eq_true_iff_forall_mem.1 named fn (Array.mem_of_getElem? h)
  simpa using this
set_option maxRecDepth 100000
def Mud.ok (x : Mud) : Prop := InK .i64 (x.Yield) ∧ InK .i64 (x.Visc) ∧ True
def Mud.cs (x : Mud) : List (AV T) := [.sym .i64 x.Yield, .sym .i64 x.Visc]
def Mud.av (x : Mud) : AV T := .agg x.cs
theorem readC23 {w : World} : RdT Try.prog E w 23 Mud.ok Mud.cs :=
  (rdT_struct Try.underlying23 (rdF_cons (off := 0) (off' := 1) rfl (show 0 + Try.prog.cellsOf 2 = 1 by kernel_rfl) (rdT_int Try.underlying2) (rdF_cons (off := 1) (off' := 2) rfl (show 1 + Try.prog.cellsOf 2 = 2 by kernel_rfl) (rdT_int Try.underlying2) (rdF_nil (Nat.le_of_eq (show Try.prog.cellsOf 23 = 2 by kernel_rfl)))))).map (fun p => (⟨p.1, p.2.1⟩ : Mud)) (fun p h => h) (fun p => rfl)
theorem read2 {w : World} : RdT Try.prog E w 2 (fun x : Int => InK .i64 (x)) (E.enc 2) := (rdT_int Try.underlying2)
def Knot.ok (x : Knot) : Prop := InK .i64 (x.At) ∧ InK .i64 (x.V) ∧ True
def Knot.cs (x : Knot) : List (AV T) := [.sym .i64 x.At, .sym .i64 x.V]
def Knot.av (x : Knot) : AV T := .agg x.cs
theorem readC135 {w : World} : RdT Try.prog E w 135 Knot.ok Knot.cs :=
  (rdT_struct Try.underlying135 (rdF_cons (off := 0) (off' := 1) rfl (show 0 + Try.prog.cellsOf 2 = 1 by kernel_rfl) (rdT_int Try.underlying2) (rdF_cons (off := 1) (off' := 2) rfl (show 1 + Try.prog.cellsOf 2 = 2 by kernel_rfl) (rdT_int Try.underlying2) (rdF_nil (Nat.le_of_eq (show Try.prog.cellsOf 135 = 2 by kernel_rfl)))))).map (fun p => (⟨p.1, p.2.1⟩ : Knot)) (fun p h => h) (fun p => rfl)
theorem read135 {w : World} : RdT Try.prog E w 135 (fun x : Knot => Knot.ok x) (E.enc 135) := readC135
def Line.ok (x : Line) : Prop := ((∀ y ∈ x.Knots, Knot.ok y) ∧ (x.Knots).length ≤ maxLen) ∧ True
def Line.cs (x : Line) : List (AV T) := [.sl 135 x.Knots false]
def Line.av (x : Line) : AV T := .agg x.cs
theorem readC125 {w : World} : RdT Try.prog E w 125 Line.ok Line.cs :=
  (rdT_struct Try.underlying125 (rdF_cons (off := 0) (off' := 1) rfl (show 0 + Try.prog.cellsOf 38 = 1 by kernel_rfl) (rdT_slice good Try.underlying38 rfl read135) (rdF_nil (Nat.le_of_eq (show Try.prog.cellsOf 125 = 1 by kernel_rfl))))).map (fun p => (⟨p.1⟩ : Line)) (fun p h => h) (fun p => rfl)
def Stress.ok (x : Stress) : Prop := Line.ok x.In ∧ Line.ok x.Out ∧ True
def Stress.cs (x : Stress) : List (AV T) := [.sl 135 x.In.Knots false, .sl 135 x.Out.Knots false]
def Stress.av (x : Stress) : AV T := .agg x.cs
theorem readC127 {w : World} : RdT Try.prog E w 127 Stress.ok Stress.cs :=
  (rdT_struct Try.underlying127 (rdF_cons (off := 0) (off' := 1) rfl (show 0 + Try.prog.cellsOf 125 = 1 by kernel_rfl) readC125 (rdF_cons (off := 1) (off' := 2) rfl (show 1 + Try.prog.cellsOf 125 = 2 by kernel_rfl) readC125 (rdF_nil (Nat.le_of_eq (show Try.prog.cellsOf 127 = 2 by kernel_rfl)))))).map (fun p => (⟨p.1, p.2.1⟩ : Stress)) (fun p h => h) (fun p => rfl)
theorem read127 {w : World} : RdT Try.prog E w 127 (fun x : Stress => Stress.ok x) (E.enc 127) := readC127
def Grade.ok (x : Grade) : Prop := InK .i64 (x.Burst) ∧ InK .i64 (x.Collapse) ∧ InK .i64 (x.Pull) ∧ InK .i64 (x.Weight) ∧ InK .i64 (x.Cost) ∧ True
def Grade.cs (x : Grade) : List (AV T) := [.sym .i64 x.Burst, .sym .i64 x.Collapse, .sym .i64 x.Pull, .sym .i64 x.Weight, .sym .i64 x.Cost]
def Grade.av (x : Grade) : AV T := .agg x.cs
theorem readC129 {w : World} : RdT Try.prog E w 129 Grade.ok Grade.cs :=
  (rdT_struct Try.underlying129 (rdF_cons (off := 0) (off' := 1) rfl (show 0 + Try.prog.cellsOf 2 = 1 by kernel_rfl) (rdT_int Try.underlying2) (rdF_cons (off := 1) (off' := 2) rfl (show 1 + Try.prog.cellsOf 2 = 2 by kernel_rfl) (rdT_int Try.underlying2) (rdF_cons (off := 2) (off' := 3) rfl (show 2 + Try.prog.cellsOf 2 = 3 by kernel_rfl) (rdT_int Try.underlying2) (rdF_cons (off := 3) (off' := 4) rfl (show 3 + Try.prog.cellsOf 2 = 4 by kernel_rfl) (rdT_int Try.underlying2) (rdF_cons (off := 4) (off' := 5) rfl (show 4 + Try.prog.cellsOf 2 = 5 by kernel_rfl) (rdT_int Try.underlying2) (rdF_nil (Nat.le_of_eq (show Try.prog.cellsOf 129 = 5 by kernel_rfl))))))))).map (fun p => (⟨p.1, p.2.1, p.2.2.1, p.2.2.2.1, p.2.2.2.2.1⟩ : Grade)) (fun p h => h) (fun p => rfl)
theorem read129 {w : World} : RdT Try.prog E w 129 (fun x : Grade => Grade.ok x) (E.enc 129) := readC129
def Job.ok (x : Job) : Prop := ((∀ y ∈ x.Ends, InK .i64 (y)) ∧ (x.Ends).length ≤ maxLen) ∧ ((∀ y ∈ x.Loads, Stress.ok y) ∧ (x.Loads).length ≤ maxLen) ∧ ((∀ y ∈ x.Grades, Grade.ok y) ∧ (x.Grades).length ≤ maxLen) ∧ InK .i64 (x.Factor) ∧ InK .i64 (x.Over) ∧ True
def Job.cs (x : Job) : List (AV T) := [.sl 2 x.Ends false, .sl 127 x.Loads false, .sl 129 x.Grades false, .sym .i64 x.Factor, .sym .i64 x.Over]
def Job.av (x : Job) : AV T := .agg x.cs
theorem readC28 {w : World} : RdT Try.prog E w 28 Job.ok Job.cs :=
  (rdT_struct Try.underlying28 (rdF_cons (off := 0) (off' := 1) rfl (show 0 + Try.prog.cellsOf 24 = 1 by kernel_rfl) (rdT_slice good Try.underlying24 rfl read2) (rdF_cons (off := 1) (off' := 2) rfl (show 1 + Try.prog.cellsOf 25 = 2 by kernel_rfl) (rdT_slice good Try.underlying25 rfl read127) (rdF_cons (off := 2) (off' := 3) rfl (show 2 + Try.prog.cellsOf 26 = 3 by kernel_rfl) (rdT_slice good Try.underlying26 rfl read129) (rdF_cons (off := 3) (off' := 4) rfl (show 3 + Try.prog.cellsOf 2 = 4 by kernel_rfl) (rdT_int Try.underlying2) (rdF_cons (off := 4) (off' := 5) rfl (show 4 + Try.prog.cellsOf 2 = 5 by kernel_rfl) (rdT_int Try.underlying2) (rdF_nil (Nat.le_of_eq (show Try.prog.cellsOf 28 = 5 by kernel_rfl))))))))).map (fun p => (⟨p.1, p.2.1, p.2.2.1, p.2.2.2.1, p.2.2.2.2.1⟩ : Job)) (fun p h => h) (fun p => rfl)
def Range.ok (x : Range) : Prop := InK .i64 (x.Lo) ∧ InK .i64 (x.Hi) ∧ True
def Range.cs (x : Range) : List (AV T) := [.sym .i64 x.Lo, .sym .i64 x.Hi]
def Range.av (x : Range) : AV T := .agg x.cs
theorem readC32 {w : World} : RdT Try.prog E w 32 Range.ok Range.cs :=
  (rdT_struct Try.underlying32 (rdF_cons (off := 0) (off' := 1) rfl (show 0 + Try.prog.cellsOf 2 = 1 by kernel_rfl) (rdT_int Try.underlying2) (rdF_cons (off := 1) (off' := 2) rfl (show 1 + Try.prog.cellsOf 2 = 2 by kernel_rfl) (rdT_int Try.underlying2) (rdF_nil (Nat.le_of_eq (show Try.prog.cellsOf 32 = 2 by kernel_rfl)))))).map (fun p => (⟨p.1, p.2.1⟩ : Range)) (fun p h => h) (fun p => rfl)
def Kicks.ok (x : Kicks) : Prop := Range.ok x.Rate ∧ Range.ok x.Grow ∧ True
def Kicks.cs (x : Kicks) : List (AV T) := [.sym .i64 x.Rate.Lo, .sym .i64 x.Rate.Hi, .sym .i64 x.Grow.Lo, .sym .i64 x.Grow.Hi]
def Kicks.av (x : Kicks) : AV T := .agg x.cs
theorem readC34 {w : World} : RdT Try.prog E w 34 Kicks.ok Kicks.cs :=
  (rdT_struct Try.underlying34 (rdF_cons (off := 0) (off' := 2) rfl (show 0 + Try.prog.cellsOf 32 = 2 by kernel_rfl) readC32 (rdF_cons (off := 2) (off' := 4) rfl (show 2 + Try.prog.cellsOf 32 = 4 by kernel_rfl) readC32 (rdF_nil (Nat.le_of_eq (show Try.prog.cellsOf 34 = 4 by kernel_rfl)))))).map (fun p => (⟨p.1, p.2.1⟩ : Kicks)) (fun p h => h) (fun p => rfl)
def Seg.ok (x : Seg) : Prop := InK .i64 (x.Long) ∧ InK .i64 (x.Rise) ∧ InK .i64 (x.Area) ∧ InK .i64 (x.Gap) ∧ True
def Seg.cs (x : Seg) : List (AV T) := [.sym .i64 x.Long, .sym .i64 x.Rise, .sym .i64 x.Area, .sym .i64 x.Gap]
def Seg.av (x : Seg) : AV T := .agg x.cs
theorem readC77 {w : World} : RdT Try.prog E w 77 Seg.ok Seg.cs :=
  (rdT_struct Try.underlying77 (rdF_cons (off := 0) (off' := 1) rfl (show 0 + Try.prog.cellsOf 2 = 1 by kernel_rfl) (rdT_int Try.underlying2) (rdF_cons (off := 1) (off' := 2) rfl (show 1 + Try.prog.cellsOf 2 = 2 by kernel_rfl) (rdT_int Try.underlying2) (rdF_cons (off := 2) (off' := 3) rfl (show 2 + Try.prog.cellsOf 2 = 3 by kernel_rfl) (rdT_int Try.underlying2) (rdF_cons (off := 3) (off' := 4) rfl (show 3 + Try.prog.cellsOf 2 = 4 by kernel_rfl) (rdT_int Try.underlying2) (rdF_nil (Nat.le_of_eq (show Try.prog.cellsOf 77 = 4 by kernel_rfl)))))))).map (fun p => (⟨p.1, p.2.1, p.2.2.1, p.2.2.2.1⟩ : Seg)) (fun p h => h) (fun p => rfl)
theorem read77 {w : World} : RdT Try.prog E w 77 (fun x : Seg => Seg.ok x) (E.enc 77) := readC77
def Hole.ok (x : Hole) : Prop := ((∀ y ∈ x.Segs, Seg.ok y) ∧ (x.Segs).length ≤ maxLen) ∧ True
def Hole.cs (x : Hole) : List (AV T) := [.sl 77 x.Segs false]
def Hole.av (x : Hole) : AV T := .agg x.cs
theorem readC37 {w : World} : RdT Try.prog E w 37 Hole.ok Hole.cs :=
  (rdT_struct Try.underlying37 (rdF_cons (off := 0) (off' := 1) rfl (show 0 + Try.prog.cellsOf 35 = 1 by kernel_rfl) (rdT_slice good Try.underlying35 rfl read77) (rdF_nil (Nat.le_of_eq (show Try.prog.cellsOf 37 = 1 by kernel_rfl))))).map (fun p => (⟨p.1⟩ : Hole)) (fun p h => h) (fun p => rfl)
def Well.ok (x : Well) : Prop := Hole.ok x.Hole ∧ InK .i64 (x.Weight) ∧ ((∀ y ∈ x.Points, Knot.ok y) ∧ (x.Points).length ≤ maxLen) ∧ InK .i64 (x.Limit) ∧ InK .i64 (x.Pipe) ∧ InK .i64 (x.Step) ∧ True
def Well.cs (x : Well) : List (AV T) := [.sl 77 x.Hole.Segs false, .sym .i64 x.Weight, .sl 135 x.Points false, .sym .i64 x.Limit, .sym .i64 x.Pipe, .sym .i64 x.Step]
def Well.av (x : Well) : AV T := .agg x.cs
theorem readC40 {w : World} : RdT Try.prog E w 40 Well.ok Well.cs :=
  (rdT_struct Try.underlying40 (rdF_cons (off := 0) (off' := 1) rfl (show 0 + Try.prog.cellsOf 37 = 1 by kernel_rfl) readC37 (rdF_cons (off := 1) (off' := 2) rfl (show 1 + Try.prog.cellsOf 2 = 2 by kernel_rfl) (rdT_int Try.underlying2) (rdF_cons (off := 2) (off' := 3) rfl (show 2 + Try.prog.cellsOf 38 = 3 by kernel_rfl) (rdT_slice good Try.underlying38 rfl read135) (rdF_cons (off := 3) (off' := 4) rfl (show 3 + Try.prog.cellsOf 2 = 4 by kernel_rfl) (rdT_int Try.underlying2) (rdF_cons (off := 4) (off' := 5) rfl (show 4 + Try.prog.cellsOf 2 = 5 by kernel_rfl) (rdT_int Try.underlying2) (rdF_cons (off := 5) (off' := 6) rfl (show 5 + Try.prog.cellsOf 2 = 6 by kernel_rfl) (rdT_int Try.underlying2) (rdF_nil (Nat.le_of_eq (show Try.prog.cellsOf 40 = 6 by kernel_rfl)))))))))).map (fun p => (⟨p.1, p.2.1, p.2.2.1, p.2.2.2.1, p.2.2.2.2.1, p.2.2.2.2.2.1⟩ : Well)) (fun p h => h) (fun p => rfl)
def Program.ok (x : Program) : Prop := InK .i64 (x.Kind) ∧ InK .i64 (x.Weight) ∧ InK .i64 (x.Margin) ∧ InK .i64 (x.Err) ∧ True
def Program.cs (x : Program) : List (AV T) := [.sym .i64 x.Kind, .sym .i64 x.Weight, .sym .i64 x.Margin, .sym .i64 x.Err]
def Program.av (x : Program) : AV T := .agg x.cs
theorem readC42 {w : World} : RdT Try.prog E w 42 Program.ok Program.cs :=
  (rdT_struct Try.underlying42 (rdF_cons (off := 0) (off' := 1) rfl (show 0 + Try.prog.cellsOf 3 = 1 by kernel_rfl) (rdT_int Try.underlying3) (rdF_cons (off := 1) (off' := 2) rfl (show 1 + Try.prog.cellsOf 2 = 2 by kernel_rfl) (rdT_int Try.underlying2) (rdF_cons (off := 2) (off' := 3) rfl (show 2 + Try.prog.cellsOf 2 = 3 by kernel_rfl) (rdT_int Try.underlying2) (rdF_cons (off := 3) (off' := 4) rfl (show 3 + Try.prog.cellsOf 2 = 4 by kernel_rfl) (rdT_int Try.underlying2) (rdF_nil (Nat.le_of_eq (show Try.prog.cellsOf 42 = 4 by kernel_rfl)))))))).map (fun p => (⟨p.1, p.2.1, p.2.2.1, p.2.2.2.1⟩ : Program)) (fun p h => h) (fun p => rfl)
def Test.ok (x : Test) : Prop := InK .i64 (x.P) ∧ True ∧ InK .i64 (x.Tick) ∧ True
def Test.cs (x : Test) : List (AV T) := [.sym .i64 x.P, .bool x.Held, .sym .i64 x.Tick]
def Test.av (x : Test) : AV T := .agg x.cs
theorem readC131 {w : World} : RdT Try.prog E w 131 Test.ok Test.cs :=
  (rdT_struct Try.underlying131 (rdF_cons (off := 0) (off' := 1) rfl (show 0 + Try.prog.cellsOf 2 = 1 by kernel_rfl) (rdT_int Try.underlying2) (rdF_cons (off := 1) (off' := 2) rfl (show 1 + Try.prog.cellsOf 4 = 2 by kernel_rfl) (rdT_bool Try.underlying4) (rdF_cons (off := 2) (off' := 3) rfl (show 2 + Try.prog.cellsOf 2 = 3 by kernel_rfl) (rdT_int Try.underlying2) (rdF_nil (Nat.le_of_eq (show Try.prog.cellsOf 131 = 3 by kernel_rfl))))))).map (fun p => (⟨p.1, p.2.1, p.2.2.1⟩ : Test)) (fun p h => h) (fun p => rfl)
theorem read131 {w : World} : RdT Try.prog E w 131 (fun x : Test => Test.ok x) (E.enc 131) := readC131
def Sensor.ok (x : Sensor) : Prop := InK .i64 (x.Channel) ∧ InK .i64 (x.Period) ∧ InK .i64 (x.Delay) ∧ InK .i64 (x.Noise) ∧ InK .i64 (x.Step) ∧ InK .i64 (x.Lost) ∧ InK .i64 (x.Limit) ∧ InK .i64 (x.Hold) ∧ True
def Sensor.cs (x : Sensor) : List (AV T) := [.sym .i64 x.Channel, .sym .i64 x.Period, .sym .i64 x.Delay, .sym .i64 x.Noise, .sym .i64 x.Step, .sym .i64 x.Lost, .sym .i64 x.Limit, .sym .i64 x.Hold]
def Sensor.av (x : Sensor) : AV T := .agg x.cs
theorem readC133 {w : World} : RdT Try.prog E w 133 Sensor.ok Sensor.cs :=
  (rdT_struct Try.underlying133 (rdF_cons (off := 0) (off' := 1) rfl (show 0 + Try.prog.cellsOf 3 = 1 by kernel_rfl) (rdT_int Try.underlying3) (rdF_cons (off := 1) (off' := 2) rfl (show 1 + Try.prog.cellsOf 2 = 2 by kernel_rfl) (rdT_int Try.underlying2) (rdF_cons (off := 2) (off' := 3) rfl (show 2 + Try.prog.cellsOf 2 = 3 by kernel_rfl) (rdT_int Try.underlying2) (rdF_cons (off := 3) (off' := 4) rfl (show 3 + Try.prog.cellsOf 2 = 4 by kernel_rfl) (rdT_int Try.underlying2) (rdF_cons (off := 4) (off' := 5) rfl (show 4 + Try.prog.cellsOf 2 = 5 by kernel_rfl) (rdT_int Try.underlying2) (rdF_cons (off := 5) (off' := 6) rfl (show 5 + Try.prog.cellsOf 2 = 6 by kernel_rfl) (rdT_int Try.underlying2) (rdF_cons (off := 6) (off' := 7) rfl (show 6 + Try.prog.cellsOf 2 = 7 by kernel_rfl) (rdT_int Try.underlying2) (rdF_cons (off := 7) (off' := 8) rfl (show 7 + Try.prog.cellsOf 2 = 8 by kernel_rfl) (rdT_int Try.underlying2) (rdF_nil (Nat.le_of_eq (show Try.prog.cellsOf 133 = 8 by kernel_rfl)))))))))))).map (fun p => (⟨p.1, p.2.1, p.2.2.1, p.2.2.2.1, p.2.2.2.2.1, p.2.2.2.2.2.1, p.2.2.2.2.2.2.1, p.2.2.2.2.2.2.2.1⟩ : Sensor)) (fun p h => h) (fun p => rfl)
theorem read133 {w : World} : RdT Try.prog E w 133 (fun x : Sensor => Sensor.ok x) (E.enc 133) := readC133
def Phase.ok (x : Phase) : Prop := InK .i64 (x.Tick) ∧ InK .i64 (x.Age) ∧ InK .i64 (x.Shoe) ∧ InK .i64 (x.To) ∧ InK .i64 (x.Sea) ∧ InK .i64 (x.Light) ∧ InK .i64 (x.Weight) ∧ InK .i64 (x.Top) ∧ InK .i64 (x.Long) ∧ InK .i64 (x.Area) ∧ InK .i64 (x.Gap) ∧ Mud.ok x.Mud ∧ InK .i64 (x.Flow) ∧ Job.ok x.Job ∧ ((∀ y ∈ x.Stack, Test.ok y) ∧ (x.Stack).length ≤ maxLen) ∧ ((∀ y ∈ x.Cased, Test.ok y) ∧ (x.Cased).length ≤ maxLen) ∧ ((∀ y ∈ x.Sensors, Sensor.ok y) ∧ (x.Sensors).length ≤ maxLen) ∧ Kicks.ok x.Kicks ∧ InK .i64 (x.Notice) ∧ Well.ok x.Well ∧ Program.ok x.Program ∧ ((∀ y ∈ x.Volumes, InK .i64 (y)) ∧ (x.Volumes).length ≤ maxLen) ∧ ((∀ y ∈ x.Pores, InK .i64 (y)) ∧ (x.Pores).length ≤ maxLen) ∧ True
def Phase.cs (x : Phase) : List (AV T) := [.sym .i64 x.Tick, .sym .i64 x.Age, .sym .i64 x.Shoe, .sym .i64 x.To, .sym .i64 x.Sea, .sym .i64 x.Light, .sym .i64 x.Weight, .sym .i64 x.Top, .sym .i64 x.Long, .sym .i64 x.Area, .sym .i64 x.Gap, .sym .i64 x.Mud.Yield, .sym .i64 x.Mud.Visc, .sym .i64 x.Flow, .sl 2 x.Job.Ends false, .sl 127 x.Job.Loads false, .sl 129 x.Job.Grades false, .sym .i64 x.Job.Factor, .sym .i64 x.Job.Over, .sl 131 x.Stack false, .sl 131 x.Cased false, .sl 133 x.Sensors false, .sym .i64 x.Kicks.Rate.Lo, .sym .i64 x.Kicks.Rate.Hi, .sym .i64 x.Kicks.Grow.Lo, .sym .i64 x.Kicks.Grow.Hi, .sym .i64 x.Notice, .sl 77 x.Well.Hole.Segs false, .sym .i64 x.Well.Weight, .sl 135 x.Well.Points false, .sym .i64 x.Well.Limit, .sym .i64 x.Well.Pipe, .sym .i64 x.Well.Step, .sym .i64 x.Program.Kind, .sym .i64 x.Program.Weight, .sym .i64 x.Program.Margin, .sym .i64 x.Program.Err, .sl 2 x.Volumes false, .sl 2 x.Pores false]
def Phase.av (x : Phase) : AV T := .agg x.cs
theorem readC44 {w : World} : RdT Try.prog E w 44 Phase.ok Phase.cs :=
  (rdT_struct Try.underlying44 (rdF_cons (off := 0) (off' := 1) rfl (show 0 + Try.prog.cellsOf 2 = 1 by kernel_rfl) (rdT_int Try.underlying2) (rdF_cons (off := 1) (off' := 2) rfl (show 1 + Try.prog.cellsOf 2 = 2 by kernel_rfl) (rdT_int Try.underlying2) (rdF_cons (off := 2) (off' := 3) rfl (show 2 + Try.prog.cellsOf 2 = 3 by kernel_rfl) (rdT_int Try.underlying2) (rdF_cons (off := 3) (off' := 4) rfl (show 3 + Try.prog.cellsOf 2 = 4 by kernel_rfl) (rdT_int Try.underlying2) (rdF_cons (off := 4) (off' := 5) rfl (show 4 + Try.prog.cellsOf 2 = 5 by kernel_rfl) (rdT_int Try.underlying2) (rdF_cons (off := 5) (off' := 6) rfl (show 5 + Try.prog.cellsOf 2 = 6 by kernel_rfl) (rdT_int Try.underlying2) (rdF_cons (off := 6) (off' := 7) rfl (show 6 + Try.prog.cellsOf 2 = 7 by kernel_rfl) (rdT_int Try.underlying2) (rdF_cons (off := 7) (off' := 8) rfl (show 7 + Try.prog.cellsOf 2 = 8 by kernel_rfl) (rdT_int Try.underlying2) (rdF_cons (off := 8) (off' := 9) rfl (show 8 + Try.prog.cellsOf 2 = 9 by kernel_rfl) (rdT_int Try.underlying2) (rdF_cons (off := 9) (off' := 10) rfl (show 9 + Try.prog.cellsOf 2 = 10 by kernel_rfl) (rdT_int Try.underlying2) (rdF_cons (off := 10) (off' := 11) rfl (show 10 + Try.prog.cellsOf 2 = 11 by kernel_rfl) (rdT_int Try.underlying2) (rdF_cons (off := 11) (off' := 13) rfl (show 11 + Try.prog.cellsOf 23 = 13 by kernel_rfl) readC23 (rdF_cons (off := 13) (off' := 14) rfl (show 13 + Try.prog.cellsOf 2 = 14 by kernel_rfl) (rdT_int Try.underlying2) (rdF_cons (off := 14) (off' := 19) rfl (show 14 + Try.prog.cellsOf 28 = 19 by kernel_rfl) readC28 (rdF_cons (off := 19) (off' := 20) rfl (show 19 + Try.prog.cellsOf 29 = 20 by kernel_rfl) (rdT_slice good Try.underlying29 rfl read131) (rdF_cons (off := 20) (off' := 21) rfl (show 20 + Try.prog.cellsOf 29 = 21 by kernel_rfl) (rdT_slice good Try.underlying29 rfl read131) (rdF_cons (off := 21) (off' := 22) rfl (show 21 + Try.prog.cellsOf 30 = 22 by kernel_rfl) (rdT_slice good Try.underlying30 rfl read133) (rdF_cons (off := 22) (off' := 26) rfl (show 22 + Try.prog.cellsOf 34 = 26 by kernel_rfl) readC34 (rdF_cons (off := 26) (off' := 27) rfl (show 26 + Try.prog.cellsOf 2 = 27 by kernel_rfl) (rdT_int Try.underlying2) (rdF_cons (off := 27) (off' := 33) rfl (show 27 + Try.prog.cellsOf 40 = 33 by kernel_rfl) readC40 (rdF_cons (off := 33) (off' := 37) rfl (show 33 + Try.prog.cellsOf 42 = 37 by kernel_rfl) readC42 (rdF_cons (off := 37) (off' := 38) rfl (show 37 + Try.prog.cellsOf 24 = 38 by kernel_rfl) (rdT_slice good Try.underlying24 rfl read2) (rdF_cons (off := 38) (off' := 39) rfl (show 38 + Try.prog.cellsOf 24 = 39 by kernel_rfl) (rdT_slice good Try.underlying24 rfl read2) (rdF_nil (Nat.le_of_eq (show Try.prog.cellsOf 44 = 39 by kernel_rfl))))))))))))))))))))))))))).map (fun p => (⟨p.1, p.2.1, p.2.2.1, p.2.2.2.1, p.2.2.2.2.1, p.2.2.2.2.2.1, p.2.2.2.2.2.2.1, p.2.2.2.2.2.2.2.1, p.2.2.2.2.2.2.2.2.1, p.2.2.2.2.2.2.2.2.2.1, p.2.2.2.2.2.2.2.2.2.2.1, p.2.2.2.2.2.2.2.2.2.2.2.1, p.2.2.2.2.2.2.2.2.2.2.2.2.1, p.2.2.2.2.2.2.2.2.2.2.2.2.2.1, p.2.2.2.2.2.2.2.2.2.2.2.2.2.2.1, p.2.2.2.2.2.2.2.2.2.2.2.2.2.2.2.1, p.2.2.2.2.2.2.2.2.2.2.2.2.2.2.2.2.1, p.2.2.2.2.2.2.2.2.2.2.2.2.2.2.2.2.2.1, p.2.2.2.2.2.2.2.2.2.2.2.2.2.2.2.2.2.2.1, p.2.2.2.2.2.2.2.2.2.2.2.2.2.2.2.2.2.2.2.1, p.2.2.2.2.2.2.2.2.2.2.2.2.2.2.2.2.2.2.2.2.1, p.2.2.2.2.2.2.2.2.2.2.2.2.2.2.2.2.2.2.2.2.2.1, p.2.2.2.2.2.2.2.2.2.2.2.2.2.2.2.2.2.2.2.2.2.2.1⟩ : Phase)) (fun p h => h) (fun p => rfl)
theorem read4 {w : World} : RdT Try.prog E w 4 (fun x : Bool => True) (E.enc 4) := (rdT_bool Try.underlying4)
theorem read3 {w : World} : RdT Try.prog E w 3 (fun x : Int => InK .i64 (x)) (E.enc 3) := (rdT_int Try.underlying3)
theorem read54 {w : World} : RdT Try.prog E w 54 (fun x : List Int => ((∀ y ∈ x, InK .i64 (y)) ∧ (x).length ≤ maxLen)) (E.enc 54) := (rdT_slice good Try.underlying54 rfl read3)
def Blow.ok (x : Blow) : Prop := ((∀ y ∈ x.Lost, True) ∧ (x.Lost).length ≤ maxLen) ∧ ((∀ y ∈ x.Moves, ((∀ z ∈ y, InK .i64 (z)) ∧ (y).length ≤ maxLen)) ∧ (x.Moves).length ≤ maxLen) ∧ True
def Blow.cs (x : Blow) : List (AV T) := [.sl 4 x.Lost false, .sl 54 x.Moves false]
def Blow.av (x : Blow) : AV T := .agg x.cs
theorem readC53 {w : World} : RdT Try.prog E w 53 Blow.ok Blow.cs :=
  (rdT_struct Try.underlying53 (rdF_cons (off := 0) (off' := 1) rfl (show 0 + Try.prog.cellsOf 50 = 1 by kernel_rfl) (rdT_slice good Try.underlying50 rfl read4) (rdF_cons (off := 1) (off' := 2) rfl (show 1 + Try.prog.cellsOf 51 = 2 by kernel_rfl) (rdT_slice good Try.underlying51 rfl read54) (rdF_nil (Nat.le_of_eq (show Try.prog.cellsOf 53 = 2 by kernel_rfl)))))).map (fun p => (⟨p.1, p.2.1⟩ : Blow)) (fun p h => h) (fun p => rfl)
def Wide.ok (x : Wide) : Prop := InK .u64 (x.Hi) ∧ InK .u64 (x.Lo) ∧ True
def Wide.cs (x : Wide) : List (AV T) := [.sym .u64 x.Hi, .sym .u64 x.Lo]
def Wide.av (x : Wide) : AV T := .agg x.cs
theorem readC97 {w : World} : RdT Try.prog E w 97 Wide.ok Wide.cs :=
  (rdT_struct Try.underlying97 (rdF_cons (off := 0) (off' := 1) rfl (show 0 + Try.prog.cellsOf 95 = 1 by kernel_rfl) (rdT_int Try.underlying95) (rdF_cons (off := 1) (off' := 2) rfl (show 1 + Try.prog.cellsOf 95 = 2 by kernel_rfl) (rdT_int Try.underlying95) (rdF_nil (Nat.le_of_eq (show Try.prog.cellsOf 97 = 2 by kernel_rfl)))))).map (fun p => (⟨p.1, p.2.1⟩ : Wide)) (fun p h => h) (fun p => rfl)
theorem laid : laidOutB Try.prog = true := by kernel_rfl
theorem mapsR : mapsRowed Try.prog = true := by kernel_rfl
theorem fullS : ∀ t e, t < Try.prog.types.size → Try.prog.underlying t = some (.slice e) → 0 < Try.prog.cellsOf e := slices_full_of Try.prog (by kernel_rfl)
theorem kids : Kids Try.prog (· < Try.prog.types.size) := kids_rows laid mapsR
end Go.Proofs.Ytfajcbcjinabiaa.W
