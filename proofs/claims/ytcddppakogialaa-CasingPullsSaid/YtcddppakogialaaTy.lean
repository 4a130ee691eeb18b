/- The types of the program as Lean has them, and the numbers of its functions. -/
import Derived.Test.YtcddppakogialaaRows
import Derived.Test.YtcddppakogialaaCz5
set_option linter.unusedVariables false
noncomputable section
namespace Go.Proofs.Ytcddppakogialaa.W
open Go Go.Cx Go.RowKit Go.ChangeShapes Go.WideShapes

/-- type 39: moonpool/api.Knot -/
structure Knot where
  At : Int
  V : Int

/-- type 35: moonpool/api.Line -/
structure Line where
  Knots : List Knot

/-- type 37: moonpool/api.Stress -/
structure Stress where
  In : Line
  Out : Line

/-- type 66: moonpool/api.Grade -/
structure Grade where
  Burst : Int
  Collapse : Int
  Pull : Int
  Weight : Int
  Cost : Int

/-- type 68: moonpool/api.Seg -/
structure Seg where
  Long : Int
  Rise : Int
  Area : Int
  Gap : Int

/-- type 70: moonpool/api.Test -/
structure Test where
  P : Int
  Held : Bool
  Tick : Int

/-- type 135: moonpool/casing.need -/
structure Need where
  burst : Int
  collapse : Int

/-- type 26: moonpool/api.Job -/
structure Job where
  Ends : List Int
  Loads : List Stress
  Grades : List Grade
  Factor : Int
  Over : Int

/-- type 56: moonpool/api.Hole -/
structure Hole where
  Segs : List Seg

/-- type 58: moonpool/api.Range -/
structure Range where
  Lo : Int
  Hi : Int

/-- type 72: moonpool/moonpoolkit.Sheet -/
structure Sheet where
  Ends : List Int
  Loads : List Int
  Grades : List Int
  Factor : Int
  Over : Int

/-- type 109: moonpool/casing.best -/
structure Best where
  choice : List Int
  cost : Int

/-- type 126: moonpool/fluid.part -/
structure Part where
  seg : Seg
  low : Int
  high : Int

/-- type 140: moonpool/casing.section -/
structure Section where
  from' : Int
  to : Int

/-- type 145: moonpool/earth.piece -/
structure Piece where
  ends : Knot × Knot

def T : Nat → Type
  | 2 => Int
  | 3 => Int
  | 35 => Line
  | 37 => Stress
  | 39 => Knot
  | 66 => Grade
  | 68 => Seg
  | 70 => Test
  | 135 => Need
  | _ => Unit

def okT (τ : Nat) : Bool := memN τ [2, 3, 35, 37, 39, 66, 68, 70, 135]
def encT : (τ : Nat) → T τ → List (AV T)
  | 2, (x : Int) => [.sym .i64 x]
  | 3, (x : Int) => [.sym .i64 x]
  | 35, (x : Line) => [.sl 39 x.Knots false]
  | 37, (x : Stress) => [.sl 39 x.In.Knots false, .sl 39 x.Out.Knots false]
  | 39, (x : Knot) => [.sym .i64 x.At, .sym .i64 x.V]
  | 66, (x : Grade) => [.sym .i64 x.Burst, .sym .i64 x.Collapse, .sym .i64 x.Pull, .sym .i64 x.Weight, .sym .i64 x.Cost]
  | 68, (x : Seg) => [.sym .i64 x.Long, .sym .i64 x.Rise, .sym .i64 x.Area, .sym .i64 x.Gap]
  | 70, (x : Test) => [.sym .i64 x.P, .bool x.Held, .sym .i64 x.Tick]
  | 135, (x : Need) => [.sym .i64 x.burst, .sym .i64 x.collapse]
  | _, _ => []

def decT : (τ : Nat) → ((σ : Nat) → AV T → Option (List (T σ))) → List (AV T) → Option (T τ)
  | 2, fz, [c0] => ((decI .i64 c0).bind fun x0 => some (x0 : Int) : Option Int)
  | 3, fz, [c0] => ((decI .i64 c0).bind fun x0 => some (x0 : Int) : Option Int)
  | 35, fz, [c0] => ((fz 39 c0).bind fun x0 => some (⟨x0⟩ : Line) : Option Line)
  | 37, fz, [c0, c1] => ((fz 39 c0).bind fun x0 => (fz 39 c1).bind fun x1 => some (⟨(⟨x0⟩ : Line), (⟨x1⟩ : Line)⟩ : Stress) : Option Stress)
  | 39, fz, [c0, c1] => ((decI .i64 c0).bind fun x0 => (decI .i64 c1).bind fun x1 => some (⟨x0, x1⟩ : Knot) : Option Knot)
  | 66, fz, [c0, c1, c2, c3, c4] => ((decI .i64 c0).bind fun x0 => (decI .i64 c1).bind fun x1 => (decI .i64 c2).bind fun x2 => (decI .i64 c3).bind fun x3 => (decI .i64 c4).bind fun x4 => some (⟨x0, x1, x2, x3, x4⟩ : Grade) : Option Grade)
  | 68, fz, [c0, c1, c2, c3] => ((decI .i64 c0).bind fun x0 => (decI .i64 c1).bind fun x1 => (decI .i64 c2).bind fun x2 => (decI .i64 c3).bind fun x3 => some (⟨x0, x1, x2, x3⟩ : Seg) : Option Seg)
  | 70, fz, [c0, c1, c2] => ((decI .i64 c0).bind fun x0 => (asB c1).bind fun x1 => (decI .i64 c2).bind fun x2 => some (⟨x0, x1, x2⟩ : Test) : Option Test)
  | 135, fz, [c0, c1] => ((decI .i64 c0).bind fun x0 => (decI .i64 c1).bind fun x1 => some (⟨x0, x1⟩ : Need) : Option Need)
  | _, _, _ => none

def dT : (τ : Nat) → T τ
  | 2 => (0 : Int)
  | 3 => (0 : Int)
  | 35 => (⟨[]⟩ : Line)
  | 37 => (⟨⟨[]⟩, ⟨[]⟩⟩ : Stress)
  | 39 => (⟨0, 0⟩ : Knot)
  | 66 => (⟨0, 0, 0, 0, 0⟩ : Grade)
  | 68 => (⟨0, 0, 0, 0⟩ : Seg)
  | 70 => (⟨0, false, 0⟩ : Test)
  | 135 => (⟨0, 0⟩ : Need)
  | n => by
    unfold T
    split <;> first | exact () | exact (0 : Int) | exact (⟨0, 0, 0, 0, 0⟩ : Grade) | exact (⟨0, 0, 0, 0⟩ : Seg) | exact (⟨0, 0⟩ : Knot) | exact (⟨0, 0⟩ : Need) | exact (⟨0, false, 0⟩ : Test) | exact (⟨[]⟩ : Line) | exact (⟨⟨[]⟩, ⟨[]⟩⟩ : Stress)
def E : Enc T := ⟨okT, encT, dT, fun t => bif Try.prog.eqGuardType Try.prog.depth t then false else bif Try.prog.stoodInHeld t then false else true, decT⟩
theorem ok_cases {τ : Nat} (h : E.ok τ = true) : τ = 2 ∨ τ = 3 ∨ τ = 35 ∨ τ = 37 ∨ τ = 39 ∨ τ = 66 ∨ τ = 68 ∨ τ = 70 ∨ τ = 135 := by
  have h := memN_iff.1 (show memN τ [2, 3, 35, 37, 39, 66, 68, 70, 135] = true from h)
  simpa only [List.mem_cons, List.mem_nil_iff, or_false] using h
set_option maxHeartbeats 4000000 in
theorem decOk : E.DecOk Try.prog := by
  intro τ fz cs x h hd
  rcases ok_cases h with rfl | rfl | rfl | rfl | rfl | rfl | rfl | rfl | rfl
  · match cs, hd with
    | [c0], hd =>
      have hd : ((decI .i64 c0).bind fun x0 => some (x0 : Int)) = some x := hd
      obtain ⟨x0, h0, hd⟩ := Option.bind_eq_some_iff.1 hd
      cases hd
      exact ⟨decI_to h0, trivial⟩
  · match cs, hd with
    | [c0], hd =>
      have hd : ((decI .i64 c0).bind fun x0 => some (x0 : Int)) = some x := hd
      obtain ⟨x0, h0, hd⟩ := Option.bind_eq_some_iff.1 hd
      cases hd
      exact ⟨decI_to h0, trivial⟩
  · match cs, hd with
    | [c0], hd =>
      have hd : ((fz 39 c0).bind fun x0 => some (⟨x0⟩ : Line)) = some x := hd
      obtain ⟨x0, h0, hd⟩ := Option.bind_eq_some_iff.1 hd
      cases hd
      exact ⟨fz_to h0, trivial⟩
  · match cs, hd with
    | [c0, c1], hd =>
      have hd : ((fz 39 c0).bind fun x0 => (fz 39 c1).bind fun x1 => some (⟨(⟨x0⟩ : Line), (⟨x1⟩ : Line)⟩ : Stress)) = some x := hd
      obtain ⟨x0, h0, hd⟩ := Option.bind_eq_some_iff.1 hd
      obtain ⟨x1, h1, hd⟩ := Option.bind_eq_some_iff.1 hd
      cases hd
      exact ⟨fz_to h0, fz_to h1, trivial⟩
  · match cs, hd with
    | [c0, c1], hd =>
      have hd : ((decI .i64 c0).bind fun x0 => (decI .i64 c1).bind fun x1 => some (⟨x0, x1⟩ : Knot)) = some x := hd
      obtain ⟨x0, h0, hd⟩ := Option.bind_eq_some_iff.1 hd
      obtain ⟨x1, h1, hd⟩ := Option.bind_eq_some_iff.1 hd
      cases hd
      exact ⟨decI_to h0, decI_to h1, trivial⟩
  · match cs, hd with
    | [c0, c1, c2, c3, c4], hd =>
      have hd : ((decI .i64 c0).bind fun x0 => (decI .i64 c1).bind fun x1 => (decI .i64 c2).bind fun x2 => (decI .i64 c3).bind fun x3 => (decI .i64 c4).bind fun x4 => some (⟨x0, x1, x2, x3, x4⟩ : Grade)) = some x := hd
      obtain ⟨x0, h0, hd⟩ := Option.bind_eq_some_iff.1 hd
      obtain ⟨x1, h1, hd⟩ := Option.bind_eq_some_iff.1 hd
      obtain ⟨x2, h2, hd⟩ := Option.bind_eq_some_iff.1 hd
      obtain ⟨x3, h3, hd⟩ := Option.bind_eq_some_iff.1 hd
      obtain ⟨x4, h4, hd⟩ := Option.bind_eq_some_iff.1 hd
      cases hd
      exact ⟨decI_to h0, decI_to h1, decI_to h2, decI_to h3, decI_to h4, trivial⟩
  · match cs, hd with
    | [c0, c1, c2, c3], hd =>
      have hd : ((decI .i64 c0).bind fun x0 => (decI .i64 c1).bind fun x1 => (decI .i64 c2).bind fun x2 => (decI .i64 c3).bind fun x3 => some (⟨x0, x1, x2, x3⟩ : Seg)) = some x := hd
      obtain ⟨x0, h0, hd⟩ := Option.bind_eq_some_iff.1 hd
      obtain ⟨x1, h1, hd⟩ := Option.bind_eq_some_iff.1 hd
      obtain ⟨x2, h2, hd⟩ := Option.bind_eq_some_iff.1 hd
      obtain ⟨x3, h3, hd⟩ := Option.bind_eq_some_iff.1 hd
      cases hd
      exact ⟨decI_to h0, decI_to h1, decI_to h2, decI_to h3, trivial⟩
  · match cs, hd with
    | [c0, c1, c2], hd =>
      have hd : ((decI .i64 c0).bind fun x0 => (asB c1).bind fun x1 => (decI .i64 c2).bind fun x2 => some (⟨x0, x1, x2⟩ : Test)) = some x := hd
      obtain ⟨x0, h0, hd⟩ := Option.bind_eq_some_iff.1 hd
      obtain ⟨x1, h1, hd⟩ := Option.bind_eq_some_iff.1 hd
      obtain ⟨x2, h2, hd⟩ := Option.bind_eq_some_iff.1 hd
      cases hd
      exact ⟨decI_to h0, asB_to h1, decI_to h2, trivial⟩
  · match cs, hd with
    | [c0, c1], hd =>
      have hd : ((decI .i64 c0).bind fun x0 => (decI .i64 c1).bind fun x1 => some (⟨x0, x1⟩ : Need)) = some x := hd
      obtain ⟨x0, h0, hd⟩ := Option.bind_eq_some_iff.1 hd
      obtain ⟨x1, h1, hd⟩ := Option.bind_eq_some_iff.1 hd
      cases hd
      exact ⟨decI_to h0, decI_to h1, trivial⟩
set_option maxRecDepth 100000 in
theorem good : E.Good Try.prog := by
  refine ⟨fun τ h => ?_, fun τ h => ?_, fun τ h => ?_, fun t h => ?_, decOk⟩
  · rcases ok_cases h with rfl | rfl | rfl | rfl | rfl | rfl | rfl | rfl | rfl
    · intro x; exact (show 1 = Try.prog.cellsOf 2 by kernel_rfl)
    · intro x; exact (show 1 = Try.prog.cellsOf 3 by kernel_rfl)
    · intro x; exact (show 1 = Try.prog.cellsOf 35 by kernel_rfl)
    · intro x; exact (show 2 = Try.prog.cellsOf 37 by kernel_rfl)
    · intro x; exact (show 2 = Try.prog.cellsOf 39 by kernel_rfl)
    · intro x; exact (show 5 = Try.prog.cellsOf 66 by kernel_rfl)
    · intro x; exact (show 4 = Try.prog.cellsOf 68 by kernel_rfl)
    · intro x; exact (show 3 = Try.prog.cellsOf 70 by kernel_rfl)
    · intro x; exact (show 2 = Try.prog.cellsOf 135 by kernel_rfl)
  · rcases ok_cases h with rfl | rfl | rfl | rfl | rfl | rfl | rfl | rfl | rfl
    · exact (Nat.lt_of_lt_of_eq (by decide : 0 < 1) (show 1 = Try.prog.cellsOf 2 by kernel_rfl))
    · exact (Nat.lt_of_lt_of_eq (by decide : 0 < 1) (show 1 = Try.prog.cellsOf 3 by kernel_rfl))
    · exact (Nat.lt_of_lt_of_eq (by decide : 0 < 1) (show 1 = Try.prog.cellsOf 35 by kernel_rfl))
    · exact (Nat.lt_of_lt_of_eq (by decide : 0 < 2) (show 2 = Try.prog.cellsOf 37 by kernel_rfl))
    · exact (Nat.lt_of_lt_of_eq (by decide : 0 < 2) (show 2 = Try.prog.cellsOf 39 by kernel_rfl))
    · exact (Nat.lt_of_lt_of_eq (by decide : 0 < 5) (show 5 = Try.prog.cellsOf 66 by kernel_rfl))
    · exact (Nat.lt_of_lt_of_eq (by decide : 0 < 4) (show 4 = Try.prog.cellsOf 68 by kernel_rfl))
    · exact (Nat.lt_of_lt_of_eq (by decide : 0 < 3) (show 3 = Try.prog.cellsOf 70 by kernel_rfl))
    · exact (Nat.lt_of_lt_of_eq (by decide : 0 < 2) (show 2 = Try.prog.cellsOf 135 by kernel_rfl))
  · rcases ok_cases h with rfl | rfl | rfl | rfl | rfl | rfl | rfl | rfl | rfl
    · intro x; rfl
    · intro x; rfl
    · intro x; rfl
    · intro x; rfl
    · intro x; rfl
    · intro x; rfl
    · intro x; rfl
    · intro x; rfl
    · intro x; rfl
  · have h : (bif Try.prog.eqGuardType Try.prog.depth t then false else bif Try.prog.stoodInHeld t then false else true) = true := h
    cases h1 : Try.prog.eqGuardType Try.prog.depth t with
    | true => rw [h1] at h; cases h
    | false =>
      cases h2 : Try.prog.stoodInHeld t with
      | true => rw [h1, h2] at h; cases h
      | false => exact ⟨rfl, rfl⟩
instance goodP : Go.Cx.GoodP Try.prog E := ⟨good⟩
theorem own : ownKnob Try.prog.godebug = none := by kernel_rfl
theorem mixes : Try.prog.follows .mixedOrders = true := by kernel_rfl
theorem named : Try.prog.funcs.all (fun fn => !(fn.name == "runtime.NumGoroutine")) = true := by kernel_rfl
theorem names : NamesOk Try.prog := fun f fn h => by
  have := Array.all_eq_true_iff_forall_mem.1 named fn (Array.mem_of_getElem? h)
  simpa using this
set_option maxRecDepth 100000
theorem read2 {w : World} : RdT Try.prog E w 2 (fun x : Int => InK .i64 (x)) (E.enc 2) := (rdT_int Try.underlying2)
def Knot.ok (x : Knot) : Prop := InK .i64 (x.At) ∧ InK .i64 (x.V) ∧ True
def Knot.cs (x : Knot) : List (AV T) := [.sym .i64 x.At, .sym .i64 x.V]
def Knot.av (x : Knot) : AV T := .agg x.cs
theorem readC39 {w : World} : RdT Try.prog E w 39 Knot.ok Knot.cs :=
  (rdT_struct Try.underlying39 (rdF_cons (off := 0) (off' := 1) rfl (show 0 + Try.prog.cellsOf 2 = 1 by kernel_rfl) (rdT_int Try.underlying2) (rdF_cons (off := 1) (off' := 2) rfl (show 1 + Try.prog.cellsOf 2 = 2 by kernel_rfl) (rdT_int Try.underlying2) (rdF_nil (Nat.le_of_eq (show Try.prog.cellsOf 39 = 2 by kernel_rfl)))))).map (fun p => (⟨p.1, p.2.1⟩ : Knot)) (fun p h => h) (fun p => rfl)
theorem read39 {w : World} : RdT Try.prog E w 39 (fun x : Knot => Knot.ok x) (E.enc 39) := readC39
def Line.ok (x : Line) : Prop := ((∀ y ∈ x.Knots, Knot.ok y) ∧ (x.Knots).length ≤ maxLen) ∧ True
def Line.cs (x : Line) : List (AV T) := [.sl 39 x.Knots false]
def Line.av (x : Line) : AV T := .agg x.cs
theorem readC35 {w : World} : RdT Try.prog E w 35 Line.ok Line.cs :=
  (rdT_struct Try.underlying35 (rdF_cons (off := 0) (off' := 1) rfl (show 0 + Try.prog.cellsOf 33 = 1 by kernel_rfl) (rdT_slice good Try.underlying33 rfl read39) (rdF_nil (Nat.le_of_eq (show Try.prog.cellsOf 35 = 1 by kernel_rfl))))).map (fun p => (⟨p.1⟩ : Line)) (fun p h => h) (fun p => rfl)
def Stress.ok (x : Stress) : Prop := Line.ok x.In ∧ Line.ok x.Out ∧ True
def Stress.cs (x : Stress) : List (AV T) := [.sl 39 x.In.Knots false, .sl 39 x.Out.Knots false]
def Stress.av (x : Stress) : AV T := .agg x.cs
theorem readC37 {w : World} : RdT Try.prog E w 37 Stress.ok Stress.cs :=
  (rdT_struct Try.underlying37 (rdF_cons (off := 0) (off' := 1) rfl (show 0 + Try.prog.cellsOf 35 = 1 by kernel_rfl) readC35 (rdF_cons (off := 1) (off' := 2) rfl (show 1 + Try.prog.cellsOf 35 = 2 by kernel_rfl) readC35 (rdF_nil (Nat.le_of_eq (show Try.prog.cellsOf 37 = 2 by kernel_rfl)))))).map (fun p => (⟨p.1, p.2.1⟩ : Stress)) (fun p h => h) (fun p => rfl)
theorem read37 {w : World} : RdT Try.prog E w 37 (fun x : Stress => Stress.ok x) (E.enc 37) := readC37
def Grade.ok (x : Grade) : Prop := InK .i64 (x.Burst) ∧ InK .i64 (x.Collapse) ∧ InK .i64 (x.Pull) ∧ InK .i64 (x.Weight) ∧ InK .i64 (x.Cost) ∧ True
def Grade.cs (x : Grade) : List (AV T) := [.sym .i64 x.Burst, .sym .i64 x.Collapse, .sym .i64 x.Pull, .sym .i64 x.Weight, .sym .i64 x.Cost]
def Grade.av (x : Grade) : AV T := .agg x.cs
theorem readC66 {w : World} : RdT Try.prog E w 66 Grade.ok Grade.cs :=
  (rdT_struct Try.underlying66 (rdF_cons (off := 0) (off' := 1) rfl (show 0 + Try.prog.cellsOf 2 = 1 by kernel_rfl) (rdT_int Try.underlying2) (rdF_cons (off := 1) (off' := 2) rfl (show 1 + Try.prog.cellsOf 2 = 2 by kernel_rfl) (rdT_int Try.underlying2) (rdF_cons (off := 2) (off' := 3) rfl (show 2 + Try.prog.cellsOf 2 = 3 by kernel_rfl) (rdT_int Try.underlying2) (rdF_cons (off := 3) (off' := 4) rfl (show 3 + Try.prog.cellsOf 2 = 4 by kernel_rfl) (rdT_int Try.underlying2) (rdF_cons (off := 4) (off' := 5) rfl (show 4 + Try.prog.cellsOf 2 = 5 by kernel_rfl) (rdT_int Try.underlying2) (rdF_nil (Nat.le_of_eq (show Try.prog.cellsOf 66 = 5 by kernel_rfl))))))))).map (fun p => (⟨p.1, p.2.1, p.2.2.1, p.2.2.2.1, p.2.2.2.2.1⟩ : Grade)) (fun p h => h) (fun p => rfl)
theorem read66 {w : World} : RdT Try.prog E w 66 (fun x : Grade => Grade.ok x) (E.enc 66) := readC66
def Job.ok (x : Job) : Prop := ((∀ y ∈ x.Ends, InK .i64 (y)) ∧ (x.Ends).length ≤ maxLen) ∧ ((∀ y ∈ x.Loads, Stress.ok y) ∧ (x.Loads).length ≤ maxLen) ∧ ((∀ y ∈ x.Grades, Grade.ok y) ∧ (x.Grades).length ≤ maxLen) ∧ InK .i64 (x.Factor) ∧ InK .i64 (x.Over) ∧ True
def Job.cs (x : Job) : List (AV T) := [.sl 2 x.Ends false, .sl 37 x.Loads false, .sl 66 x.Grades false, .sym .i64 x.Factor, .sym .i64 x.Over]
def Job.av (x : Job) : AV T := .agg x.cs
theorem readC26 {w : World} : RdT Try.prog E w 26 Job.ok Job.cs :=
  (rdT_struct Try.underlying26 (rdF_cons (off := 0) (off' := 1) rfl (show 0 + Try.prog.cellsOf 22 = 1 by kernel_rfl) (rdT_slice good Try.underlying22 rfl read2) (rdF_cons (off := 1) (off' := 2) rfl (show 1 + Try.prog.cellsOf 23 = 2 by kernel_rfl) (rdT_slice good Try.underlying23 rfl read37) (rdF_cons (off := 2) (off' := 3) rfl (show 2 + Try.prog.cellsOf 24 = 3 by kernel_rfl) (rdT_slice good Try.underlying24 rfl read66) (rdF_cons (off := 3) (off' := 4) rfl (show 3 + Try.prog.cellsOf 2 = 4 by kernel_rfl) (rdT_int Try.underlying2) (rdF_cons (off := 4) (off' := 5) rfl (show 4 + Try.prog.cellsOf 2 = 5 by kernel_rfl) (rdT_int Try.underlying2) (rdF_nil (Nat.le_of_eq (show Try.prog.cellsOf 26 = 5 by kernel_rfl))))))))).map (fun p => (⟨p.1, p.2.1, p.2.2.1, p.2.2.2.1, p.2.2.2.2.1⟩ : Job)) (fun p h => h) (fun p => rfl)
def Seg.ok (x : Seg) : Prop := InK .i64 (x.Long) ∧ InK .i64 (x.Rise) ∧ InK .i64 (x.Area) ∧ InK .i64 (x.Gap) ∧ True
def Seg.cs (x : Seg) : List (AV T) := [.sym .i64 x.Long, .sym .i64 x.Rise, .sym .i64 x.Area, .sym .i64 x.Gap]
def Seg.av (x : Seg) : AV T := .agg x.cs
theorem readC68 {w : World} : RdT Try.prog E w 68 Seg.ok Seg.cs :=
  (rdT_struct Try.underlying68 (rdF_cons (off := 0) (off' := 1) rfl (show 0 + Try.prog.cellsOf 2 = 1 by kernel_rfl) (rdT_int Try.underlying2) (rdF_cons (off := 1) (off' := 2) rfl (show 1 + Try.prog.cellsOf 2 = 2 by kernel_rfl) (rdT_int Try.underlying2) (rdF_cons (off := 2) (off' := 3) rfl (show 2 + Try.prog.cellsOf 2 = 3 by kernel_rfl) (rdT_int Try.underlying2) (rdF_cons (off := 3) (off' := 4) rfl (show 3 + Try.prog.cellsOf 2 = 4 by kernel_rfl) (rdT_int Try.underlying2) (rdF_nil (Nat.le_of_eq (show Try.prog.cellsOf 68 = 4 by kernel_rfl)))))))).map (fun p => (⟨p.1, p.2.1, p.2.2.1, p.2.2.2.1⟩ : Seg)) (fun p h => h) (fun p => rfl)
theorem read68 {w : World} : RdT Try.prog E w 68 (fun x : Seg => Seg.ok x) (E.enc 68) := readC68
def Hole.ok (x : Hole) : Prop := ((∀ y ∈ x.Segs, Seg.ok y) ∧ (x.Segs).length ≤ maxLen) ∧ True
def Hole.cs (x : Hole) : List (AV T) := [.sl 68 x.Segs false]
def Hole.av (x : Hole) : AV T := .agg x.cs
theorem readC56 {w : World} : RdT Try.prog E w 56 Hole.ok Hole.cs :=
  (rdT_struct Try.underlying56 (rdF_cons (off := 0) (off' := 1) rfl (show 0 + Try.prog.cellsOf 54 = 1 by kernel_rfl) (rdT_slice good Try.underlying54 rfl read68) (rdF_nil (Nat.le_of_eq (show Try.prog.cellsOf 56 = 1 by kernel_rfl))))).map (fun p => (⟨p.1⟩ : Hole)) (fun p h => h) (fun p => rfl)
def Range.ok (x : Range) : Prop := InK .i64 (x.Lo) ∧ InK .i64 (x.Hi) ∧ True
def Range.cs (x : Range) : List (AV T) := [.sym .i64 x.Lo, .sym .i64 x.Hi]
def Range.av (x : Range) : AV T := .agg x.cs
theorem readC58 {w : World} : RdT Try.prog E w 58 Range.ok Range.cs :=
  (rdT_struct Try.underlying58 (rdF_cons (off := 0) (off' := 1) rfl (show 0 + Try.prog.cellsOf 2 = 1 by kernel_rfl) (rdT_int Try.underlying2) (rdF_cons (off := 1) (off' := 2) rfl (show 1 + Try.prog.cellsOf 2 = 2 by kernel_rfl) (rdT_int Try.underlying2) (rdF_nil (Nat.le_of_eq (show Try.prog.cellsOf 58 = 2 by kernel_rfl)))))).map (fun p => (⟨p.1, p.2.1⟩ : Range)) (fun p h => h) (fun p => rfl)
def Test.ok (x : Test) : Prop := InK .i64 (x.P) ∧ True ∧ InK .i64 (x.Tick) ∧ True
def Test.cs (x : Test) : List (AV T) := [.sym .i64 x.P, .bool x.Held, .sym .i64 x.Tick]
def Test.av (x : Test) : AV T := .agg x.cs
theorem readC70 {w : World} : RdT Try.prog E w 70 Test.ok Test.cs :=
  (rdT_struct Try.underlying70 (rdF_cons (off := 0) (off' := 1) rfl (show 0 + Try.prog.cellsOf 2 = 1 by kernel_rfl) (rdT_int Try.underlying2) (rdF_cons (off := 1) (off' := 2) rfl (show 1 + Try.prog.cellsOf 4 = 2 by kernel_rfl) (rdT_bool Try.underlying4) (rdF_cons (off := 2) (off' := 3) rfl (show 2 + Try.prog.cellsOf 2 = 3 by kernel_rfl) (rdT_int Try.underlying2) (rdF_nil (Nat.le_of_eq (show Try.prog.cellsOf 70 = 3 by kernel_rfl))))))).map (fun p => (⟨p.1, p.2.1, p.2.2.1⟩ : Test)) (fun p h => h) (fun p => rfl)
def Sheet.ok (x : Sheet) : Prop := ((∀ y ∈ x.Ends, InK .i64 (y)) ∧ (x.Ends).length ≤ maxLen) ∧ ((∀ y ∈ x.Loads, InK .i64 (y)) ∧ (x.Loads).length ≤ maxLen) ∧ ((∀ y ∈ x.Grades, InK .i64 (y)) ∧ (x.Grades).length ≤ maxLen) ∧ InK .i64 (x.Factor) ∧ InK .i64 (x.Over) ∧ True
def Sheet.cs (x : Sheet) : List (AV T) := [.sl 2 x.Ends false, .sl 2 x.Loads false, .sl 2 x.Grades false, .sym .i64 x.Factor, .sym .i64 x.Over]
def Sheet.av (x : Sheet) : AV T := .agg x.cs
theorem readC72 {w : World} : RdT Try.prog E w 72 Sheet.ok Sheet.cs :=
  (rdT_struct Try.underlying72 (rdF_cons (off := 0) (off' := 1) rfl (show 0 + Try.prog.cellsOf 22 = 1 by kernel_rfl) (rdT_slice good Try.underlying22 rfl read2) (rdF_cons (off := 1) (off' := 2) rfl (show 1 + Try.prog.cellsOf 22 = 2 by kernel_rfl) (rdT_slice good Try.underlying22 rfl read2) (rdF_cons (off := 2) (off' := 3) rfl (show 2 + Try.prog.cellsOf 22 = 3 by kernel_rfl) (rdT_slice good Try.underlying22 rfl read2) (rdF_cons (off := 3) (off' := 4) rfl (show 3 + Try.prog.cellsOf 2 = 4 by kernel_rfl) (rdT_int Try.underlying2) (rdF_cons (off := 4) (off' := 5) rfl (show 4 + Try.prog.cellsOf 2 = 5 by kernel_rfl) (rdT_int Try.underlying2) (rdF_nil (Nat.le_of_eq (show Try.prog.cellsOf 72 = 5 by kernel_rfl))))))))).map (fun p => (⟨p.1, p.2.1, p.2.2.1, p.2.2.2.1, p.2.2.2.2.1⟩ : Sheet)) (fun p h => h) (fun p => rfl)
theorem read3 {w : World} : RdT Try.prog E w 3 (fun x : Int => InK .i64 (x)) (E.enc 3) := (rdT_int Try.underlying3)
def Best.ok (x : Best) : Prop := ((∀ y ∈ x.choice, InK .i64 (y)) ∧ (x.choice).length ≤ maxLen) ∧ InK .i64 (x.cost) ∧ True
def Best.cs (x : Best) : List (AV T) := [.sl 3 x.choice false, .sym .i64 x.cost]
def Best.av (x : Best) : AV T := .agg x.cs
theorem readC109 {w : World} : RdT Try.prog E w 109 Best.ok Best.cs :=
  (rdT_struct Try.underlying109 (rdF_cons (off := 0) (off' := 1) rfl (show 0 + Try.prog.cellsOf 44 = 1 by kernel_rfl) (rdT_slice good Try.underlying44 rfl read3) (rdF_cons (off := 1) (off' := 2) rfl (show 1 + Try.prog.cellsOf 2 = 2 by kernel_rfl) (rdT_int Try.underlying2) (rdF_nil (Nat.le_of_eq (show Try.prog.cellsOf 109 = 2 by kernel_rfl)))))).map (fun p => (⟨p.1, p.2.1⟩ : Best)) (fun p h => h) (fun p => rfl)
def Part.ok (x : Part) : Prop := Seg.ok x.seg ∧ InK .i64 (x.low) ∧ InK .i64 (x.high) ∧ True
def Part.cs (x : Part) : List (AV T) := [.sym .i64 x.seg.Long, .sym .i64 x.seg.Rise, .sym .i64 x.seg.Area, .sym .i64 x.seg.Gap, .sym .i64 x.low, .sym .i64 x.high]
def Part.av (x : Part) : AV T := .agg x.cs
theorem readC126 {w : World} : RdT Try.prog E w 126 Part.ok Part.cs :=
  (rdT_struct Try.underlying126 (rdF_cons (off := 0) (off' := 4) rfl (show 0 + Try.prog.cellsOf 68 = 4 by kernel_rfl) readC68 (rdF_cons (off := 4) (off' := 5) rfl (show 4 + Try.prog.cellsOf 2 = 5 by kernel_rfl) (rdT_int Try.underlying2) (rdF_cons (off := 5) (off' := 6) rfl (show 5 + Try.prog.cellsOf 2 = 6 by kernel_rfl) (rdT_int Try.underlying2) (rdF_nil (Nat.le_of_eq (show Try.prog.cellsOf 126 = 6 by kernel_rfl))))))).map (fun p => (⟨p.1, p.2.1, p.2.2.1⟩ : Part)) (fun p h => h) (fun p => rfl)
def Need.ok (x : Need) : Prop := InK .i64 (x.burst) ∧ InK .i64 (x.collapse) ∧ True
def Need.cs (x : Need) : List (AV T) := [.sym .i64 x.burst, .sym .i64 x.collapse]
def Need.av (x : Need) : AV T := .agg x.cs
theorem readC135 {w : World} : RdT Try.prog E w 135 Need.ok Need.cs :=
  (rdT_struct Try.underlying135 (rdF_cons (off := 0) (off' := 1) rfl (show 0 + Try.prog.cellsOf 2 = 1 by kernel_rfl) (rdT_int Try.underlying2) (rdF_cons (off := 1) (off' := 2) rfl (show 1 + Try.prog.cellsOf 2 = 2 by kernel_rfl) (rdT_int Try.underlying2) (rdF_nil (Nat.le_of_eq (show Try.prog.cellsOf 135 = 2 by kernel_rfl)))))).map (fun p => (⟨p.1, p.2.1⟩ : Need)) (fun p h => h) (fun p => rfl)
def Section.ok (x : Section) : Prop := InK .i64 (x.from') ∧ InK .i64 (x.to) ∧ True
def Section.cs (x : Section) : List (AV T) := [.sym .i64 x.from', .sym .i64 x.to]
def Section.av (x : Section) : AV T := .agg x.cs
theorem readC140 {w : World} : RdT Try.prog E w 140 Section.ok Section.cs :=
  (rdT_struct Try.underlying140 (rdF_cons (off := 0) (off' := 1) rfl (show 0 + Try.prog.cellsOf 2 = 1 by kernel_rfl) (rdT_int Try.underlying2) (rdF_cons (off := 1) (off' := 2) rfl (show 1 + Try.prog.cellsOf 2 = 2 by kernel_rfl) (rdT_int Try.underlying2) (rdF_nil (Nat.le_of_eq (show Try.prog.cellsOf 140 = 2 by kernel_rfl)))))).map (fun p => (⟨p.1, p.2.1⟩ : Section)) (fun p h => h) (fun p => rfl)
theorem read70 {w : World} : RdT Try.prog E w 70 (fun x : Test => Test.ok x) (E.enc 70) := readC70
theorem read135 {w : World} : RdT Try.prog E w 135 (fun x : Need => Need.ok x) (E.enc 135) := readC135
theorem read35 {w : World} : RdT Try.prog E w 35 (fun x : Line => Line.ok x) (E.enc 35) := readC35
theorem laid : laidOutB Try.prog = true := by kernel_rfl
theorem mapsR : mapsRowed Try.prog = true := by kernel_rfl
theorem fullS : ∀ t e, t < Try.prog.types.size → Try.prog.underlying t = some (.slice e) → 0 < Try.prog.cellsOf e := slices_full_of Try.prog (by kernel_rfl)
theorem kids : Kids Try.prog (· < Try.prog.types.size) := kids_rows laid mapsR
end Go.Proofs.Ytcddppakogialaa.W
