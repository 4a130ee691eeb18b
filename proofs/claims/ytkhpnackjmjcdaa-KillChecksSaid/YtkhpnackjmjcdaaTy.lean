/- The types of the program as Lean has them, and the numbers of its functions. -/
import Derived.Test.YtkhpnackjmjcdaaRows
import Derived.Test.YtkhpnackjmjcdaaCz5
set_option linter.unusedVariables false
noncomputable section
namespace Go.Proofs.Ytkhpnackjmjcdaa.W
open Go Go.Cx Go.RowKit Go.ChangeShapes Go.WideShapes

/-- type 29: moonpool/api.Program -/
structure Program where
  Kind : Int
  Weight : Int
  Margin : Int
  Err : Int

/-- type 44: moonpool/api.Range -/
structure Range where
  Lo : Int
  Hi : Int

/-- type 47: moonpool/api.Moment -/
structure Moment where
  Pumped : Int
  Gas : Range
  Base : Range
  Surface : Range
  Points : List Range

/-- type 55: moonpool/api.Knot -/
structure Knot where
  At : Int
  V : Int

/-- type 94: moonpool/api.Seg -/
structure Seg where
  Long : Int
  Rise : Int
  Area : Int
  Gap : Int

/-- type 24: moonpool/api.Hole -/
structure Hole where
  Segs : List Seg

/-- type 27: moonpool/api.Well -/
structure Well where
  Hole : Hole
  Weight : Int
  Points : List Knot
  Limit : Int
  Pipe : Int
  Step : Int

/-- type 31: moonpool/api.Bubble -/
structure Bubble where
  Volume : Int
  Pore : Int

/-- type 51: moonpool/api.Outcome -/
structure Outcome where
  Is : Int
  Step : Int
  Err : Int
  Why : Int
  Point : Int

/-- type 58: moonpool/moonpoolkit.Bore -/
structure Bore where
  Segs : List Int
  Points : List Int
  Weight : Int
  Limit : Int
  Pipe : Int
  Step : Int
  Kind : Int
  Kill : Int
  Margin : Int
  Err : Int
  Volumes : List Int
  Pores : List Int

/-- type 97: moonpool/api.Line -/
structure Line where
  Knots : List Knot

/-- type 114: moonpool/fluid.part -/
structure Part where
  seg : Seg
  low : Int
  high : Int

/-- type 120: moonpool/kill.span -/
structure Span where
  Lo : Int
  Hi : Int

/-- type 140: moonpool/earth.piece -/
structure Piece where
  ends : Knot × Knot

def T : Nat → Type
  | 2 => Int
  | 3 => Int
  | 29 => Program
  | 44 => Range
  | 47 => Moment
  | 55 => Knot
  | 56 => List Int
  | 94 => Seg
  | _ => Unit

def okT (τ : Nat) : Bool := memN τ [2, 3, 29, 44, 47, 55, 56, 94]
def encT : (τ : Nat) → T τ → List (AV T)
  | 2, (x : Int) => [.sym .i64 x]
  | 3, (x : Int) => [.sym .i64 x]
  | 29, (x : Program) => [.sym .i64 x.Kind, .sym .i64 x.Weight, .sym .i64 x.Margin, .sym .i64 x.Err]
  | 44, (x : Range) => [.sym .i64 x.Lo, .sym .i64 x.Hi]
  | 47, (x : Moment) => [.sym .i64 x.Pumped, .sym .i64 x.Gas.Lo, .sym .i64 x.Gas.Hi, .sym .i64 x.Base.Lo, .sym .i64 x.Base.Hi, .sym .i64 x.Surface.Lo, .sym .i64 x.Surface.Hi, .sl 44 x.Points false]
  | 55, (x : Knot) => [.sym .i64 x.At, .sym .i64 x.V]
  | 56, (x : List Int) => [.sl 2 x false]
  | 94, (x : Seg) => [.sym .i64 x.Long, .sym .i64 x.Rise, .sym .i64 x.Area, .sym .i64 x.Gap]
  | _, _ => []

def decT : (τ : Nat) → ((σ : Nat) → AV T → Option (List (T σ))) → List (AV T) → Option (T τ)
  | 2, fz, [c0] => ((decI .i64 c0).bind fun x0 => some (x0 : Int) : Option Int)
  | 3, fz, [c0] => ((decI .i64 c0).bind fun x0 => some (x0 : Int) : Option Int)
  | 29, fz, [c0, c1, c2, c3] => ((decI .i64 c0).bind fun x0 => (decI .i64 c1).bind fun x1 => (decI .i64 c2).bind fun x2 => (decI .i64 c3).bind fun x3 => some (⟨x0, x1, x2, x3⟩ : Program) : Option Program)
  | 44, fz, [c0, c1] => ((decI .i64 c0).bind fun x0 => (decI .i64 c1).bind fun x1 => some (⟨x0, x1⟩ : Range) : Option Range)
  | 47, fz, [c0, c1, c2, c3, c4, c5, c6, c7] => ((decI .i64 c0).bind fun x0 => (decI .i64 c1).bind fun x1 => (decI .i64 c2).bind fun x2 => (decI .i64 c3).bind fun x3 => (decI .i64 c4).bind fun x4 => (decI .i64 c5).bind fun x5 => (decI .i64 c6).bind fun x6 => (fz 44 c7).bind fun x7 => some (⟨x0, (⟨x1, x2⟩ : Range), (⟨x3, x4⟩ : Range), (⟨x5, x6⟩ : Range), x7⟩ : Moment) : Option Moment)
  | 55, fz, [c0, c1] => ((decI .i64 c0).bind fun x0 => (decI .i64 c1).bind fun x1 => some (⟨x0, x1⟩ : Knot) : Option Knot)
  | 56, fz, [c0] => ((fz 2 c0).bind fun x0 => some (x0 : List Int) : Option (List Int))
  | 94, fz, [c0, c1, c2, c3] => ((decI .i64 c0).bind fun x0 => (decI .i64 c1).bind fun x1 => (decI .i64 c2).bind fun x2 => (decI .i64 c3).bind fun x3 => some (⟨x0, x1, x2, x3⟩ : Seg) : Option Seg)
  | _, _, _ => none

def dT : (τ : Nat) → T τ
  | 2 => (0 : Int)
  | 3 => (0 : Int)
  | 29 => (⟨0, 0, 0, 0⟩ : Program)
  | 44 => (⟨0, 0⟩ : Range)
  | 47 => (⟨0, ⟨0, 0⟩, ⟨0, 0⟩, ⟨0, 0⟩, []⟩ : Moment)
  | 55 => (⟨0, 0⟩ : Knot)
  | 56 => ([] : List Int)
  | 94 => (⟨0, 0, 0, 0⟩ : Seg)
  | n => by
    unfold T
    split <;> first | exact () | exact (0 : Int) | exact ([] : List Int) | exact (⟨0, 0, 0, 0⟩ : Program) | exact (⟨0, 0, 0, 0⟩ : Seg) | exact (⟨0, 0⟩ : Knot) | exact (⟨0, 0⟩ : Range) | exact (⟨0, ⟨0, 0⟩, ⟨0, 0⟩, ⟨0, 0⟩, []⟩ : Moment)
def E : Enc T := ⟨okT, encT, dT, fun t => bif Try.prog.eqGuardType Try.prog.depth t then false else bif Try.prog.stoodInHeld t then false else true, decT⟩
theorem ok_cases {τ : Nat} (h : E.ok τ = true) : τ = 2 ∨ τ = 3 ∨ τ = 29 ∨ τ = 44 ∨ τ = 47 ∨ τ = 55 ∨ τ = 56 ∨ τ = 94 := by
  have h := memN_iff.1 (show memN τ [2, 3, 29, 44, 47, 55, 56, 94] = true from h)
  simpa only [List.mem_cons, List.mem_nil_iff, or_false] using h
set_option maxHeartbeats 4000000 in
theorem decOk : E.DecOk Try.prog := by
  intro τ fz cs x h hd
  rcases ok_cases h with rfl | rfl | rfl | rfl | rfl | rfl | rfl | rfl
  · match cs, hd with
    | [c0], hd =>
      have hd : ((decI .i64 c0).bind fun x0 => some (x0 : Int)) = some x := hd
      obtain ⟨x0, h0, hd⟩ := Option.bind_eq_some_iff.1 hd
      cases hd
      exact ⟨decI_to h0, trivial⟩
  · match cs, hd with
    | [c0], hd =>
      have hd : ((decI .i64 c0).bind fun x0 => some (x0 : Int)) = some x := hd
      obtain ⟨x0, h0, hd⟩ := Option.bind_eq_some_iff.1 hd
      cases hd
      exact ⟨decI_to h0, trivial⟩
  · match cs, hd with
    | [c0, c1, c2, c3], hd =>
      have hd : ((decI .i64 c0).bind fun x0 => (decI .i64 c1).bind fun x1 => (decI .i64 c2).bind fun x2 => (decI .i64 c3).bind fun x3 => some (⟨x0, x1, x2, x3⟩ : Program)) = some x := hd
      obtain ⟨x0, h0, hd⟩ := Option.bind_eq_some_iff.1 hd
      obtain ⟨x1, h1, hd⟩ := Option.bind_eq_some_iff.1 hd
      obtain ⟨x2, h2, hd⟩ := Option.bind_eq_some_iff.1 hd
      obtain ⟨x3, h3, hd⟩ := Option.bind_eq_some_iff.1 hd
      cases hd
      exact ⟨decI_to h0, decI_to h1, decI_to h2, decI_to h3, trivial⟩
  · match cs, hd with
    | [c0, c1], hd =>
      have hd : ((decI .i64 c0).bind fun x0 => (decI .i64 c1).bind fun x1 => some (⟨x0, x1⟩ : Range)) = some x := hd
      obtain ⟨x0, h0, hd⟩ := Option.bind_eq_some_iff.1 hd
      obtain ⟨x1, h1, hd⟩ := Option.bind_eq_some_iff.1 hd
      cases hd
      exact ⟨decI_to h0, decI_to h1, trivial⟩
  · match cs, hd with
    | [c0, c1, c2, c3, c4, c5, c6, c7], hd =>
      have hd : ((decI .i64 c0).bind fun x0 => (decI .i64 c1).bind fun x1 => (decI .i64 c2).bind fun x2 => (decI .i64 c3).bind fun x3 => (decI .i64 c4).bind fun x4 => (decI .i64 c5).bind fun x5 => (decI .i64 c6).bind fun x6 => (fz 44 c7).bind fun x7 => some (⟨x0, (⟨x1, x2⟩ : Range), (⟨x3, x4⟩ : Range), (⟨x5, x6⟩ : Range), x7⟩ : Moment)) = some x := hd
      obtain ⟨x0, h0, hd⟩ := Option.bind_eq_some_iff.1 hd
      obtain ⟨x1, h1, hd⟩ := Option.bind_eq_some_iff.1 hd
      obtain ⟨x2, h2, hd⟩ := Option.bind_eq_some_iff.1 hd
      obtain ⟨x3, h3, hd⟩ := Option.bind_eq_some_iff.1 hd
      obtain ⟨x4, h4, hd⟩ := Option.bind_eq_some_iff.1 hd
      obtain ⟨x5, h5, hd⟩ := Option.bind_eq_some_iff.1 hd
      obtain ⟨x6, h6, hd⟩ := Option.bind_eq_some_iff.1 hd
      obtain ⟨x7, h7, hd⟩ := Option.bind_eq_some_iff.1 hd
      cases hd
      exact ⟨decI_to h0, decI_to h1, decI_to h2, decI_to h3, decI_to h4, decI_to h5, decI_to h6, fz_to h7, trivial⟩
  · match cs, hd with
    | [c0, c1], hd =>
      have hd : ((decI .i64 c0).bind fun x0 => (decI .i64 c1).bind fun x1 => some (⟨x0, x1⟩ : Knot)) = some x := hd
      obtain ⟨x0, h0, hd⟩ := Option.bind_eq_some_iff.1 hd
      obtain ⟨x1, h1, hd⟩ := Option.bind_eq_some_iff.1 hd
      cases hd
      exact ⟨decI_to h0, decI_to h1, trivial⟩
  · match cs, hd with
    | [c0], hd =>
      have hd : ((fz 2 c0).bind fun x0 => some (x0 : List Int)) = some x := hd
      obtain ⟨x0, h0, hd⟩ := Option.bind_eq_some_iff.1 hd
      cases hd
      exact ⟨fz_to h0, trivial⟩
  · match cs, hd with
    | [c0, c1, c2, c3], hd =>
      have hd : ((decI .i64 c0).bind fun x0 => (decI .i64 c1).bind fun x1 => (decI .i64 c2).bind fun x2 => (decI .i64 c3).bind fun x3 => some (⟨x0, x1, x2, x3⟩ : Seg)) = some x := hd
      obtain ⟨x0, h0, hd⟩ := Option.bind_eq_some_iff.1 hd
      obtain ⟨x1, h1, hd⟩ := Option.bind_eq_some_iff.1 hd
      obtain ⟨x2, h2, hd⟩ := Option.bind_eq_some_iff.1 hd
      obtain ⟨x3, h3, hd⟩ := Option.bind_eq_some_iff.1 hd
      cases hd
      exact ⟨decI_to h0, decI_to h1, decI_to h2, decI_to h3, trivial⟩
set_option maxRecDepth 100000 in
theorem good : E.Good Try.prog := by
  refine ⟨fun τ h => ?_, fun τ h => ?_, fun τ h => ?_, fun t h => ?_, decOk⟩
  · rcases ok_cases h with rfl | rfl | rfl | rfl | rfl | rfl | rfl | rfl
    · intro x; exact (show 1 = Try.prog.cellsOf 2 by kernel_rfl)
    · intro x; exact (show 1 = Try.prog.cellsOf 3 by kernel_rfl)
    · intro x; exact (show 4 = Try.prog.cellsOf 29 by kernel_rfl)
    · intro x; exact (show 2 = Try.prog.cellsOf 44 by kernel_rfl)
    · intro x; exact (show 8 = Try.prog.cellsOf 47 by kernel_rfl)
    · intro x; exact (show 2 = Try.prog.cellsOf 55 by kernel_rfl)
    · intro x; exact (show 1 = Try.prog.cellsOf 56 by kernel_rfl)
    · intro x; exact (show 4 = Try.prog.cellsOf 94 by kernel_rfl)
  · rcases ok_cases h with rfl | rfl | rfl | rfl | rfl | rfl | rfl | rfl
    · exact (Nat.lt_of_lt_of_eq (by decide : 0 < 1) (show 1 = Try.prog.cellsOf 2 by kernel_rfl))
    · exact (Nat.lt_of_lt_of_eq (by decide : 0 < 1) (show 1 = Try.prog.cellsOf 3 by kernel_rfl))
    · exact (Nat.lt_of_lt_of_eq (by decide : 0 < 4) (show 4 = Try.prog.cellsOf 29 by kernel_rfl))
    · exact (Nat.lt_of_lt_of_eq (by decide : 0 < 2) (show 2 = Try.prog.cellsOf 44 by kernel_rfl))
    · exact (Nat.lt_of_lt_of_eq (by decide : 0 < 8) (show 8 = Try.prog.cellsOf 47 by kernel_rfl))
    · exact (Nat.lt_of_lt_of_eq (by decide : 0 < 2) (show 2 = Try.prog.cellsOf 55 by kernel_rfl))
    · exact (Nat.lt_of_lt_of_eq (by decide : 0 < 1) (show 1 = Try.prog.cellsOf 56 by kernel_rfl))
    · exact (Nat.lt_of_lt_of_eq (by decide : 0 < 4) (show 4 = Try.prog.cellsOf 94 by kernel_rfl))
  · rcases ok_cases h with rfl | rfl | rfl | rfl | rfl | rfl | rfl | rfl
    · intro x; rfl
    · intro x; rfl
    · intro x; rfl
    · intro x; rfl
    · intro x; rfl
    · intro x; rfl
    · intro x; rfl
    · intro x; rfl
  · have h : (bif Try.prog.eqGuardType Try.prog.depth t then false else bif Try.prog.stoodInHeld t then false else true) = true := h
    cases h1 : Try.prog.eqGuardType Try.prog.depth t with
    | true => rw [h1] at h; cases h
    | false =>
      cases h2 : Try.prog.stoodInHeld t with
      | true => rw [h1, h2] at h; cases h
      | false => exact ⟨rfl, rfl⟩
instance goodP : Go.Cx.GoodP Try.prog E := ⟨good⟩
theorem own : ownKnob Try.prog.godebug = none := by kernel_rfl
theorem mixes : Try.prog.follows .mixedOrders = true := by kernel_rfl
theorem named : Try.prog.funcs.all (fun fn => !(fn.name == "runtime.NumGoroutine")) = true := by kernel_rfl
theorem names : NamesOk Try.prog := fun f fn h => by
  have := Array.all_eq_true_iff_forall_mem.1 named fn (Array.mem_of_getElem? h)
  simpa using this
set_option maxRecDepth 100000
def Seg.ok (x : Seg) : Prop := InK .i64 (x.Long) ∧ InK .i64 (x.Rise) ∧ InK .i64 (x.Area) ∧ InK .i64 (x.Gap) ∧ True
def Seg.cs (x : Seg) : List (AV T) := [.sym .i64 x.Long, .sym .i64 x.Rise, .sym .i64 x.Area, .sym .i64 x.Gap]
def Seg.av (x : Seg) : AV T := .agg x.cs
theorem readC94 {w : World} : RdT Try.prog E w 94 Seg.ok Seg.cs :=
  (rdT_struct Try.underlying94 (rdF_cons (off := 0) (off' := 1) rfl (show 0 + Try.prog.cellsOf 2 = 1 by kernel_rfl) (rdT_int Try.underlying2) (rdF_cons (off := 1) (off' := 2) rfl (show 1 + Try.prog.cellsOf 2 = 2 by kernel_rfl) (rdT_int Try.underlying2) (rdF_cons (off := 2) (off' := 3) rfl (show 2 + Try.prog.cellsOf 2 = 3 by kernel_rfl) (rdT_int Try.underlying2) (rdF_cons (off := 3) (off' := 4) rfl (show 3 + Try.prog.cellsOf 2 = 4 by kernel_rfl) (rdT_int Try.underlying2) (rdF_nil (Nat.le_of_eq (show Try.prog.cellsOf 94 = 4 by kernel_rfl)))))))).map (fun p => (⟨p.1, p.2.1, p.2.2.1, p.2.2.2.1⟩ : Seg)) (fun p h => h) (fun p => rfl)
theorem read94 {w : World} : RdT Try.prog E w 94 (fun x : Seg => Seg.ok x) (E.enc 94) := readC94
def Hole.ok (x : Hole) : Prop := ((∀ y ∈ x.Segs, Seg.ok y) ∧ (x.Segs).length ≤ maxLen) ∧ True
def Hole.cs (x : Hole) : List (AV T) := [.sl 94 x.Segs false]
def Hole.av (x : Hole) : AV T := .agg x.cs
theorem readC24 {w : World} : RdT Try.prog E w 24 Hole.ok Hole.cs :=
  (rdT_struct Try.underlying24 (rdF_cons (off := 0) (off' := 1) rfl (show 0 + Try.prog.cellsOf 22 = 1 by kernel_rfl) (rdT_slice good Try.underlying22 rfl read94) (rdF_nil (Nat.le_of_eq (show Try.prog.cellsOf 24 = 1 by kernel_rfl))))).map (fun p => (⟨p.1⟩ : Hole)) (fun p h => h) (fun p => rfl)
def Knot.ok (x : Knot) : Prop := InK .i64 (x.At) ∧ InK .i64 (x.V) ∧ True
def Knot.cs (x : Knot) : List (AV T) := [.sym .i64 x.At, .sym .i64 x.V]
def Knot.av (x : Knot) : AV T := .agg x.cs
theorem readC55 {w : World} : RdT Try.prog E w 55 Knot.ok Knot.cs :=
  (rdT_struct Try.underlying55 (rdF_cons (off := 0) (off' := 1) rfl (show 0 + Try.prog.cellsOf 2 = 1 by kernel_rfl) (rdT_int Try.underlying2) (rdF_cons (off := 1) (off' := 2) rfl (show 1 + Try.prog.cellsOf 2 = 2 by kernel_rfl) (rdT_int Try.underlying2) (rdF_nil (Nat.le_of_eq (show Try.prog.cellsOf 55 = 2 by kernel_rfl)))))).map (fun p => (⟨p.1, p.2.1⟩ : Knot)) (fun p h => h) (fun p => rfl)
theorem read55 {w : World} : RdT Try.prog E w 55 (fun x : Knot => Knot.ok x) (E.enc 55) := readC55
def Well.ok (x : Well) : Prop := Hole.ok x.Hole ∧ InK .i64 (x.Weight) ∧ ((∀ y ∈ x.Points, Knot.ok y) ∧ (x.Points).length ≤ maxLen) ∧ InK .i64 (x.Limit) ∧ InK .i64 (x.Pipe) ∧ InK .i64 (x.Step) ∧ True
def Well.cs (x : Well) : List (AV T) := [.sl 94 x.Hole.Segs false, .sym .i64 x.Weight, .sl 55 x.Points false, .sym .i64 x.Limit, .sym .i64 x.Pipe, .sym .i64 x.Step]
def Well.av (x : Well) : AV T := .agg x.cs
theorem readC27 {w : World} : RdT Try.prog E w 27 Well.ok Well.cs :=
  (rdT_struct Try.underlying27 (rdF_cons (off := 0) (off' := 1) rfl (show 0 + Try.prog.cellsOf 24 = 1 by kernel_rfl) readC24 (rdF_cons (off := 1) (off' := 2) rfl (show 1 + Try.prog.cellsOf 2 = 2 by kernel_rfl) (rdT_int Try.underlying2) (rdF_cons (off := 2) (off' := 3) rfl (show 2 + Try.prog.cellsOf 25 = 3 by kernel_rfl) (rdT_slice good Try.underlying25 rfl read55) (rdF_cons (off := 3) (off' := 4) rfl (show 3 + Try.prog.cellsOf 2 = 4 by kernel_rfl) (rdT_int Try.underlying2) (rdF_cons (off := 4) (off' := 5) rfl (show 4 + Try.prog.cellsOf 2 = 5 by kernel_rfl) (rdT_int Try.underlying2) (rdF_cons (off := 5) (off' := 6) rfl (show 5 + Try.prog.cellsOf 2 = 6 by kernel_rfl) (rdT_int Try.underlying2) (rdF_nil (Nat.le_of_eq (show Try.prog.cellsOf 27 = 6 by kernel_rfl)))))))))).map (fun p => (⟨p.1, p.2.1, p.2.2.1, p.2.2.2.1, p.2.2.2.2.1, p.2.2.2.2.2.1⟩ : Well)) (fun p h => h) (fun p => rfl)
def Program.ok (x : Program) : Prop := InK .i64 (x.Kind) ∧ InK .i64 (x.Weight) ∧ InK .i64 (x.Margin) ∧ InK .i64 (x.Err) ∧ True
def Program.cs (x : Program) : List (AV T) := [.sym .i64 x.Kind, .sym .i64 x.Weight, .sym .i64 x.Margin, .sym .i64 x.Err]
def Program.av (x : Program) : AV T := .agg x.cs
theorem readC29 {w : World} : RdT Try.prog E w 29 Program.ok Program.cs :=
  (rdT_struct Try.underlying29 (rdF_cons (off := 0) (off' := 1) rfl (show 0 + Try.prog.cellsOf 3 = 1 by kernel_rfl) (rdT_int Try.underlying3) (rdF_cons (off := 1) (off' := 2) rfl (show 1 + Try.prog.cellsOf 2 = 2 by kernel_rfl) (rdT_int Try.underlying2) (rdF_cons (off := 2) (off' := 3) rfl (show 2 + Try.prog.cellsOf 2 = 3 by kernel_rfl) (rdT_int Try.underlying2) (rdF_cons (off := 3) (off' := 4) rfl (show 3 + Try.prog.cellsOf 2 = 4 by kernel_rfl) (rdT_int Try.underlying2) (rdF_nil (Nat.le_of_eq (show Try.prog.cellsOf 29 = 4 by kernel_rfl)))))))).map (fun p => (⟨p.1, p.2.1, p.2.2.1, p.2.2.2.1⟩ : Program)) (fun p h => h) (fun p => rfl)
def Bubble.ok (x : Bubble) : Prop := InK .i64 (x.Volume) ∧ InK .i64 (x.Pore) ∧ True
def Bubble.cs (x : Bubble) : List (AV T) := [.sym .i64 x.Volume, .sym .i64 x.Pore]
def Bubble.av (x : Bubble) : AV T := .agg x.cs
theorem readC31 {w : World} : RdT Try.prog E w 31 Bubble.ok Bubble.cs :=
  (rdT_struct Try.underlying31 (rdF_cons (off := 0) (off' := 1) rfl (show 0 + Try.prog.cellsOf 2 = 1 by kernel_rfl) (rdT_int Try.underlying2) (rdF_cons (off := 1) (off' := 2) rfl (show 1 + Try.prog.cellsOf 2 = 2 by kernel_rfl) (rdT_int Try.underlying2) (rdF_nil (Nat.le_of_eq (show Try.prog.cellsOf 31 = 2 by kernel_rfl)))))).map (fun p => (⟨p.1, p.2.1⟩ : Bubble)) (fun p h => h) (fun p => rfl)
def Range.ok (x : Range) : Prop := InK .i64 (x.Lo) ∧ InK .i64 (x.Hi) ∧ True
def Range.cs (x : Range) : List (AV T) := [.sym .i64 x.Lo, .sym .i64 x.Hi]
def Range.av (x : Range) : AV T := .agg x.cs
theorem readC44 {w : World} : RdT Try.prog E w 44 Range.ok Range.cs :=
  (rdT_struct Try.underlying44 (rdF_cons (off := 0) (off' := 1) rfl (show 0 + Try.prog.cellsOf 2 = 1 by kernel_rfl) (rdT_int Try.underlying2) (rdF_cons (off := 1) (off' := 2) rfl (show 1 + Try.prog.cellsOf 2 = 2 by kernel_rfl) (rdT_int Try.underlying2) (rdF_nil (Nat.le_of_eq (show Try.prog.cellsOf 44 = 2 by kernel_rfl)))))).map (fun p => (⟨p.1, p.2.1⟩ : Range)) (fun p h => h) (fun p => rfl)
theorem read44 {w : World} : RdT Try.prog E w 44 (fun x : Range => Range.ok x) (E.enc 44) := readC44
def Moment.ok (x : Moment) : Prop := InK .i64 (x.Pumped) ∧ Range.ok x.Gas ∧ Range.ok x.Base ∧ Range.ok x.Surface ∧ ((∀ y ∈ x.Points, Range.ok y) ∧ (x.Points).length ≤ maxLen) ∧ True
def Moment.cs (x : Moment) : List (AV T) := [.sym .i64 x.Pumped, .sym .i64 x.Gas.Lo, .sym .i64 x.Gas.Hi, .sym .i64 x.Base.Lo, .sym .i64 x.Base.Hi, .sym .i64 x.Surface.Lo, .sym .i64 x.Surface.Hi, .sl 44 x.Points false]
def Moment.av (x : Moment) : AV T := .agg x.cs
theorem readC47 {w : World} : RdT Try.prog E w 47 Moment.ok Moment.cs :=
  (rdT_struct Try.underlying47 (rdF_cons (off := 0) (off' := 1) rfl (show 0 + Try.prog.cellsOf 2 = 1 by kernel_rfl) (rdT_int Try.underlying2) (rdF_cons (off := 1) (off' := 3) rfl (show 1 + Try.prog.cellsOf 44 = 3 by kernel_rfl) readC44 (rdF_cons (off := 3) (off' := 5) rfl (show 3 + Try.prog.cellsOf 44 = 5 by kernel_rfl) readC44 (rdF_cons (off := 5) (off' := 7) rfl (show 5 + Try.prog.cellsOf 44 = 7 by kernel_rfl) readC44 (rdF_cons (off := 7) (off' := 8) rfl (show 7 + Try.prog.cellsOf 45 = 8 by kernel_rfl) (rdT_slice good Try.underlying45 rfl read44) (rdF_nil (Nat.le_of_eq (show Try.prog.cellsOf 47 = 8 by kernel_rfl))))))))).map (fun p => (⟨p.1, p.2.1, p.2.2.1, p.2.2.2.1, p.2.2.2.2.1⟩ : Moment)) (fun p h => h) (fun p => rfl)
def Outcome.ok (x : Outcome) : Prop := InK .i64 (x.Is) ∧ InK .i64 (x.Step) ∧ InK .i64 (x.Err) ∧ InK .i64 (x.Why) ∧ InK .i64 (x.Point) ∧ True
def Outcome.cs (x : Outcome) : List (AV T) := [.sym .i64 x.Is, .sym .i64 x.Step, .sym .i64 x.Err, .sym .i64 x.Why, .sym .i64 x.Point]
def Outcome.av (x : Outcome) : AV T := .agg x.cs
theorem readC51 {w : World} : RdT Try.prog E w 51 Outcome.ok Outcome.cs :=
  (rdT_struct Try.underlying51 (rdF_cons (off := 0) (off' := 1) rfl (show 0 + Try.prog.cellsOf 3 = 1 by kernel_rfl) (rdT_int Try.underlying3) (rdF_cons (off := 1) (off' := 2) rfl (show 1 + Try.prog.cellsOf 3 = 2 by kernel_rfl) (rdT_int Try.underlying3) (rdF_cons (off := 2) (off' := 3) rfl (show 2 + Try.prog.cellsOf 3 = 3 by kernel_rfl) (rdT_int Try.underlying3) (rdF_cons (off := 3) (off' := 4) rfl (show 3 + Try.prog.cellsOf 3 = 4 by kernel_rfl) (rdT_int Try.underlying3) (rdF_cons (off := 4) (off' := 5) rfl (show 4 + Try.prog.cellsOf 3 = 5 by kernel_rfl) (rdT_int Try.underlying3) (rdF_nil (Nat.le_of_eq (show Try.prog.cellsOf 51 = 5 by kernel_rfl))))))))).map (fun p => (⟨p.1, p.2.1, p.2.2.1, p.2.2.2.1, p.2.2.2.2.1⟩ : Outcome)) (fun p h => h) (fun p => rfl)
theorem read2 {w : World} : RdT Try.prog E w 2 (fun x : Int => InK .i64 (x)) (E.enc 2) := (rdT_int Try.underlying2)
def Bore.ok (x : Bore) : Prop := ((∀ y ∈ x.Segs, InK .i64 (y)) ∧ (x.Segs).length ≤ maxLen) ∧ ((∀ y ∈ x.Points, InK .i64 (y)) ∧ (x.Points).length ≤ maxLen) ∧ InK .i64 (x.Weight) ∧ InK .i64 (x.Limit) ∧ InK .i64 (x.Pipe) ∧ InK .i64 (x.Step) ∧ InK .i64 (x.Kind) ∧ InK .i64 (x.Kill) ∧ InK .i64 (x.Margin) ∧ InK .i64 (x.Err) ∧ ((∀ y ∈ x.Volumes, InK .i64 (y)) ∧ (x.Volumes).length ≤ maxLen) ∧ ((∀ y ∈ x.Pores, InK .i64 (y)) ∧ (x.Pores).length ≤ maxLen) ∧ True
def Bore.cs (x : Bore) : List (AV T) := [.sl 2 x.Segs false, .sl 2 x.Points false, .sym .i64 x.Weight, .sym .i64 x.Limit, .sym .i64 x.Pipe, .sym .i64 x.Step, .sym .i64 x.Kind, .sym .i64 x.Kill, .sym .i64 x.Margin, .sym .i64 x.Err, .sl 2 x.Volumes false, .sl 2 x.Pores false]
def Bore.av (x : Bore) : AV T := .agg x.cs
theorem readC58 {w : World} : RdT Try.prog E w 58 Bore.ok Bore.cs :=
  (rdT_struct Try.underlying58 (rdF_cons (off := 0) (off' := 1) rfl (show 0 + Try.prog.cellsOf 56 = 1 by kernel_rfl) (rdT_slice good Try.underlying56 rfl read2) (rdF_cons (off := 1) (off' := 2) rfl (show 1 + Try.prog.cellsOf 56 = 2 by kernel_rfl) (rdT_slice good Try.underlying56 rfl read2) (rdF_cons (off := 2) (off' := 3) rfl (show 2 + Try.prog.cellsOf 2 = 3 by kernel_rfl) (rdT_int Try.underlying2) (rdF_cons (off := 3) (off' := 4) rfl (show 3 + Try.prog.cellsOf 2 = 4 by kernel_rfl) (rdT_int Try.underlying2) (rdF_cons (off := 4) (off' := 5) rfl (show 4 + Try.prog.cellsOf 2 = 5 by kernel_rfl) (rdT_int Try.underlying2) (rdF_cons (off := 5) (off' := 6) rfl (show 5 + Try.prog.cellsOf 2 = 6 by kernel_rfl) (rdT_int Try.underlying2) (rdF_cons (off := 6) (off' := 7) rfl (show 6 + Try.prog.cellsOf 3 = 7 by kernel_rfl) (rdT_int Try.underlying3) (rdF_cons (off := 7) (off' := 8) rfl (show 7 + Try.prog.cellsOf 2 = 8 by kernel_rfl) (rdT_int Try.underlying2) (rdF_cons (off := 8) (off' := 9) rfl (show 8 + Try.prog.cellsOf 2 = 9 by kernel_rfl) (rdT_int Try.underlying2) (rdF_cons (off := 9) (off' := 10) rfl (show 9 + Try.prog.cellsOf 2 = 10 by kernel_rfl) (rdT_int Try.underlying2) (rdF_cons (off := 10) (off' := 11) rfl (show 10 + Try.prog.cellsOf 56 = 11 by kernel_rfl) (rdT_slice good Try.underlying56 rfl read2) (rdF_cons (off := 11) (off' := 12) rfl (show 11 + Try.prog.cellsOf 56 = 12 by kernel_rfl) (rdT_slice good Try.underlying56 rfl read2) (rdF_nil (Nat.le_of_eq (show Try.prog.cellsOf 58 = 12 by kernel_rfl)))))))))))))))).map (fun p => (⟨p.1, p.2.1, p.2.2.1, p.2.2.2.1, p.2.2.2.2.1, p.2.2.2.2.2.1, p.2.2.2.2.2.2.1, p.2.2.2.2.2.2.2.1, p.2.2.2.2.2.2.2.2.1, p.2.2.2.2.2.2.2.2.2.1, p.2.2.2.2.2.2.2.2.2.2.1, p.2.2.2.2.2.2.2.2.2.2.2.1⟩ : Bore)) (fun p h => h) (fun p => rfl)
def Line.ok (x : Line) : Prop := ((∀ y ∈ x.Knots, Knot.ok y) ∧ (x.Knots).length ≤ maxLen) ∧ True
def Line.cs (x : Line) : List (AV T) := [.sl 55 x.Knots false]
def Line.av (x : Line) : AV T := .agg x.cs
theorem readC97 {w : World} : RdT Try.prog E w 97 Line.ok Line.cs :=
  (rdT_struct Try.underlying97 (rdF_cons (off := 0) (off' := 1) rfl (show 0 + Try.prog.cellsOf 25 = 1 by kernel_rfl) (rdT_slice good Try.underlying25 rfl read55) (rdF_nil (Nat.le_of_eq (show Try.prog.cellsOf 97 = 1 by kernel_rfl))))).map (fun p => (⟨p.1⟩ : Line)) (fun p h => h) (fun p => rfl)
def Part.ok (x : Part) : Prop := Seg.ok x.seg ∧ InK .i64 (x.low) ∧ InK .i64 (x.high) ∧ True
def Part.cs (x : Part) : List (AV T) := [.sym .i64 x.seg.Long, .sym .i64 x.seg.Rise, .sym .i64 x.seg.Area, .sym .i64 x.seg.Gap, .sym .i64 x.low, .sym .i64 x.high]
def Part.av (x : Part) : AV T := .agg x.cs
theorem readC114 {w : World} : RdT Try.prog E w 114 Part.ok Part.cs :=
  (rdT_struct Try.underlying114 (rdF_cons (off := 0) (off' := 4) rfl (show 0 + Try.prog.cellsOf 94 = 4 by kernel_rfl) readC94 (rdF_cons (off := 4) (off' := 5) rfl (show 4 + Try.prog.cellsOf 2 = 5 by kernel_rfl) (rdT_int Try.underlying2) (rdF_cons (off := 5) (off' := 6) rfl (show 5 + Try.prog.cellsOf 2 = 6 by kernel_rfl) (rdT_int Try.underlying2) (rdF_nil (Nat.le_of_eq (show Try.prog.cellsOf 114 = 6 by kernel_rfl))))))).map (fun p => (⟨p.1, p.2.1, p.2.2.1⟩ : Part)) (fun p h => h) (fun p => rfl)
def Span.ok (x : Span) : Prop := InK .i64 (x.Lo) ∧ InK .i64 (x.Hi) ∧ True
def Span.cs (x : Span) : List (AV T) := [.sym .i64 x.Lo, .sym .i64 x.Hi]
def Span.av (x : Span) : AV T := .agg x.cs
theorem readC120 {w : World} : RdT Try.prog E w 120 Span.ok Span.cs :=
  (rdT_struct Try.underlying120 (rdF_cons (off := 0) (off' := 1) rfl (show 0 + Try.prog.cellsOf 2 = 1 by kernel_rfl) (rdT_int Try.underlying2) (rdF_cons (off := 1) (off' := 2) rfl (show 1 + Try.prog.cellsOf 2 = 2 by kernel_rfl) (rdT_int Try.underlying2) (rdF_nil (Nat.le_of_eq (show Try.prog.cellsOf 120 = 2 by kernel_rfl)))))).map (fun p => (⟨p.1, p.2.1⟩ : Span)) (fun p h => h) (fun p => rfl)
theorem read3 {w : World} : RdT Try.prog E w 3 (fun x : Int => InK .i64 (x)) (E.enc 3) := (rdT_int Try.underlying3)
theorem read47 {w : World} : RdT Try.prog E w 47 (fun x : Moment => Moment.ok x) (E.enc 47) := readC47
theorem read29 {w : World} : RdT Try.prog E w 29 (fun x : Program => Program.ok x) (E.enc 29) := readC29
theorem read56 {w : World} : RdT Try.prog E w 56 (fun x : List Int => ((∀ y ∈ x, InK .i64 (y)) ∧ (x).length ≤ maxLen)) (E.enc 56) := (rdT_slice good Try.underlying56 rfl read2)
theorem laid : laidOutB Try.prog = true := by kernel_rfl
theorem mapsR : mapsRowed Try.prog = true := by kernel_rfl
theorem fullS : ∀ t e, t < Try.prog.types.size → Try.prog.underlying t = some (.slice e) → 0 < Try.prog.cellsOf e := slices_full_of Try.prog (by kernel_rfl)
theorem kids : Kids Try.prog (· < Try.prog.types.size) := kids_rows laid mapsR
end Go.Proofs.Ytkhpnackjmjcdaa.W
