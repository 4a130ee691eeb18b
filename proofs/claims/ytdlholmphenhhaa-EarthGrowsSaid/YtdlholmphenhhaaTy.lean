/- The types of the program as Lean has them, and the numbers of its functions. -/
import Derived.Test.YtdlholmphenhhaaRows
import Derived.Test.YtdlholmphenhhaaCz4
set_option linter.unusedVariables false
noncomputable section
namespace Go.Proofs.Ytdlholmphenhhaa.W
open Go Go.Cx Go.RowKit Go.ChangeShapes Go.WideShapes

/-- type 78: moonpool/api.Knot -/
structure Knot where
  At : Int
  V : Int

/-- type 24: moonpool/api.Line -/
structure Line where
  Knots : List Knot

/-- type 55: moonpool/api.Report -/
structure Report where
  Kind : Int
  Z : Int
  P : Int

/-- type 32: moonpool/api.Range -/
structure Range where
  Lo : Int
  Hi : Int

/-- type 39: moonpool/api.Earth -/
structure Earth where
  Bottom : Int
  PoreLo : Line
  PoreHi : Line
  FracLo : Line
  FracHi : Line
  GLo : Int
  GHi : Int
  Reports : List Report

/-- type 41: moonpool/api.Truth -/
structure Truth where
  Pore : Line
  Frac : Line

/-- type 67: moonpool/moonpoolkit.Ground -/
structure Ground where
  Bottom : Int
  Steps : List Int
  Off : List Int
  Marks : List Int

/-- type 104: moonpool/earth.piece -/
structure Piece where
  ends : Knot × Knot

def T : Nat → Type
  | 2 => Int
  | 3 => Int
  | 4 => Bool
  | 24 => Line
  | 55 => Report
  | 65 => List Int
  | 78 => Knot
  | _ => Unit

def okT (τ : Nat) : Bool := memN τ [2, 3, 4, 24, 55, 65, 78]
def encT : (τ : Nat) → T τ → List (AV T)
  | 2, (x : Int) => [.sym .i64 x]
  | 3, (x : Int) => [.sym .i64 x]
  | 4, (x : Bool) => [.bool x]
  | 24, (x : Line) => [.sl 78 x.Knots false]
  | 55, (x : Report) => [.sym .i64 x.Kind, .sym .i64 x.Z, .sym .i64 x.P]
  | 65, (x : List Int) => [.sl 3 x false]
  | 78, (x : Knot) => [.sym .i64 x.At, .sym .i64 x.V]
  | _, _ => []

def decT : (τ : Nat) → ((σ : Nat) → AV T → Option (List (T σ))) → List (AV T) → Option (T τ)
  | 2, fz, [c0] => ((decI .i64 c0).bind fun x0 => some (x0 : Int) : Option Int)
  | 3, fz, [c0] => ((decI .i64 c0).bind fun x0 => some (x0 : Int) : Option Int)
  | 4, fz, [c0] => ((asB c0).bind fun x0 => some (x0 : Bool) : Option Bool)
  | 24, fz, [c0] => ((fz 78 c0).bind fun x0 => some (⟨x0⟩ : Line) : Option Line)
  | 55, fz, [c0, c1, c2] => ((decI .i64 c0).bind fun x0 => (decI .i64 c1).bind fun x1 => (decI .i64 c2).bind fun x2 => some (⟨x0, x1, x2⟩ : Report) : Option Report)
  | 65, fz, [c0] => ((fz 3 c0).bind fun x0 => some (x0 : List Int) : Option (List Int))
  | 78, fz, [c0, c1] => ((decI .i64 c0).bind fun x0 => (decI .i64 c1).bind fun x1 => some (⟨x0, x1⟩ : Knot) : Option Knot)
  | _, _, _ => none

def dT : (τ : Nat) → T τ
  | 2 => (0 : Int)
  | 3 => (0 : Int)
  | 4 => (false : Bool)
  | 24 => (⟨[]⟩ : Line)
  | 55 => (⟨0, 0, 0⟩ : Report)
  | 65 => ([] : List Int)
  | 78 => (⟨0, 0⟩ : Knot)
  | n => by
    unfold T
    split <;> first | exact () | exact (0 : Int) | exact ([] : List Int) | exact (false : Bool) | exact (⟨0, 0, 0⟩ : Report) | exact (⟨0, 0⟩ : Knot) | exact (⟨[]⟩ : Line)
def E : Enc T := ⟨okT, encT, dT, fun t => bif Try.prog.eqGuardType Try.prog.depth t then false else bif Try.prog.stoodInHeld t then false else true, decT⟩
theorem ok_cases {τ : Nat} (h : E.ok τ = true) : τ = 2 ∨ τ = 3 ∨ τ = 4 ∨ τ = 24 ∨ τ = 55 ∨ τ = 65 ∨ τ = 78 := by
  have h := memN_iff.1 (show memN τ [2, 3, 4, 24, 55, 65, 78] = true from h)
  simpa only [List.mem_cons, List.mem_nil_iff, or_false] using h
set_option maxHeartbeats 4000000 in
theorem decOk : E.DecOk Try.prog := by
  intro τ fz cs x h hd
  rcases ok_cases h with rfl | rfl | rfl | rfl | rfl | rfl | rfl
  · match cs, hd with
    | [c0], hd =>
      have hd : ((decI .i64 c0).bind fun x0 => some (x0 : Int)) = some x := hd
      obtain ⟨x0, h0, hd⟩ := Option.bind_eq_some_iff.1 hd
      cases hd
      exact ⟨decI_to h0, trivial⟩
  · match cs, hd with
    | [c0], hd =>
      have hd : ((decI .i64 c0).bind fun x0 => some (x0 : Int)) = some x := hd
      obtain ⟨x0, h0, hd⟩ := Option.bind_eq_some_iff.1 hd
      cases hd
      exact ⟨decI_to h0, trivial⟩
  · match cs, hd with
    | [c0], hd =>
      have hd : ((asB c0).bind fun x0 => some (x0 : Bool)) = some x := hd
      obtain ⟨x0, h0, hd⟩ := Option.bind_eq_some_iff.1 hd
      cases hd
      exact ⟨asB_to h0, trivial⟩
  · match cs, hd with
    | [c0], hd =>
      have hd : ((fz 78 c0).bind fun x0 => some (⟨x0⟩ : Line)) = some x := hd
      obtain ⟨x0, h0, hd⟩ := Option.bind_eq_some_iff.1 hd
      cases hd
      exact ⟨fz_to h0, trivial⟩
  · match cs, hd with
    | [c0, c1, c2], hd =>
      have hd : ((decI .i64 c0).bind fun x0 => (decI .i64 c1).bind fun x1 => (decI .i64 c2).bind fun x2 => some (⟨x0, x1, x2⟩ : Report)) = some x := hd
      obtain ⟨x0, h0, hd⟩ := Option.bind_eq_some_iff.1 hd
      obtain ⟨x1, h1, hd⟩ := Option.bind_eq_some_iff.1 hd
      obtain ⟨x2, h2, hd⟩ := Option.bind_eq_some_iff.1 hd
      cases hd
      exact ⟨decI_to h0, decI_to h1, decI_to h2, trivial⟩
  · match cs, hd with
    | [c0], hd =>
      have hd : ((fz 3 c0).bind fun x0 => some (x0 : List Int)) = some x := hd
      obtain ⟨x0, h0, hd⟩ := Option.bind_eq_some_iff.1 hd
      cases hd
      exact ⟨fz_to h0, trivial⟩
  · match cs, hd with
    | [c0, c1], hd =>
      have hd : ((decI .i64 c0).bind fun x0 => (decI .i64 c1).bind fun x1 => some (⟨x0, x1⟩ : Knot)) = some x := hd
      obtain ⟨x0, h0, hd⟩ := Option.bind_eq_some_iff.1 hd
      obtain ⟨x1, h1, hd⟩ := Option.bind_eq_some_iff.1 hd
      cases hd
      exact ⟨decI_to h0, decI_to h1, trivial⟩
set_option maxRecDepth 100000 in
theorem good : E.Good Try.prog := by
  refine ⟨fun τ h => ?_, fun τ h => ?_, fun τ h => ?_, fun t h => ?_, decOk⟩
  · rcases ok_cases h with rfl | rfl | rfl | rfl | rfl | rfl | rfl
    · intro x; exact (show 1 = Try.prog.cellsOf 2 by kernel_rfl)
    · intro x; exact (show 1 = Try.prog.cellsOf 3 by kernel_rfl)
    · intro x; exact (show 1 = Try.prog.cellsOf 4 by kernel_rfl)
    · intro x; exact (show 1 = Try.prog.cellsOf 24 by kernel_rfl)
    · intro x; exact (show 3 = Try.prog.cellsOf 55 by kernel_rfl)
    · intro x; exact (show 1 = Try.prog.cellsOf 65 by kernel_rfl)
    · intro x; exact (show 2 = Try.prog.cellsOf 78 by kernel_rfl)
  · rcases ok_cases h with rfl | rfl | rfl | rfl | rfl | rfl | rfl
    · exact (Nat.lt_of_lt_of_eq (by decide : 0 < 1) (show 1 = Try.prog.cellsOf 2 by kernel_rfl))
    · exact (Nat.lt_of_lt_of_eq (by decide : 0 < 1) (show 1 = Try.prog.cellsOf 3 by kernel_rfl))
    · exact (Nat.lt_of_lt_of_eq (by decide : 0 < 1) (show 1 = Try.prog.cellsOf 4 by kernel_rfl))
    · exact (Nat.lt_of_lt_of_eq (by decide : 0 < 1) (show 1 = Try.prog.cellsOf 24 by kernel_rfl))
    · exact (Nat.lt_of_lt_of_eq (by decide : 0 < 3) (show 3 = Try.prog.cellsOf 55 by kernel_rfl))
    · exact (Nat.lt_of_lt_of_eq (by decide : 0 < 1) (show 1 = Try.prog.cellsOf 65 by kernel_rfl))
    · exact (Nat.lt_of_lt_of_eq (by decide : 0 < 2) (show 2 = Try.prog.cellsOf 78 by kernel_rfl))
  · rcases ok_cases h with rfl | rfl | rfl | rfl | rfl | rfl | rfl
    · intro x; rfl
    · intro x; rfl
    · intro x; rfl
    · intro x; rfl
    · intro x; rfl
    · intro x; rfl
    · intro x; rfl
  · have h : (bif Try.prog.eqGuardType Try.prog.depth t then false else bif Try.prog.stoodInHeld t then false else true) = true := h
    cases h1 : Try.prog.eqGuardType Try.prog.depth t with
    | true => rw [h1] at h; cases h
    | false =>
      cases h2 : Try.prog.stoodInHeld t with
      | true => rw [h1, h2] at h; cases h
      | false => exact ⟨rfl, rfl⟩
instance goodP : Go.Cx.GoodP Try.prog E := ⟨good⟩
theorem own : ownKnob Try.prog.godebug = none := by kernel_rfl
theorem mixes : Try.prog.follows .mixedOrders = true := by kernel_rfl
theorem named : Try.prog.funcs.all (fun fn => !(fn.name == "runtime.NumGoroutine")) = true := by kernel_rfl
theorem names : NamesOk Try.prog := fun f fn h => by
  have := Array.all_eq_true_iff_forall_mem.1 named fn (Array.mem_of_getElem? h)
  simpa using this
set_option maxRecDepth 100000
def Knot.ok (x : Knot) : Prop := InK .i64 (x.At) ∧ InK .i64 (x.V) ∧ True
def Knot.cs (x : Knot) : List (AV T) := [.sym .i64 x.At, .sym .i64 x.V]
def Knot.av (x : Knot) : AV T := .agg x.cs
theorem readC78 {w : World} : RdT Try.prog E w 78 Knot.ok Knot.cs :=
  (rdT_struct Try.underlying78 (rdF_cons (off := 0) (off' := 1) rfl (show 0 + Try.prog.cellsOf 2 = 1 by kernel_rfl) (rdT_int Try.underlying2) (rdF_cons (off := 1) (off' := 2) rfl (show 1 + Try.prog.cellsOf 2 = 2 by kernel_rfl) (rdT_int Try.underlying2) (rdF_nil (Nat.le_of_eq (show Try.prog.cellsOf 78 = 2 by kernel_rfl)))))).map (fun p => (⟨p.1, p.2.1⟩ : Knot)) (fun p h => h) (fun p => rfl)
theorem read78 {w : World} : RdT Try.prog E w 78 (fun x : Knot => Knot.ok x) (E.enc 78) := readC78
def Line.ok (x : Line) : Prop := ((∀ y ∈ x.Knots, Knot.ok y) ∧ (x.Knots).length ≤ maxLen) ∧ True
def Line.cs (x : Line) : List (AV T) := [.sl 78 x.Knots false]
def Line.av (x : Line) : AV T := .agg x.cs
theorem readC24 {w : World} : RdT Try.prog E w 24 Line.ok Line.cs :=
  (rdT_struct Try.underlying24 (rdF_cons (off := 0) (off' := 1) rfl (show 0 + Try.prog.cellsOf 22 = 1 by kernel_rfl) (rdT_slice good Try.underlying22 rfl read78) (rdF_nil (Nat.le_of_eq (show Try.prog.cellsOf 24 = 1 by kernel_rfl))))).map (fun p => (⟨p.1⟩ : Line)) (fun p h => h) (fun p => rfl)
def Range.ok (x : Range) : Prop := InK .i64 (x.Lo) ∧ InK .i64 (x.Hi) ∧ True
def Range.cs (x : Range) : List (AV T) := [.sym .i64 x.Lo, .sym .i64 x.Hi]
def Range.av (x : Range) : AV T := .agg x.cs
theorem readC32 {w : World} : RdT Try.prog E w 32 Range.ok Range.cs :=
  (rdT_struct Try.underlying32 (rdF_cons (off := 0) (off' := 1) rfl (show 0 + Try.prog.cellsOf 2 = 1 by kernel_rfl) (rdT_int Try.underlying2) (rdF_cons (off := 1) (off' := 2) rfl (show 1 + Try.prog.cellsOf 2 = 2 by kernel_rfl) (rdT_int Try.underlying2) (rdF_nil (Nat.le_of_eq (show Try.prog.cellsOf 32 = 2 by kernel_rfl)))))).map (fun p => (⟨p.1, p.2.1⟩ : Range)) (fun p h => h) (fun p => rfl)
def Report.ok (x : Report) : Prop := InK .i64 (x.Kind) ∧ InK .i64 (x.Z) ∧ InK .i64 (x.P) ∧ True
def Report.cs (x : Report) : List (AV T) := [.sym .i64 x.Kind, .sym .i64 x.Z, .sym .i64 x.P]
def Report.av (x : Report) : AV T := .agg x.cs
theorem readC55 {w : World} : RdT Try.prog E w 55 Report.ok Report.cs :=
  (rdT_struct Try.underlying55 (rdF_cons (off := 0) (off' := 1) rfl (show 0 + Try.prog.cellsOf 3 = 1 by kernel_rfl) (rdT_int Try.underlying3) (rdF_cons (off := 1) (off' := 2) rfl (show 1 + Try.prog.cellsOf 2 = 2 by kernel_rfl) (rdT_int Try.underlying2) (rdF_cons (off := 2) (off' := 3) rfl (show 2 + Try.prog.cellsOf 2 = 3 by kernel_rfl) (rdT_int Try.underlying2) (rdF_nil (Nat.le_of_eq (show Try.prog.cellsOf 55 = 3 by kernel_rfl))))))).map (fun p => (⟨p.1, p.2.1, p.2.2.1⟩ : Report)) (fun p h => h) (fun p => rfl)
theorem read55 {w : World} : RdT Try.prog E w 55 (fun x : Report => Report.ok x) (E.enc 55) := readC55
def Earth.ok (x : Earth) : Prop := InK .i64 (x.Bottom) ∧ Line.ok x.PoreLo ∧ Line.ok x.PoreHi ∧ Line.ok x.FracLo ∧ Line.ok x.FracHi ∧ InK .i64 (x.GLo) ∧ InK .i64 (x.GHi) ∧ ((∀ y ∈ x.Reports, Report.ok y) ∧ (x.Reports).length ≤ maxLen) ∧ True
def Earth.cs (x : Earth) : List (AV T) := [.sym .i64 x.Bottom, .sl 78 x.PoreLo.Knots false, .sl 78 x.PoreHi.Knots false, .sl 78 x.FracLo.Knots false, .sl 78 x.FracHi.Knots false, .sym .i64 x.GLo, .sym .i64 x.GHi, .sl 55 x.Reports false]
def Earth.av (x : Earth) : AV T := .agg x.cs
theorem readC39 {w : World} : RdT Try.prog E w 39 Earth.ok Earth.cs :=
  (rdT_struct Try.underlying39 (rdF_cons (off := 0) (off' := 1) rfl (show 0 + Try.prog.cellsOf 2 = 1 by kernel_rfl) (rdT_int Try.underlying2) (rdF_cons (off := 1) (off' := 2) rfl (show 1 + Try.prog.cellsOf 24 = 2 by kernel_rfl) readC24 (rdF_cons (off := 2) (off' := 3) rfl (show 2 + Try.prog.cellsOf 24 = 3 by kernel_rfl) readC24 (rdF_cons (off := 3) (off' := 4) rfl (show 3 + Try.prog.cellsOf 24 = 4 by kernel_rfl) readC24 (rdF_cons (off := 4) (off' := 5) rfl (show 4 + Try.prog.cellsOf 24 = 5 by kernel_rfl) readC24 (rdF_cons (off := 5) (off' := 6) rfl (show 5 + Try.prog.cellsOf 2 = 6 by kernel_rfl) (rdT_int Try.underlying2) (rdF_cons (off := 6) (off' := 7) rfl (show 6 + Try.prog.cellsOf 2 = 7 by kernel_rfl) (rdT_int Try.underlying2) (rdF_cons (off := 7) (off' := 8) rfl (show 7 + Try.prog.cellsOf 37 = 8 by kernel_rfl) (rdT_slice good Try.underlying37 rfl read55) (rdF_nil (Nat.le_of_eq (show Try.prog.cellsOf 39 = 8 by kernel_rfl)))))))))))).map (fun p => (⟨p.1, p.2.1, p.2.2.1, p.2.2.2.1, p.2.2.2.2.1, p.2.2.2.2.2.1, p.2.2.2.2.2.2.1, p.2.2.2.2.2.2.2.1⟩ : Earth)) (fun p h => h) (fun p => rfl)
def Truth.ok (x : Truth) : Prop := Line.ok x.Pore ∧ Line.ok x.Frac ∧ True
def Truth.cs (x : Truth) : List (AV T) := [.sl 78 x.Pore.Knots false, .sl 78 x.Frac.Knots false]
def Truth.av (x : Truth) : AV T := .agg x.cs
theorem readC41 {w : World} : RdT Try.prog E w 41 Truth.ok Truth.cs :=
  (rdT_struct Try.underlying41 (rdF_cons (off := 0) (off' := 1) rfl (show 0 + Try.prog.cellsOf 24 = 1 by kernel_rfl) readC24 (rdF_cons (off := 1) (off' := 2) rfl (show 1 + Try.prog.cellsOf 24 = 2 by kernel_rfl) readC24 (rdF_nil (Nat.le_of_eq (show Try.prog.cellsOf 41 = 2 by kernel_rfl)))))).map (fun p => (⟨p.1, p.2.1⟩ : Truth)) (fun p h => h) (fun p => rfl)
theorem read2 {w : World} : RdT Try.prog E w 2 (fun x : Int => InK .i64 (x)) (E.enc 2) := (rdT_int Try.underlying2)
def Ground.ok (x : Ground) : Prop := InK .i64 (x.Bottom) ∧ ((∀ y ∈ x.Steps, InK .i64 (y)) ∧ (x.Steps).length ≤ maxLen) ∧ ((∀ y ∈ x.Off, InK .i64 (y)) ∧ (x.Off).length ≤ maxLen) ∧ ((∀ y ∈ x.Marks, InK .i64 (y)) ∧ (x.Marks).length ≤ maxLen) ∧ True
def Ground.cs (x : Ground) : List (AV T) := [.sym .i64 x.Bottom, .sl 2 x.Steps false, .sl 2 x.Off false, .sl 2 x.Marks false]
def Ground.av (x : Ground) : AV T := .agg x.cs
theorem readC67 {w : World} : RdT Try.prog E w 67 Ground.ok Ground.cs :=
  (rdT_struct Try.underlying67 (rdF_cons (off := 0) (off' := 1) rfl (show 0 + Try.prog.cellsOf 2 = 1 by kernel_rfl) (rdT_int Try.underlying2) (rdF_cons (off := 1) (off' := 2) rfl (show 1 + Try.prog.cellsOf 46 = 2 by kernel_rfl) (rdT_slice good Try.underlying46 rfl read2) (rdF_cons (off := 2) (off' := 3) rfl (show 2 + Try.prog.cellsOf 46 = 3 by kernel_rfl) (rdT_slice good Try.underlying46 rfl read2) (rdF_cons (off := 3) (off' := 4) rfl (show 3 + Try.prog.cellsOf 46 = 4 by kernel_rfl) (rdT_slice good Try.underlying46 rfl read2) (rdF_nil (Nat.le_of_eq (show Try.prog.cellsOf 67 = 4 by kernel_rfl)))))))).map (fun p => (⟨p.1, p.2.1, p.2.2.1, p.2.2.2.1⟩ : Ground)) (fun p h => h) (fun p => rfl)
theorem read3 {w : World} : RdT Try.prog E w 3 (fun x : Int => InK .i64 (x)) (E.enc 3) := (rdT_int Try.underlying3)
theorem read65 {w : World} : RdT Try.prog E w 65 (fun x : List Int => ((∀ y ∈ x, InK .i64 (y)) ∧ (x).length ≤ maxLen)) (E.enc 65) := (rdT_slice good Try.underlying65 rfl read3)
theorem read4 {w : World} : RdT Try.prog E w 4 (fun x : Bool => True) (E.enc 4) := (rdT_bool Try.underlying4)
theorem read24 {w : World} : RdT Try.prog E w 24 (fun x : Line => Line.ok x) (E.enc 24) := readC24
theorem laid : laidOutB Try.prog = true := by kernel_rfl
theorem mapsR : mapsRowed Try.prog = true := by kernel_rfl
theorem fullS : ∀ t e, t < Try.prog.types.size → Try.prog.underlying t = some (.slice e) → 0 < Try.prog.cellsOf e := slices_full_of Try.prog (by kernel_rfl)
theorem kids : Kids Try.prog (· < Try.prog.types.size) := kids_rows laid mapsR
end Go.Proofs.Ytdlholmphenhhaa.W
