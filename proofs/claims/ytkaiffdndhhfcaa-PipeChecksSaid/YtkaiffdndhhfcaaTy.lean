/- The types of the program as Lean has them, and the numbers of its functions. -/
import Derived.Test.YtkaiffdndhhfcaaRows
import Derived.Test.YtkaiffdndhhfcaaCz5
set_option linter.unusedVariables false
noncomputable section
namespace Go.Proofs.Ytkaiffdndhhfcaa.W
open Go Go.Cx Go.RowKit Go.ChangeShapes Go.WideShapes

/-- type 26: moonpool/api.Tube -/
structure Tube where
  Count : Int
  Len : Int
  Air : Int
  Steel : Int
  Out : Int
  Yield : Int
  Twist : Int
  Stiff : Int
  Used : Int

/-- type 24: moonpool/api.String -/
structure String where
  Tubes : List Tube

/-- type 41: moonpool/api.Vec -/
structure Vec where
  X : Int
  Y : Int
  Z : Int

/-- type 44: moonpool/api.Path -/
structure Path where
  From : Vec
  Legs : List Vec

/-- type 74: moonpool/api.Piece -/
structure Piece where
  Tube : Int
  Leg : Int
  From : Int
  To : Int

/-- type 60: moonpool/api.Range -/
structure Range where
  Lo : Int
  Hi : Int

/-- type 79: moonpool/api.Hang -/
structure Hang where
  At : Int
  Tension : Range
  Torque : Range

/-- type 87: moonpool/api.Knot -/
structure Knot where
  At : Int
  V : Int

/-- type 131: moonpool/pipe.hold -/
structure Hold where
  Range : Go.Proofs.Ytkaiffdndhhfcaa.W.Range
  torque : Go.Proofs.Ytkaiffdndhhfcaa.W.Range

/-- type 133: moonpool/pipe.load -/
structure Load where
  piece : Piece
  before : Hold
  after : Hold

/-- type 72: moonpool/api.Case -/
structure Case where
  Mode : Int
  Mud : Int
  Mu : Range
  Bit : Int

/-- type 84: moonpool/api.Line -/
structure Line where
  Knots : List Knot

/-- type 102: moonpool/moonpoolkit.Ring -/
structure Ring where
  l : List Int
  at' : Int

/-- type 115: moonpool/api.Part -/
structure Part where
  N : Int
  D : Int

/-- type 138: moonpool/path.vec -/
structure Vec_138 where
  X : Int
  Y : Int
  Z : Int

/-- type 140: moonpool/path.stop -/
structure Stop where
  depth : Int
  place : Vec_138

/-- type 170: moonpool/whole.Wide -/
structure Wide where
  Hi : Int
  Lo : Int

def T : Nat → Type
  | 2 => Int
  | 3 => Int
  | 24 => String
  | 26 => Tube
  | 41 => Vec
  | 44 => Path
  | 74 => Piece
  | 79 => Hang
  | 87 => Knot
  | 133 => Load
  | _ => Unit

def okT (τ : Nat) : Bool := memN τ [2, 3, 24, 26, 41, 44, 74, 79, 87, 133]
def encT : (τ : Nat) → T τ → List (AV T)
  | 2, (x : Int) => [.sym .i64 x]
  | 3, (x : Int) => [.sym .i64 x]
  | 24, (x : String) => [.sl 26 x.Tubes false]
  | 26, (x : Tube) => [.sym .i64 x.Count, .sym .i64 x.Len, .sym .i64 x.Air, .sym .i64 x.Steel, .sym .i64 x.Out, .sym .i64 x.Yield, .sym .i64 x.Twist, .sym .i64 x.Stiff, .sym .i64 x.Used]
  | 41, (x : Vec) => [.sym .i64 x.X, .sym .i64 x.Y, .sym .i64 x.Z]
  | 44, (x : Path) => [.sym .i64 x.From.X, .sym .i64 x.From.Y, .sym .i64 x.From.Z, .sl 41 x.Legs false]
  | 74, (x : Piece) => [.sym .i64 x.Tube, .sym .i64 x.Leg, .sym .i64 x.From, .sym .i64 x.To]
  | 79, (x : Hang) => [.sym .i64 x.At, .sym .i64 x.Tension.Lo, .sym .i64 x.Tension.Hi, .sym .i64 x.Torque.Lo, .sym .i64 x.Torque.Hi]
  | 87, (x : Knot) => [.sym .i64 x.At, .sym .i64 x.V]
  | 133, (x : Load) => [.sym .i64 x.piece.Tube, .sym .i64 x.piece.Leg, .sym .i64 x.piece.From, .sym .i64 x.piece.To, .sym .i64 x.before.Range.Lo, .sym .i64 x.before.Range.Hi, .sym .i64 x.before.torque.Lo, .sym .i64 x.before.torque.Hi, .sym .i64 x.after.Range.Lo, .sym .i64 x.after.Range.Hi, .sym .i64 x.after.torque.Lo, .sym .i64 x.after.torque.Hi]
  | _, _ => []

def decT : (τ : Nat) → ((σ : Nat) → AV T → Option (List (T σ))) → List (AV T) → Option (T τ)
  | 2, fz, [c0] => ((decI .i64 c0).bind fun x0 => some (x0 : Int) : Option Int)
  | 3, fz, [c0] => ((decI .i64 c0).bind fun x0 => some (x0 : Int) : Option Int)
  | 24, fz, [c0] => ((fz 26 c0).bind fun x0 => some (⟨x0⟩ : String) : Option String)
  | 26, fz, [c0, c1, c2, c3, c4, c5, c6, c7, c8] => ((decI .i64 c0).bind fun x0 => (decI .i64 c1).bind fun x1 => (decI .i64 c2).bind fun x2 => (decI .i64 c3).bind fun x3 => (decI .i64 c4).bind fun x4 => (decI .i64 c5).bind fun x5 => (decI .i64 c6).bind fun x6 => (decI .i64 c7).bind fun x7 => (decI .i64 c8).bind fun x8 => some (⟨x0, x1, x2, x3, x4, x5, x6, x7, x8⟩ : Tube) : Option Tube)
  | 41, fz, [c0, c1, c2] => ((decI .i64 c0).bind fun x0 => (decI .i64 c1).bind fun x1 => (decI .i64 c2).bind fun x2 => some (⟨x0, x1, x2⟩ : Vec) : Option Vec)
  | 44, fz, [c0, c1, c2, c3] => ((decI .i64 c0).bind fun x0 => (decI .i64 c1).bind fun x1 => (decI .i64 c2).bind fun x2 => (fz 41 c3).bind fun x3 => some (⟨(⟨x0, x1, x2⟩ : Vec), x3⟩ : Path) : Option Path)
  | 74, fz, [c0, c1, c2, c3] => ((decI .i64 c0).bind fun x0 => (decI .i64 c1).bind fun x1 => (decI .i64 c2).bind fun x2 => (decI .i64 c3).bind fun x3 => some (⟨x0, x1, x2, x3⟩ : Piece) : Option Piece)
  | 79, fz, [c0, c1, c2, c3, c4] => ((decI .i64 c0).bind fun x0 => (decI .i64 c1).bind fun x1 => (decI .i64 c2).bind fun x2 => (decI .i64 c3).bind fun x3 => (decI .i64 c4).bind fun x4 => some (⟨x0, (⟨x1, x2⟩ : Range), (⟨x3, x4⟩ : Range)⟩ : Hang) : Option Hang)
  | 87, fz, [c0, c1] => ((decI .i64 c0).bind fun x0 => (decI .i64 c1).bind fun x1 => some (⟨x0, x1⟩ : Knot) : Option Knot)
  | 133, fz, [c0, c1, c2, c3, c4, c5, c6, c7, c8, c9, c10, c11] => ((decI .i64 c0).bind fun x0 => (decI .i64 c1).bind fun x1 => (decI .i64 c2).bind fun x2 => (decI .i64 c3).bind fun x3 => (decI .i64 c4).bind fun x4 => (decI .i64 c5).bind fun x5 => (decI .i64 c6).bind fun x6 => (decI .i64 c7).bind fun x7 => (decI .i64 c8).bind fun x8 => (decI .i64 c9).bind fun x9 => (decI .i64 c10).bind fun x10 => (decI .i64 c11).bind fun x11 => some (⟨(⟨x0, x1, x2, x3⟩ : Piece), (⟨(⟨x4, x5⟩ : Range), (⟨x6, x7⟩ : Range)⟩ : Hold), (⟨(⟨x8, x9⟩ : Range), (⟨x10, x11⟩ : Range)⟩ : Hold)⟩ : Load) : Option Load)
  | _, _, _ => none

def dT : (τ : Nat) → T τ
  | 2 => (0 : Int)
  | 3 => (0 : Int)
  | 24 => (⟨[]⟩ : String)
  | 26 => (⟨0, 0, 0, 0, 0, 0, 0, 0, 0⟩ : Tube)
  | 41 => (⟨0, 0, 0⟩ : Vec)
  | 44 => (⟨⟨0, 0, 0⟩, []⟩ : Path)
  | 74 => (⟨0, 0, 0, 0⟩ : Piece)
  | 79 => (⟨0, ⟨0, 0⟩, ⟨0, 0⟩⟩ : Hang)
  | 87 => (⟨0, 0⟩ : Knot)
  | 133 => (⟨⟨0, 0, 0, 0⟩, ⟨⟨0, 0⟩, ⟨0, 0⟩⟩, ⟨⟨0, 0⟩, ⟨0, 0⟩⟩⟩ : Load)
  | n => by
    unfold T
    split <;> first | exact () | exact (0 : Int) | exact (⟨0, 0, 0, 0, 0, 0, 0, 0, 0⟩ : Tube) | exact (⟨0, 0, 0, 0⟩ : Piece) | exact (⟨0, 0, 0⟩ : Vec) | exact (⟨0, 0⟩ : Knot) | exact (⟨0, ⟨0, 0⟩, ⟨0, 0⟩⟩ : Hang) | exact (⟨[]⟩ : String) | exact (⟨⟨0, 0, 0, 0⟩, ⟨⟨0, 0⟩, ⟨0, 0⟩⟩, ⟨⟨0, 0⟩, ⟨0, 0⟩⟩⟩ : Load) | exact (⟨⟨0, 0, 0⟩, []⟩ : Path)
def E : Enc T := ⟨okT, encT, dT, fun t => bif Try.prog.eqGuardType Try.prog.depth t then false else bif Try.prog.stoodInHeld t then false else true, decT⟩
theorem ok_cases {τ : Nat} (h : E.ok τ = true) : τ = 2 ∨ τ = 3 ∨ τ = 24 ∨ τ = 26 ∨ τ = 41 ∨ τ = 44 ∨ τ = 74 ∨ τ = 79 ∨ τ = 87 ∨ τ = 133 := by
  have h := memN_iff.1 (show memN τ [2, 3, 24, 26, 41, 44, 74, 79, 87, 133] = true from h)
  simpa only [List.mem_cons, List.mem_nil_iff, or_false] using h
set_option maxHeartbeats 4000000 in
theorem decOk : E.DecOk Try.prog := by
  intro τ fz cs x h hd
  rcases ok_cases h with rfl | rfl | rfl | rfl | rfl | rfl | rfl | rfl | rfl | rfl
  · match cs, hd with
    | [c0], hd =>
      have hd : ((decI .i64 c0).bind fun x0 => some (x0 : Int)) = some x := hd
      obtain ⟨x0, h0, hd⟩ := Option.bind_eq_some_iff.1 hd
      cases hd
      exact ⟨decI_to h0, trivial⟩
  · match cs, hd with
    | [c0], hd =>
      have hd : ((decI .i64 c0).bind fun x0 => some (x0 : Int)) = some x := hd
      obtain ⟨x0, h0, hd⟩ := Option.bind_eq_some_iff.1 hd
      cases hd
      exact ⟨decI_to h0, trivial⟩
  · match cs, hd with
    | [c0], hd =>
      have hd : ((fz 26 c0).bind fun x0 => some (⟨x0⟩ : String)) = some x := hd
      obtain ⟨x0, h0, hd⟩ := Option.bind_eq_some_iff.1 hd
      cases hd
      exact ⟨fz_to h0, trivial⟩
  · match cs, hd with
    | [c0, c1, c2, c3, c4, c5, c6, c7, c8], hd =>
      have hd : ((decI .i64 c0).bind fun x0 => (decI .i64 c1).bind fun x1 => (decI .i64 c2).bind fun x2 => (decI .i64 c3).bind fun x3 => (decI .i64 c4).bind fun x4 => (decI .i64 c5).bind fun x5 => (decI .i64 c6).bind fun x6 => (decI .i64 c7).bind fun x7 => (decI .i64 c8).bind fun x8 => some (⟨x0, x1, x2, x3, x4, x5, x6, x7, x8⟩ : Tube)) = some x := hd
      obtain ⟨x0, h0, hd⟩ := Option.bind_eq_some_iff.1 hd
      obtain ⟨x1, h1, hd⟩ := Option.bind_eq_some_iff.1 hd
      obtain ⟨x2, h2, hd⟩ := Option.bind_eq_some_iff.1 hd
      obtain ⟨x3, h3, hd⟩ := Option.bind_eq_some_iff.1 hd
      obtain ⟨x4, h4, hd⟩ := Option.bind_eq_some_iff.1 hd
      obtain ⟨x5, h5, hd⟩ := Option.bind_eq_some_iff.1 hd
      obtain ⟨x6, h6, hd⟩ := Option.bind_eq_some_iff.1 hd
      obtain ⟨x7, h7, hd⟩ := Option.bind_eq_some_iff.1 hd
      obtain ⟨x8, h8, hd⟩ := Option.bind_eq_some_iff.1 hd
      cases hd
      exact ⟨decI_to h0, decI_to h1, decI_to h2, decI_to h3, decI_to h4, decI_to h5, decI_to h6, decI_to h7, decI_to h8, trivial⟩
  · match cs, hd with
    | [c0, c1, c2], hd =>
      have hd : ((decI .i64 c0).bind fun x0 => (decI .i64 c1).bind fun x1 => (decI .i64 c2).bind fun x2 => some (⟨x0, x1, x2⟩ : Vec)) = some x := hd
      obtain ⟨x0, h0, hd⟩ := Option.bind_eq_some_iff.1 hd
      obtain ⟨x1, h1, hd⟩ := Option.bind_eq_some_iff.1 hd
      obtain ⟨x2, h2, hd⟩ := Option.bind_eq_some_iff.1 hd
      cases hd
      exact ⟨decI_to h0, decI_to h1, decI_to h2, trivial⟩
  · match cs, hd with
    | [c0, c1, c2, c3], hd =>
      have hd : ((decI .i64 c0).bind fun x0 => (decI .i64 c1).bind fun x1 => (decI .i64 c2).bind fun x2 => (fz 41 c3).bind fun x3 => some (⟨(⟨x0, x1, x2⟩ : Vec), x3⟩ : Path)) = some x := hd
      obtain ⟨x0, h0, hd⟩ := Option.bind_eq_some_iff.1 hd
      obtain ⟨x1, h1, hd⟩ := Option.bind_eq_some_iff.1 hd
      obtain ⟨x2, h2, hd⟩ := Option.bind_eq_some_iff.1 hd
      obtain ⟨x3, h3, hd⟩ := Option.bind_eq_some_iff.1 hd
      cases hd
      exact ⟨decI_to h0, decI_to h1, decI_to h2, fz_to h3, trivial⟩
  · match cs, hd with
    | [c0, c1, c2, c3], hd =>
      have hd : ((decI .i64 c0).bind fun x0 => (decI .i64 c1).bind fun x1 => (decI .i64 c2).bind fun x2 => (decI .i64 c3).bind fun x3 => some (⟨x0, x1, x2, x3⟩ : Piece)) = some x := hd
      obtain ⟨x0, h0, hd⟩ := Option.bind_eq_some_iff.1 hd
      obtain ⟨x1, h1, hd⟩ := Option.bind_eq_some_iff.1 hd
      obtain ⟨x2, h2, hd⟩ := Option.bind_eq_some_iff.1 hd
      obtain ⟨x3, h3, hd⟩ := Option.bind_eq_some_iff.1 hd
      cases hd
      exact ⟨decI_to h0, decI_to h1, decI_to h2, decI_to h3, trivial⟩
  · match cs, hd with
    | [c0, c1, c2, c3, c4], hd =>
      have hd : ((decI .i64 c0).bind fun x0 => (decI .i64 c1).bind fun x1 => (decI .i64 c2).bind fun x2 => (decI .i64 c3).bind fun x3 => (decI .i64 c4).bind fun x4 => some (⟨x0, (⟨x1, x2⟩ : Range), (⟨x3, x4⟩ : Range)⟩ : Hang)) = some x := hd
      obtain ⟨x0, h0, hd⟩ := Option.bind_eq_some_iff.1 hd
      obtain ⟨x1, h1, hd⟩ := Option.bind_eq_some_iff.1 hd
      obtain ⟨x2, h2, hd⟩ := Option.bind_eq_some_iff.1 hd
      obtain ⟨x3, h3, hd⟩ := Option.bind_eq_some_iff.1 hd
      obtain ⟨x4, h4, hd⟩ := Option.bind_eq_some_iff.1 hd
      cases hd
      exact ⟨decI_to h0, decI_to h1, decI_to h2, decI_to h3, decI_to h4, trivial⟩
  · match cs, hd with
    | [c0, c1], hd =>
      have hd : ((decI .i64 c0).bind fun x0 => (decI .i64 c1).bind fun x1 => some (⟨x0, x1⟩ : Knot)) = some x := hd
      obtain ⟨x0, h0, hd⟩ := Option.bind_eq_some_iff.1 hd
      obtain ⟨x1, h1, hd⟩ := Option.bind_eq_some_iff.1 hd
      cases hd
      exact ⟨decI_to h0, decI_to h1, trivial⟩
  · match cs, hd with
    | [c0, c1, c2, c3, c4, c5, c6, c7, c8, c9, c10, c11], hd =>
      have hd : ((decI .i64 c0).bind fun x0 => (decI .i64 c1).bind fun x1 => (decI .i64 c2).bind fun x2 => (decI .i64 c3).bind fun x3 => (decI .i64 c4).bind fun x4 => (decI .i64 c5).bind fun x5 => (decI .i64 c6).bind fun x6 => (decI .i64 c7).bind fun x7 => (decI .i64 c8).bind fun x8 => (decI .i64 c9).bind fun x9 => (decI .i64 c10).bind fun x10 => (decI .i64 c11).bind fun x11 => some (⟨(⟨x0, x1, x2, x3⟩ : Piece), (⟨(⟨x4, x5⟩ : Range), (⟨x6, x7⟩ : Range)⟩ : Hold), (⟨(⟨x8, x9⟩ : Range), (⟨x10, x11⟩ : Range)⟩ : Hold)⟩ : Load)) = some x := hd
      obtain ⟨x0, h0, hd⟩ := Option.bind_eq_some_iff.1 hd
      obtain ⟨x1, h1, hd⟩ := Option.bind_eq_some_iff.1 hd
      obtain ⟨x2, h2, hd⟩ := Option.bind_eq_some_iff.1 hd
      obtain ⟨x3, h3, hd⟩ := Option.bind_eq_some_iff.1 hd
      obtain ⟨x4, h4, hd⟩ := Option.bind_eq_some_iff.1 hd
      obtain ⟨x5, h5, hd⟩ := Option.bind_eq_some_iff.1 hd
      obtain ⟨x6, h6, hd⟩ := Option.bind_eq_some_iff.1 hd
      obtain ⟨x7, h7, hd⟩ := Option.bind_eq_some_iff.1 hd
      obtain ⟨x8, h8, hd⟩ := Option.bind_eq_some_iff.1 hd
      obtain ⟨x9, h9, hd⟩ := Option.bind_eq_some_iff.1 hd
      obtain ⟨x10, h10, hd⟩ := Option.bind_eq_some_iff.1 hd
      obtain ⟨x11, h11, hd⟩ := Option.bind_eq_some_iff.1 hd
      cases hd
      exact ⟨decI_to h0, decI_to h1, decI_to h2, decI_to h3, decI_to h4, decI_to h5, decI_to h6, decI_to h7, decI_to h8, decI_to h9, decI_to h10, decI_to h11, trivial⟩
set_option maxRecDepth 100000 in
theorem good : E.Good Try.prog := by
  refine ⟨fun τ h => ?_, fun τ h => ?_, fun τ h => ?_, fun t h => ?_, decOk⟩
  · rcases ok_cases h with rfl | rfl | rfl | rfl | rfl | rfl | rfl | rfl | rfl | rfl
    · intro x; exact (show 1 = Try.prog.cellsOf 2 by kernel_rfl)
    · intro x; exact (show 1 = Try.prog.cellsOf 3 by kernel_rfl)
    · intro x; exact (show 1 = Try.prog.cellsOf 24 by kernel_rfl)
    · intro x; exact (show 9 = Try.prog.cellsOf 26 by kernel_rfl)
    · intro x; exact (show 3 = Try.prog.cellsOf 41 by kernel_rfl)
    · intro x; exact (show 4 = Try.prog.cellsOf 44 by kernel_rfl)
    · intro x; exact (show 4 = Try.prog.cellsOf 74 by kernel_rfl)
    · intro x; exact (show 5 = Try.prog.cellsOf 79 by kernel_rfl)
    · intro x; exact (show 2 = Try.prog.cellsOf 87 by kernel_rfl)
    · intro x; exact (show 12 = Try.prog.cellsOf 133 by kernel_rfl)
  · rcases ok_cases h with rfl | rfl | rfl | rfl | rfl | rfl | rfl | rfl | rfl | rfl
    · exact (Nat.lt_of_lt_of_eq (by decide : 0 < 1) (show 1 = Try.prog.cellsOf 2 by kernel_rfl))
    · exact (Nat.lt_of_lt_of_eq (by decide : 0 < 1) (show 1 = Try.prog.cellsOf 3 by kernel_rfl))
    · exact (Nat.lt_of_lt_of_eq (by decide : 0 < 1) (show 1 = Try.prog.cellsOf 24 by kernel_rfl))
    · exact (Nat.lt_of_lt_of_eq (by decide : 0 < 9) (show 9 = Try.prog.cellsOf 26 by kernel_rfl))
    · exact (Nat.lt_of_lt_of_eq (by decide : 0 < 3) (show 3 = Try.prog.cellsOf 41 by kernel_rfl))
    · exact (Nat.lt_of_lt_of_eq (by decide : 0 < 4) (show 4 = Try.prog.cellsOf 44 by kernel_rfl))
    · exact (Nat.lt_of_lt_of_eq (by decide : 0 < 4) (show 4 = Try.prog.cellsOf 74 by kernel_rfl))
    · exact (Nat.lt_of_lt_of_eq (by decide : 0 < 5) (show 5 = Try.prog.cellsOf 79 by kernel_rfl))
    · exact (Nat.lt_of_lt_of_eq (by decide : 0 < 2) (show 2 = Try.prog.cellsOf 87 by kernel_rfl))
    · exact (Nat.lt_of_lt_of_eq (by decide : 0 < 12) (show 12 = Try.prog.cellsOf 133 by kernel_rfl))
  · rcases ok_cases h with rfl | rfl | rfl | rfl | rfl | rfl | rfl | rfl | rfl | rfl
    · intro x; rfl
    · intro x; rfl
    · intro x; rfl
    · intro x; rfl
    · intro x; rfl
    · intro x; rfl
    · intro x; rfl
    · intro x; rfl
    · intro x; rfl
    · intro x; rfl
  · have h : (bif Try.prog.eqGuardType Try.prog.depth t then false else bif Try.prog.stoodInHeld t then false else true) = true := h
    cases h1 : Try.prog.eqGuardType Try.prog.depth t with
    | true => rw [h1] at h; cases h
    | false =>
      cases h2 : Try.prog.stoodInHeld t with
      | true => rw [h1, h2] at h; cases h
      | false => exact ⟨rfl, rfl⟩
theorem own : ownKnob Try.prog.godebug = none := by kernel_rfl
theorem mixes : Try.prog.follows .mixedOrders = true := by kernel_rfl
theorem named : Try.prog.funcs.all (fun fn => !(fn.name == "runtime.NumGoroutine")) = true := by kernel_rfl
theorem names : NamesOk Try.prog := fun f fn h => by
  have := Array.all_eq_true_iff_forall_mem.1 named fn (Array.mem_of_getElem? h)
  simpa using this
set_option maxRecDepth 100000
def Tube.ok (x : Tube) : Prop := InK .i64 (x.Count) ∧ InK .i64 (x.Len) ∧ InK .i64 (x.Air) ∧ InK .i64 (x.Steel) ∧ InK .i64 (x.Out) ∧ InK .i64 (x.Yield) ∧ InK .i64 (x.Twist) ∧ InK .i64 (x.Stiff) ∧ InK .i64 (x.Used) ∧ True
def Tube.cs (x : Tube) : List (AV T) := [.sym .i64 x.Count, .sym .i64 x.Len, .sym .i64 x.Air, .sym .i64 x.Steel, .sym .i64 x.Out, .sym .i64 x.Yield, .sym .i64 x.Twist, .sym .i64 x.Stiff, .sym .i64 x.Used]
def Tube.av (x : Tube) : AV T := .agg x.cs
theorem readC26 {w : World} : RdT Try.prog E w 26 Tube.ok Tube.cs :=
  (rdT_struct Try.underlying26 (rdF_cons (off := 0) (off' := 1) rfl (show 0 + Try.prog.cellsOf 2 = 1 by kernel_rfl) (rdT_int Try.underlying2) (rdF_cons (off := 1) (off' := 2) rfl (show 1 + Try.prog.cellsOf 2 = 2 by kernel_rfl) (rdT_int Try.underlying2) (rdF_cons (off := 2) (off' := 3) rfl (show 2 + Try.prog.cellsOf 2 = 3 by kernel_rfl) (rdT_int Try.underlying2) (rdF_cons (off := 3) (off' := 4) rfl (show 3 + Try.prog.cellsOf 2 = 4 by kernel_rfl) (rdT_int Try.underlying2) (rdF_cons (off := 4) (off' := 5) rfl (show 4 + Try.prog.cellsOf 2 = 5 by kernel_rfl) (rdT_int Try.underlying2) (rdF_cons (off := 5) (off' := 6) rfl (show 5 + Try.prog.cellsOf 2 = 6 by kernel_rfl) (rdT_int Try.underlying2) (rdF_cons (off := 6) (off' := 7) rfl (show 6 + Try.prog.cellsOf 2 = 7 by kernel_rfl) (rdT_int Try.underlying2) (rdF_cons (off := 7) (off' := 8) rfl (show 7 + Try.prog.cellsOf 2 = 8 by kernel_rfl) (rdT_int Try.underlying2) (rdF_cons (off := 8) (off' := 9) rfl (show 8 + Try.prog.cellsOf 2 = 9 by kernel_rfl) (rdT_int Try.underlying2) (rdF_nil (Nat.le_of_eq (show Try.prog.cellsOf 26 = 9 by kernel_rfl))))))))))))).map (fun p => (⟨p.1, p.2.1, p.2.2.1, p.2.2.2.1, p.2.2.2.2.1, p.2.2.2.2.2.1, p.2.2.2.2.2.2.1, p.2.2.2.2.2.2.2.1, p.2.2.2.2.2.2.2.2.1⟩ : Tube)) (fun p h => h) (fun p => rfl)
theorem read26 {w : World} : RdT Try.prog E w 26 (fun x : Tube => Tube.ok x) (E.enc 26) := readC26
def String.ok (x : String) : Prop := ((∀ y ∈ x.Tubes, Tube.ok y) ∧ (x.Tubes).length ≤ maxLen) ∧ True
def String.cs (x : String) : List (AV T) := [.sl 26 x.Tubes false]
def String.av (x : String) : AV T := .agg x.cs
theorem readC24 {w : World} : RdT Try.prog E w 24 String.ok String.cs :=
  (rdT_struct Try.underlying24 (rdF_cons (off := 0) (off' := 1) rfl (show 0 + Try.prog.cellsOf 22 = 1 by kernel_rfl) (rdT_slice good Try.underlying22 rfl read26) (rdF_nil (Nat.le_of_eq (show Try.prog.cellsOf 24 = 1 by kernel_rfl))))).map (fun p => (⟨p.1⟩ : String)) (fun p h => h) (fun p => rfl)
def Vec.ok (x : Vec) : Prop := InK .i64 (x.X) ∧ InK .i64 (x.Y) ∧ InK .i64 (x.Z) ∧ True
def Vec.cs (x : Vec) : List (AV T) := [.sym .i64 x.X, .sym .i64 x.Y, .sym .i64 x.Z]
def Vec.av (x : Vec) : AV T := .agg x.cs
theorem readC41 {w : World} : RdT Try.prog E w 41 Vec.ok Vec.cs :=
  (rdT_struct Try.underlying41 (rdF_cons (off := 0) (off' := 1) rfl (show 0 + Try.prog.cellsOf 2 = 1 by kernel_rfl) (rdT_int Try.underlying2) (rdF_cons (off := 1) (off' := 2) rfl (show 1 + Try.prog.cellsOf 2 = 2 by kernel_rfl) (rdT_int Try.underlying2) (rdF_cons (off := 2) (off' := 3) rfl (show 2 + Try.prog.cellsOf 2 = 3 by kernel_rfl) (rdT_int Try.underlying2) (rdF_nil (Nat.le_of_eq (show Try.prog.cellsOf 41 = 3 by kernel_rfl))))))).map (fun p => (⟨p.1, p.2.1, p.2.2.1⟩ : Vec)) (fun p h => h) (fun p => rfl)
theorem read41 {w : World} : RdT Try.prog E w 41 (fun x : Vec => Vec.ok x) (E.enc 41) := readC41
def Path.ok (x : Path) : Prop := Vec.ok x.From ∧ ((∀ y ∈ x.Legs, Vec.ok y) ∧ (x.Legs).length ≤ maxLen) ∧ True
def Path.cs (x : Path) : List (AV T) := [.sym .i64 x.From.X, .sym .i64 x.From.Y, .sym .i64 x.From.Z, .sl 41 x.Legs false]
def Path.av (x : Path) : AV T := .agg x.cs
theorem readC44 {w : World} : RdT Try.prog E w 44 Path.ok Path.cs :=
  (rdT_struct Try.underlying44 (rdF_cons (off := 0) (off' := 3) rfl (show 0 + Try.prog.cellsOf 41 = 3 by kernel_rfl) readC41 (rdF_cons (off := 3) (off' := 4) rfl (show 3 + Try.prog.cellsOf 42 = 4 by kernel_rfl) (rdT_slice good Try.underlying42 rfl read41) (rdF_nil (Nat.le_of_eq (show Try.prog.cellsOf 44 = 4 by kernel_rfl)))))).map (fun p => (⟨p.1, p.2.1⟩ : Path)) (fun p h => h) (fun p => rfl)
def Range.ok (x : Range) : Prop := InK .i64 (x.Lo) ∧ InK .i64 (x.Hi) ∧ True
def Range.cs (x : Range) : List (AV T) := [.sym .i64 x.Lo, .sym .i64 x.Hi]
def Range.av (x : Range) : AV T := .agg x.cs
theorem readC60 {w : World} : RdT Try.prog E w 60 Range.ok Range.cs :=
  (rdT_struct Try.underlying60 (rdF_cons (off := 0) (off' := 1) rfl (show 0 + Try.prog.cellsOf 2 = 1 by kernel_rfl) (rdT_int Try.underlying2) (rdF_cons (off := 1) (off' := 2) rfl (show 1 + Try.prog.cellsOf 2 = 2 by kernel_rfl) (rdT_int Try.underlying2) (rdF_nil (Nat.le_of_eq (show Try.prog.cellsOf 60 = 2 by kernel_rfl)))))).map (fun p => (⟨p.1, p.2.1⟩ : Range)) (fun p h => h) (fun p => rfl)
def Case.ok (x : Case) : Prop := InK .i64 (x.Mode) ∧ InK .i64 (x.Mud) ∧ Range.ok x.Mu ∧ InK .i64 (x.Bit) ∧ True
def Case.cs (x : Case) : List (AV T) := [.sym .i64 x.Mode, .sym .i64 x.Mud, .sym .i64 x.Mu.Lo, .sym .i64 x.Mu.Hi, .sym .i64 x.Bit]
def Case.av (x : Case) : AV T := .agg x.cs
theorem readC72 {w : World} : RdT Try.prog E w 72 Case.ok Case.cs :=
  (rdT_struct Try.underlying72 (rdF_cons (off := 0) (off' := 1) rfl (show 0 + Try.prog.cellsOf 3 = 1 by kernel_rfl) (rdT_int Try.underlying3) (rdF_cons (off := 1) (off' := 2) rfl (show 1 + Try.prog.cellsOf 2 = 2 by kernel_rfl) (rdT_int Try.underlying2) (rdF_cons (off := 2) (off' := 4) rfl (show 2 + Try.prog.cellsOf 60 = 4 by kernel_rfl) readC60 (rdF_cons (off := 4) (off' := 5) rfl (show 4 + Try.prog.cellsOf 2 = 5 by kernel_rfl) (rdT_int Try.underlying2) (rdF_nil (Nat.le_of_eq (show Try.prog.cellsOf 72 = 5 by kernel_rfl)))))))).map (fun p => (⟨p.1, p.2.1, p.2.2.1, p.2.2.2.1⟩ : Case)) (fun p h => h) (fun p => rfl)
def Piece.ok (x : Piece) : Prop := InK .i64 (x.Tube) ∧ InK .i64 (x.Leg) ∧ InK .i64 (x.From) ∧ InK .i64 (x.To) ∧ True
def Piece.cs (x : Piece) : List (AV T) := [.sym .i64 x.Tube, .sym .i64 x.Leg, .sym .i64 x.From, .sym .i64 x.To]
def Piece.av (x : Piece) : AV T := .agg x.cs
theorem readC74 {w : World} : RdT Try.prog E w 74 Piece.ok Piece.cs :=
  (rdT_struct Try.underlying74 (rdF_cons (off := 0) (off' := 1) rfl (show 0 + Try.prog.cellsOf 3 = 1 by kernel_rfl) (rdT_int Try.underlying3) (rdF_cons (off := 1) (off' := 2) rfl (show 1 + Try.prog.cellsOf 3 = 2 by kernel_rfl) (rdT_int Try.underlying3) (rdF_cons (off := 2) (off' := 3) rfl (show 2 + Try.prog.cellsOf 2 = 3 by kernel_rfl) (rdT_int Try.underlying2) (rdF_cons (off := 3) (off' := 4) rfl (show 3 + Try.prog.cellsOf 2 = 4 by kernel_rfl) (rdT_int Try.underlying2) (rdF_nil (Nat.le_of_eq (show Try.prog.cellsOf 74 = 4 by kernel_rfl)))))))).map (fun p => (⟨p.1, p.2.1, p.2.2.1, p.2.2.2.1⟩ : Piece)) (fun p h => h) (fun p => rfl)
def Hang.ok (x : Hang) : Prop := InK .i64 (x.At) ∧ Range.ok x.Tension ∧ Range.ok x.Torque ∧ True
def Hang.cs (x : Hang) : List (AV T) := [.sym .i64 x.At, .sym .i64 x.Tension.Lo, .sym .i64 x.Tension.Hi, .sym .i64 x.Torque.Lo, .sym .i64 x.Torque.Hi]
def Hang.av (x : Hang) : AV T := .agg x.cs
theorem readC79 {w : World} : RdT Try.prog E w 79 Hang.ok Hang.cs :=
  (rdT_struct Try.underlying79 (rdF_cons (off := 0) (off' := 1) rfl (show 0 + Try.prog.cellsOf 2 = 1 by kernel_rfl) (rdT_int Try.underlying2) (rdF_cons (off := 1) (off' := 3) rfl (show 1 + Try.prog.cellsOf 60 = 3 by kernel_rfl) readC60 (rdF_cons (off := 3) (off' := 5) rfl (show 3 + Try.prog.cellsOf 60 = 5 by kernel_rfl) readC60 (rdF_nil (Nat.le_of_eq (show Try.prog.cellsOf 79 = 5 by kernel_rfl))))))).map (fun p => (⟨p.1, p.2.1, p.2.2.1⟩ : Hang)) (fun p h => h) (fun p => rfl)
def Knot.ok (x : Knot) : Prop := InK .i64 (x.At) ∧ InK .i64 (x.V) ∧ True
def Knot.cs (x : Knot) : List (AV T) := [.sym .i64 x.At, .sym .i64 x.V]
def Knot.av (x : Knot) : AV T := .agg x.cs
theorem readC87 {w : World} : RdT Try.prog E w 87 Knot.ok Knot.cs :=
  (rdT_struct Try.underlying87 (rdF_cons (off := 0) (off' := 1) rfl (show 0 + Try.prog.cellsOf 2 = 1 by kernel_rfl) (rdT_int Try.underlying2) (rdF_cons (off := 1) (off' := 2) rfl (show 1 + Try.prog.cellsOf 2 = 2 by kernel_rfl) (rdT_int Try.underlying2) (rdF_nil (Nat.le_of_eq (show Try.prog.cellsOf 87 = 2 by kernel_rfl)))))).map (fun p => (⟨p.1, p.2.1⟩ : Knot)) (fun p h => h) (fun p => rfl)
theorem read87 {w : World} : RdT Try.prog E w 87 (fun x : Knot => Knot.ok x) (E.enc 87) := readC87
def Line.ok (x : Line) : Prop := ((∀ y ∈ x.Knots, Knot.ok y) ∧ (x.Knots).length ≤ maxLen) ∧ True
def Line.cs (x : Line) : List (AV T) := [.sl 87 x.Knots false]
def Line.av (x : Line) : AV T := .agg x.cs
theorem readC84 {w : World} : RdT Try.prog E w 84 Line.ok Line.cs :=
  (rdT_struct Try.underlying84 (rdF_cons (off := 0) (off' := 1) rfl (show 0 + Try.prog.cellsOf 82 = 1 by kernel_rfl) (rdT_slice good Try.underlying82 rfl read87) (rdF_nil (Nat.le_of_eq (show Try.prog.cellsOf 84 = 1 by kernel_rfl))))).map (fun p => (⟨p.1⟩ : Line)) (fun p h => h) (fun p => rfl)
theorem read3 {w : World} : RdT Try.prog E w 3 (fun x : Int => InK .i64 (x)) (E.enc 3) := (rdT_int Try.underlying3)
def Ring.ok (x : Ring) : Prop := ((∀ y ∈ x.l, InK .i64 (y)) ∧ (x.l).length ≤ maxLen) ∧ InK .i64 (x.at') ∧ True
def Ring.cs (x : Ring) : List (AV T) := [.sl 3 x.l false, .sym .i64 x.at']
def Ring.av (x : Ring) : AV T := .agg x.cs
theorem readC102 {w : World} : RdT Try.prog E w 102 Ring.ok Ring.cs :=
  (rdT_struct Try.underlying102 (rdF_cons (off := 0) (off' := 1) rfl (show 0 + Try.prog.cellsOf 45 = 1 by kernel_rfl) (rdT_slice good Try.underlying45 rfl read3) (rdF_cons (off := 1) (off' := 2) rfl (show 1 + Try.prog.cellsOf 3 = 2 by kernel_rfl) (rdT_int Try.underlying3) (rdF_nil (Nat.le_of_eq (show Try.prog.cellsOf 102 = 2 by kernel_rfl)))))).map (fun p => (⟨p.1, p.2.1⟩ : Ring)) (fun p h => h) (fun p => rfl)
def Part.ok (x : Part) : Prop := InK .i64 (x.N) ∧ InK .i64 (x.D) ∧ True
def Part.cs (x : Part) : List (AV T) := [.sym .i64 x.N, .sym .i64 x.D]
def Part.av (x : Part) : AV T := .agg x.cs
theorem readC115 {w : World} : RdT Try.prog E w 115 Part.ok Part.cs :=
  (rdT_struct Try.underlying115 (rdF_cons (off := 0) (off' := 1) rfl (show 0 + Try.prog.cellsOf 2 = 1 by kernel_rfl) (rdT_int Try.underlying2) (rdF_cons (off := 1) (off' := 2) rfl (show 1 + Try.prog.cellsOf 2 = 2 by kernel_rfl) (rdT_int Try.underlying2) (rdF_nil (Nat.le_of_eq (show Try.prog.cellsOf 115 = 2 by kernel_rfl)))))).map (fun p => (⟨p.1, p.2.1⟩ : Part)) (fun p h => h) (fun p => rfl)
def Hold.ok (x : Hold) : Prop := Range.ok x.Range ∧ Range.ok x.torque ∧ True
def Hold.cs (x : Hold) : List (AV T) := [.sym .i64 x.Range.Lo, .sym .i64 x.Range.Hi, .sym .i64 x.torque.Lo, .sym .i64 x.torque.Hi]
def Hold.av (x : Hold) : AV T := .agg x.cs
theorem readC131 {w : World} : RdT Try.prog E w 131 Hold.ok Hold.cs :=
  (rdT_struct Try.underlying131 (rdF_cons (off := 0) (off' := 2) rfl (show 0 + Try.prog.cellsOf 60 = 2 by kernel_rfl) readC60 (rdF_cons (off := 2) (off' := 4) rfl (show 2 + Try.prog.cellsOf 60 = 4 by kernel_rfl) readC60 (rdF_nil (Nat.le_of_eq (show Try.prog.cellsOf 131 = 4 by kernel_rfl)))))).map (fun p => (⟨p.1, p.2.1⟩ : Hold)) (fun p h => h) (fun p => rfl)
def Load.ok (x : Load) : Prop := Piece.ok x.piece ∧ Hold.ok x.before ∧ Hold.ok x.after ∧ True
def Load.cs (x : Load) : List (AV T) := [.sym .i64 x.piece.Tube, .sym .i64 x.piece.Leg, .sym .i64 x.piece.From, .sym .i64 x.piece.To, .sym .i64 x.before.Range.Lo, .sym .i64 x.before.Range.Hi, .sym .i64 x.before.torque.Lo, .sym .i64 x.before.torque.Hi, .sym .i64 x.after.Range.Lo, .sym .i64 x.after.Range.Hi, .sym .i64 x.after.torque.Lo, .sym .i64 x.after.torque.Hi]
def Load.av (x : Load) : AV T := .agg x.cs
theorem readC133 {w : World} : RdT Try.prog E w 133 Load.ok Load.cs :=
  (rdT_struct Try.underlying133 (rdF_cons (off := 0) (off' := 4) rfl (show 0 + Try.prog.cellsOf 74 = 4 by kernel_rfl) readC74 (rdF_cons (off := 4) (off' := 8) rfl (show 4 + Try.prog.cellsOf 131 = 8 by kernel_rfl) readC131 (rdF_cons (off := 8) (off' := 12) rfl (show 8 + Try.prog.cellsOf 131 = 12 by kernel_rfl) readC131 (rdF_nil (Nat.le_of_eq (show Try.prog.cellsOf 133 = 12 by kernel_rfl))))))).map (fun p => (⟨p.1, p.2.1, p.2.2.1⟩ : Load)) (fun p h => h) (fun p => rfl)
def Vec_138.ok (x : Vec_138) : Prop := InK .i64 (x.X) ∧ InK .i64 (x.Y) ∧ InK .i64 (x.Z) ∧ True
def Vec_138.cs (x : Vec_138) : List (AV T) := [.sym .i64 x.X, .sym .i64 x.Y, .sym .i64 x.Z]
def Vec_138.av (x : Vec_138) : AV T := .agg x.cs
theorem readC138 {w : World} : RdT Try.prog E w 138 Vec_138.ok Vec_138.cs :=
  (rdT_struct Try.underlying138 (rdF_cons (off := 0) (off' := 1) rfl (show 0 + Try.prog.cellsOf 2 = 1 by kernel_rfl) (rdT_int Try.underlying2) (rdF_cons (off := 1) (off' := 2) rfl (show 1 + Try.prog.cellsOf 2 = 2 by kernel_rfl) (rdT_int Try.underlying2) (rdF_cons (off := 2) (off' := 3) rfl (show 2 + Try.prog.cellsOf 2 = 3 by kernel_rfl) (rdT_int Try.underlying2) (rdF_nil (Nat.le_of_eq (show Try.prog.cellsOf 138 = 3 by kernel_rfl))))))).map (fun p => (⟨p.1, p.2.1, p.2.2.1⟩ : Vec_138)) (fun p h => h) (fun p => rfl)
def Stop.ok (x : Stop) : Prop := InK .i64 (x.depth) ∧ Vec_138.ok x.place ∧ True
def Stop.cs (x : Stop) : List (AV T) := [.sym .i64 x.depth, .sym .i64 x.place.X, .sym .i64 x.place.Y, .sym .i64 x.place.Z]
def Stop.av (x : Stop) : AV T := .agg x.cs
theorem readC140 {w : World} : RdT Try.prog E w 140 Stop.ok Stop.cs :=
  (rdT_struct Try.underlying140 (rdF_cons (off := 0) (off' := 1) rfl (show 0 + Try.prog.cellsOf 2 = 1 by kernel_rfl) (rdT_int Try.underlying2) (rdF_cons (off := 1) (off' := 4) rfl (show 1 + Try.prog.cellsOf 138 = 4 by kernel_rfl) readC138 (rdF_nil (Nat.le_of_eq (show Try.prog.cellsOf 140 = 4 by kernel_rfl)))))).map (fun p => (⟨p.1, p.2.1⟩ : Stop)) (fun p h => h) (fun p => rfl)
def Wide.ok (x : Wide) : Prop := InK .u64 (x.Hi) ∧ InK .u64 (x.Lo) ∧ True
def Wide.cs (x : Wide) : List (AV T) := [.sym .u64 x.Hi, .sym .u64 x.Lo]
def Wide.av (x : Wide) : AV T := .agg x.cs
theorem readC170 {w : World} : RdT Try.prog E w 170 Wide.ok Wide.cs :=
  (rdT_struct Try.underlying170 (rdF_cons (off := 0) (off' := 1) rfl (show 0 + Try.prog.cellsOf 168 = 1 by kernel_rfl) (rdT_int Try.underlying168) (rdF_cons (off := 1) (off' := 2) rfl (show 1 + Try.prog.cellsOf 168 = 2 by kernel_rfl) (rdT_int Try.underlying168) (rdF_nil (Nat.le_of_eq (show Try.prog.cellsOf 170 = 2 by kernel_rfl)))))).map (fun p => (⟨p.1, p.2.1⟩ : Wide)) (fun p h => h) (fun p => rfl)
theorem read2 {w : World} : RdT Try.prog E w 2 (fun x : Int => InK .i64 (x)) (E.enc 2) := (rdT_int Try.underlying2)
theorem read24 {w : World} : RdT Try.prog E w 24 (fun x : String => String.ok x) (E.enc 24) := readC24
theorem read44 {w : World} : RdT Try.prog E w 44 (fun x : Path => Path.ok x) (E.enc 44) := readC44
theorem read74 {w : World} : RdT Try.prog E w 74 (fun x : Piece => Piece.ok x) (E.enc 74) := readC74
theorem read79 {w : World} : RdT Try.prog E w 79 (fun x : Hang => Hang.ok x) (E.enc 79) := readC79
theorem read133 {w : World} : RdT Try.prog E w 133 (fun x : Load => Load.ok x) (E.enc 133) := readC133
theorem laid : laidOutB Try.prog = true := by kernel_rfl
theorem mapsR : mapsRowed Try.prog = true := by kernel_rfl
theorem fullS : ∀ t e, t < Try.prog.types.size → Try.prog.underlying t = some (.slice e) → 0 < Try.prog.cellsOf e := slices_full_of Try.prog (by kernel_rfl)
theorem kids : Kids Try.prog (· < Try.prog.types.size) := kids_rows laid mapsR
end Go.Proofs.Ytkaiffdndhhfcaa.W
