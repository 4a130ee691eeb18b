/- The types of the program as Lean has them, and the numbers of its functions. -/
import Derived.Test.YtmnhfjhlfgebiaaRows
import Derived.Test.YtmnhfjhlfgebiaaCz5
set_option linter.unusedVariables false
noncomputable section
namespace Go.Proofs.Ytmnhfjhlfgebiaa.W
open Go Go.Cx Go.RowKit Go.ChangeShapes Go.WideShapes

/-- type 23: moonpool/api.Vec -/
structure Vec where
  X : Int
  Y : Int
  Z : Int

/-- type 26: moonpool/api.Path -/
structure Path where
  From : Vec
  Legs : List Vec

/-- type 54: moonpool/api.Part -/
structure Part where
  N : Int
  D : Int

/-- type 65: moonpool/api.Box -/
structure Box where
  Lo : Vec
  Hi : Vec

/-- type 83: moonpool/api.Goal -/
structure Goal where
  Dirs : List Vec
  Mult : Int
  Legs : Int
  Turn : Part
  Into : Box

/-- type 98: moonpool/api.Knot -/
structure Knot where
  At : Int
  V : Int

/-- type 118: moonpool/path.vec -/
structure Vec_118 where
  X : Int
  Y : Int
  Z : Int

/-- type 143: moonpool/api.Source -/
structure Source where
  ID : Int
  Per : List Vec

/-- type 38: moonpool/api.Line -/
structure Line where
  Knots : List Knot

/-- type 73: moonpool/moonpoollaw01.Well -/
structure Well where
  P : Path
  S : List Source

/-- type 129: moonpool/path.stop -/
structure Stop where
  depth : Int
  place : Vec_118

/-- type 133: moonpool/moonpoolkit.Ring -/
structure Ring where
  l : List Int
  at' : Int

/-- type 153: moonpool/path.survey -/
structure Survey where
  path : Path
  sources : List Source

/-- type 165: moonpool/moonpoolref01.search -/
structure Search where
  g : Goal
  first : Vec
  now : Path
  dirs : List Int
  best : Path
  found : Bool

/-- type 173: moonpool/whole.Wide -/
structure Wide where
  Hi : Int
  Lo : Int

/-- type 178: moonpool/path.zonotope -/
structure Zonotope where
  centre : Vec_118
  generators : List Vec_118

def T : Nat → Type
  | 2 => Int
  | 3 => Int
  | 23 => Vec
  | 24 => List Vec
  | 26 => Path
  | 83 => Goal
  | 98 => Knot
  | 118 => Vec_118
  | 143 => Source
  | _ => Unit

def okT (τ : Nat) : Bool := memN τ [2, 3, 23, 24, 26, 83, 98, 118, 143]
def encT : (τ : Nat) → T τ → List (AV T)
  | 2, (x : Int) => [.sym .i64 x]
  | 3, (x : Int) => [.sym .i64 x]
  | 23, (x : Vec) => [.sym .i64 x.X, .sym .i64 x.Y, .sym .i64 x.Z]
  | 24, (x : List Vec) => [.sl 23 x false]
  | 26, (x : Path) => [.sym .i64 x.From.X, .sym .i64 x.From.Y, .sym .i64 x.From.Z, .sl 23 x.Legs false]
  | 83, (x : Goal) => [.sl 23 x.Dirs false, .sym .i64 x.Mult, .sym .i64 x.Legs, .sym .i64 x.Turn.N, .sym .i64 x.Turn.D, .sym .i64 x.Into.Lo.X, .sym .i64 x.Into.Lo.Y, .sym .i64 x.Into.Lo.Z, .sym .i64 x.Into.Hi.X, .sym .i64 x.Into.Hi.Y, .sym .i64 x.Into.Hi.Z]
  | 98, (x : Knot) => [.sym .i64 x.At, .sym .i64 x.V]
  | 118, (x : Vec_118) => [.sym .i64 x.X, .sym .i64 x.Y, .sym .i64 x.Z]
  | 143, (x : Source) => [.sym .i64 x.ID, .sl 23 x.Per false]
  | _, _ => []

def decT : (τ : Nat) → ((σ : Nat) → AV T → Option (List (T σ))) → List (AV T) → Option (T τ)
  | 2, fz, [c0] => ((decI .i64 c0).bind fun x0 => some (x0 : Int) : Option Int)
  | 3, fz, [c0] => ((decI .i64 c0).bind fun x0 => some (x0 : Int) : Option Int)
  | 23, fz, [c0, c1, c2] => ((decI .i64 c0).bind fun x0 => (decI .i64 c1).bind fun x1 => (decI .i64 c2).bind fun x2 => some (⟨x0, x1, x2⟩ : Vec) : Option Vec)
  | 24, fz, [c0] => ((fz 23 c0).bind fun x0 => some (x0 : List Vec) : Option (List Vec))
  | 26, fz, [c0, c1, c2, c3] => ((decI .i64 c0).bind fun x0 => (decI .i64 c1).bind fun x1 => (decI .i64 c2).bind fun x2 => (fz 23 c3).bind fun x3 => some (⟨(⟨x0, x1, x2⟩ : Vec), x3⟩ : Path) : Option Path)
  | 83, fz, [c0, c1, c2, c3, c4, c5, c6, c7, c8, c9, c10] => ((fz 23 c0).bind fun x0 => (decI .i64 c1).bind fun x1 => (decI .i64 c2).bind fun x2 => (decI .i64 c3).bind fun x3 => (decI .i64 c4).bind fun x4 => (decI .i64 c5).bind fun x5 => (decI .i64 c6).bind fun x6 => (decI .i64 c7).bind fun x7 => (decI .i64 c8).bind fun x8 => (decI .i64 c9).bind fun x9 => (decI .i64 c10).bind fun x10 => some (⟨x0, x1, x2, (⟨x3, x4⟩ : Part), (⟨(⟨x5, x6, x7⟩ : Vec), (⟨x8, x9, x10⟩ : Vec)⟩ : Box)⟩ : Goal) : Option Goal)
  | 98, fz, [c0, c1] => ((decI .i64 c0).bind fun x0 => (decI .i64 c1).bind fun x1 => some (⟨x0, x1⟩ : Knot) : Option Knot)
  | 118, fz, [c0, c1, c2] => ((decI .i64 c0).bind fun x0 => (decI .i64 c1).bind fun x1 => (decI .i64 c2).bind fun x2 => some (⟨x0, x1, x2⟩ : Vec_118) : Option Vec_118)
  | 143, fz, [c0, c1] => ((decI .i64 c0).bind fun x0 => (fz 23 c1).bind fun x1 => some (⟨x0, x1⟩ : Source) : Option Source)
  | _, _, _ => none

def dT : (τ : Nat) → T τ
  | 2 => (0 : Int)
  | 3 => (0 : Int)
  | 23 => (⟨0, 0, 0⟩ : Vec)
  | 24 => ([] : List Vec)
  | 26 => (⟨⟨0, 0, 0⟩, []⟩ : Path)
  | 83 => (⟨[], 0, 0, ⟨0, 0⟩, ⟨⟨0, 0, 0⟩, ⟨0, 0, 0⟩⟩⟩ : Goal)
  | 98 => (⟨0, 0⟩ : Knot)
  | 118 => (⟨0, 0, 0⟩ : Vec_118)
  | 143 => (⟨0, []⟩ : Source)
  | n => by
    unfold T
    split <;> first | exact () | exact (0 : Int) | exact ([] : List Vec) | exact (⟨0, 0, 0⟩ : Vec) | exact (⟨0, 0, 0⟩ : Vec_118) | exact (⟨0, 0⟩ : Knot) | exact (⟨0, []⟩ : Source) | exact (⟨[], 0, 0, ⟨0, 0⟩, ⟨⟨0, 0, 0⟩, ⟨0, 0, 0⟩⟩⟩ : Goal) | exact (⟨⟨0, 0, 0⟩, []⟩ : Path)
def E : Enc T := ⟨okT, encT, dT, fun t => bif Try.prog.eqGuardType Try.prog.depth t then false else bif Try.prog.stoodInHeld t then false else true, decT⟩
theorem ok_cases {τ : Nat} (h : E.ok τ = true) : τ = 2 ∨ τ = 3 ∨ τ = 23 ∨ τ = 24 ∨ τ = 26 ∨ τ = 83 ∨ τ = 98 ∨ τ = 118 ∨ τ = 143 := by
  have h := memN_iff.1 (show memN τ [2, 3, 23, 24, 26, 83, 98, 118, 143] = true from h)
  simpa only [List.mem_cons, List.mem_nil_iff, or_false] using h
set_option maxHeartbeats 4000000 in
theorem decOk : E.DecOk Try.prog := by
  intro τ fz cs x h hd
  rcases ok_cases h with rfl | rfl | rfl | rfl | rfl | rfl | rfl | rfl | rfl
  · match cs, hd with
    | [c0], hd =>
      have hd : ((decI .i64 c0).bind fun x0 => some (x0 : Int)) = some x := hd
      obtain ⟨x0, h0, hd⟩ := Option.bind_eq_some_iff.1 hd
      cases hd
      exact ⟨decI_to h0, trivial⟩
  · match cs, hd with
    | [c0], hd =>
      have hd : ((decI .i64 c0).bind fun x0 => some (x0 : Int)) = some x := hd
      obtain ⟨x0, h0, hd⟩ := Option.bind_eq_some_iff.1 hd
      cases hd
      exact ⟨decI_to h0, trivial⟩
  · match cs, hd with
    | [c0, c1, c2], hd =>
      have hd : ((decI .i64 c0).bind fun x0 => (decI .i64 c1).bind fun x1 => (decI .i64 c2).bind fun x2 => some (⟨x0, x1, x2⟩ : Vec)) = some x := hd
      obtain ⟨x0, h0, hd⟩ := Option.bind_eq_some_iff.1 hd
      obtain ⟨x1, h1, hd⟩ := Option.bind_eq_some_iff.1 hd
      obtain ⟨x2, h2, hd⟩ := Option.bind_eq_some_iff.1 hd
      cases hd
      exact ⟨decI_to h0, decI_to h1, decI_to h2, trivial⟩
  · match cs, hd with
    | [c0], hd =>
      have hd : ((fz 23 c0).bind fun x0 => some (x0 : List Vec)) = some x := hd
      obtain ⟨x0, h0, hd⟩ := Option.bind_eq_some_iff.1 hd
      cases hd
      exact ⟨fz_to h0, trivial⟩
  · match cs, hd with
    | [c0, c1, c2, c3], hd =>
      have hd : ((decI .i64 c0).bind fun x0 => (decI .i64 c1).bind fun x1 => (decI .i64 c2).bind fun x2 => (fz 23 c3).bind fun x3 => some (⟨(⟨x0, x1, x2⟩ : Vec), x3⟩ : Path)) = some x := hd
      obtain ⟨x0, h0, hd⟩ := Option.bind_eq_some_iff.1 hd
      obtain ⟨x1, h1, hd⟩ := Option.bind_eq_some_iff.1 hd
      obtain ⟨x2, h2, hd⟩ := Option.bind_eq_some_iff.1 hd
      obtain ⟨x3, h3, hd⟩ := Option.bind_eq_some_iff.1 hd
      cases hd
      exact ⟨decI_to h0, decI_to h1, decI_to h2, fz_to h3, trivial⟩
  · match cs, hd with
    | [c0, c1, c2, c3, c4, c5, c6, c7, c8, c9, c10], hd =>
      have hd : ((fz 23 c0).bind fun x0 => (decI .i64 c1).bind fun x1 => (decI .i64 c2).bind fun x2 => (decI .i64 c3).bind fun x3 => (decI .i64 c4).bind fun x4 => (decI .i64 c5).bind fun x5 => (decI .i64 c6).bind fun x6 => (decI .i64 c7).bind fun x7 => (decI .i64 c8).bind fun x8 => (decI .i64 c9).bind fun x9 => (decI .i64 c10).bind fun x10 => some (⟨x0, x1, x2, (⟨x3, x4⟩ : Part), (⟨(⟨x5, x6, x7⟩ : Vec), (⟨x8, x9, x10⟩ : Vec)⟩ : Box)⟩ : Goal)) = some x := hd
      obtain ⟨x0, h0, hd⟩ := Option.bind_eq_some_iff.1 hd
      obtain ⟨x1, h1, hd⟩ := Option.bind_eq_some_iff.1 hd
      obtain ⟨x2, h2, hd⟩ := Option.bind_eq_some_iff.1 hd
      obtain ⟨x3, h3, hd⟩ := Option.bind_eq_some_iff.1 hd
      obtain ⟨x4, h4, hd⟩ := Option.bind_eq_some_iff.1 hd
      obtain ⟨x5, h5, hd⟩ := Option.bind_eq_some_iff.1 hd
      obtain ⟨x6, h6, hd⟩ := Option.bind_eq_some_iff.1 hd
      obtain ⟨x7, h7, hd⟩ := Option.bind_eq_some_iff.1 hd
      obtain ⟨x8, h8, hd⟩ := Option.bind_eq_some_iff.1 hd
      obtain ⟨x9, h9, hd⟩ := Option.bind_eq_some_iff.1 hd
      obtain ⟨x10, h10, hd⟩ := Option.bind_eq_some_iff.1 hd
      cases hd
      exact ⟨fz_to h0, decI_to h1, decI_to h2, decI_to h3, decI_to h4, decI_to h5, decI_to h6, decI_to h7, decI_to h8, decI_to h9, decI_to h10, trivial⟩
  · match cs, hd with
    | [c0, c1], hd =>
      have hd : ((decI .i64 c0).bind fun x0 => (decI .i64 c1).bind fun x1 => some (⟨x0, x1⟩ : Knot)) = some x := hd
      obtain ⟨x0, h0, hd⟩ := Option.bind_eq_some_iff.1 hd
      obtain ⟨x1, h1, hd⟩ := Option.bind_eq_some_iff.1 hd
      cases hd
      exact ⟨decI_to h0, decI_to h1, trivial⟩
  · match cs, hd with
    | [c0, c1, c2], hd =>
      have hd : ((decI .i64 c0).bind fun x0 => (decI .i64 c1).bind fun x1 => (decI .i64 c2).bind fun x2 => some (⟨x0, x1, x2⟩ : Vec_118)) = some x := hd
      obtain ⟨x0, h0, hd⟩ := Option.bind_eq_some_iff.1 hd
      obtain ⟨x1, h1, hd⟩ := Option.bind_eq_some_iff.1 hd
      obtain ⟨x2, h2, hd⟩ := Option.bind_eq_some_iff.1 hd
      cases hd
      exact ⟨decI_to h0, decI_to h1, decI_to h2, trivial⟩
  · match cs, hd with
    | [c0, c1], hd =>
      have hd : ((decI .i64 c0).bind fun x0 => (fz 23 c1).bind fun x1 => some (⟨x0, x1⟩ : Source)) = some x := hd
      obtain ⟨x0, h0, hd⟩ := Option.bind_eq_some_iff.1 hd
      obtain ⟨x1, h1, hd⟩ := Option.bind_eq_some_iff.1 hd
      cases hd
      exact ⟨decI_to h0, fz_to h1, trivial⟩
set_option maxRecDepth 100000 in
theorem good : E.Good Try.prog := by
  refine ⟨fun τ h => ?_, fun τ h => ?_, fun τ h => ?_, fun t h => ?_, decOk⟩
  · rcases ok_cases h with rfl | rfl | rfl | rfl | rfl | rfl | rfl | rfl | rfl
    · intro x; exact (show 1 = Try.prog.cellsOf 2 by kernel_rfl)
    · intro x; exact (show 1 = Try.prog.cellsOf 3 by kernel_rfl)
    · intro x; exact (show 3 = Try.prog.cellsOf 23 by kernel_rfl)
    · intro x; exact (show 1 = Try.prog.cellsOf 24 by kernel_rfl)
    · intro x; exact (show 4 = Try.prog.cellsOf 26 by kernel_rfl)
    · intro x; exact (show 11 = Try.prog.cellsOf 83 by kernel_rfl)
    · intro x; exact (show 2 = Try.prog.cellsOf 98 by kernel_rfl)
    · intro x; exact (show 3 = Try.prog.cellsOf 118 by kernel_rfl)
    · intro x; exact (show 2 = Try.prog.cellsOf 143 by kernel_rfl)
  · rcases ok_cases h with rfl | rfl | rfl | rfl | rfl | rfl | rfl | rfl | rfl
    · exact (Nat.lt_of_lt_of_eq (by decide : 0 < 1) (show 1 = Try.prog.cellsOf 2 by kernel_rfl))
    · exact (Nat.lt_of_lt_of_eq (by decide : 0 < 1) (show 1 = Try.prog.cellsOf 3 by kernel_rfl))
    · exact (Nat.lt_of_lt_of_eq (by decide : 0 < 3) (show 3 = Try.prog.cellsOf 23 by kernel_rfl))
    · exact (Nat.lt_of_lt_of_eq (by decide : 0 < 1) (show 1 = Try.prog.cellsOf 24 by kernel_rfl))
    · exact (Nat.lt_of_lt_of_eq (by decide : 0 < 4) (show 4 = Try.prog.cellsOf 26 by kernel_rfl))
    · exact (Nat.lt_of_lt_of_eq (by decide : 0 < 11) (show 11 = Try.prog.cellsOf 83 by kernel_rfl))
    · exact (Nat.lt_of_lt_of_eq (by decide : 0 < 2) (show 2 = Try.prog.cellsOf 98 by kernel_rfl))
    · exact (Nat.lt_of_lt_of_eq (by decide : 0 < 3) (show 3 = Try.prog.cellsOf 118 by kernel_rfl))
    · exact (Nat.lt_of_lt_of_eq (by decide : 0 < 2) (show 2 = Try.prog.cellsOf 143 by kernel_rfl))
  · rcases ok_cases h with rfl | rfl | rfl | rfl | rfl | rfl | rfl | rfl | rfl
    · intro x; rfl
    · intro x; rfl
    · intro x; rfl
    · intro x; rfl
    · intro x; rfl
    · intro x; rfl
    · intro x; rfl
    · intro x; rfl
    · intro x; rfl
  · have h : (bif Try.prog.eqGuardType Try.prog.depth t then false else bif Try.prog.stoodInHeld t then false else true) = true := h
    cases h1 : Try.prog.eqGuardType Try.prog.depth t with
    | true => rw [h1] at h; cases h
    | false =>
      cases h2 : Try.prog.stoodInHeld t with
      | true => rw [h1, h2] at h; cases h
      | false => exact ⟨rfl, rfl⟩
instance goodP : Go.Cx.GoodP Try.prog E := ⟨good⟩
theorem own : ownKnob Try.prog.godebug = none := by kernel_rfl
theorem mixes : Try.prog.follows .mixedOrders = true := by kernel_rfl
theorem named : Try.prog.funcs.all (fun fn => !(fn.name == "runtime.NumGoroutine")) = true := by kernel_rfl
theorem names : NamesOk Try.prog := fun f fn h => by
  have := Array.all_eq_true_iff_forall_mem.1 named fn (Array.mem_of_getElem? h)
  simpa using this
set_option maxRecDepth 100000
def Vec.ok (x : Vec) : Prop := InK .i64 (x.X) ∧ InK .i64 (x.Y) ∧ InK .i64 (x.Z) ∧ True
def Vec.cs (x : Vec) : List (AV T) := [.sym .i64 x.X, .sym .i64 x.Y, .sym .i64 x.Z]
def Vec.av (x : Vec) : AV T := .agg x.cs
theorem readC23 {w : World} : RdT Try.prog E w 23 Vec.ok Vec.cs :=
  (rdT_struct Try.underlying23 (rdF_cons (off := 0) (off' := 1) rfl (show 0 + Try.prog.cellsOf 2 = 1 by kernel_rfl) (rdT_int Try.underlying2) (rdF_cons (off := 1) (off' := 2) rfl (show 1 + Try.prog.cellsOf 2 = 2 by kernel_rfl) (rdT_int Try.underlying2) (rdF_cons (off := 2) (off' := 3) rfl (show 2 + Try.prog.cellsOf 2 = 3 by kernel_rfl) (rdT_int Try.underlying2) (rdF_nil (Nat.le_of_eq (show Try.prog.cellsOf 23 = 3 by kernel_rfl))))))).map (fun p => (⟨p.1, p.2.1, p.2.2.1⟩ : Vec)) (fun p h => h) (fun p => rfl)
theorem read23 {w : World} : RdT Try.prog E w 23 (fun x : Vec => Vec.ok x) (E.enc 23) := readC23
def Path.ok (x : Path) : Prop := Vec.ok x.From ∧ ((∀ y ∈ x.Legs, Vec.ok y) ∧ (x.Legs).length ≤ maxLen) ∧ True
def Path.cs (x : Path) : List (AV T) := [.sym .i64 x.From.X, .sym .i64 x.From.Y, .sym .i64 x.From.Z, .sl 23 x.Legs false]
def Path.av (x : Path) : AV T := .agg x.cs
theorem readC26 {w : World} : RdT Try.prog E w 26 Path.ok Path.cs :=
  (rdT_struct Try.underlying26 (rdF_cons (off := 0) (off' := 3) rfl (show 0 + Try.prog.cellsOf 23 = 3 by kernel_rfl) readC23 (rdF_cons (off := 3) (off' := 4) rfl (show 3 + Try.prog.cellsOf 24 = 4 by kernel_rfl) (rdT_slice good Try.underlying24 rfl read23) (rdF_nil (Nat.le_of_eq (show Try.prog.cellsOf 26 = 4 by kernel_rfl)))))).map (fun p => (⟨p.1, p.2.1⟩ : Path)) (fun p h => h) (fun p => rfl)
def Knot.ok (x : Knot) : Prop := InK .i64 (x.At) ∧ InK .i64 (x.V) ∧ True
def Knot.cs (x : Knot) : List (AV T) := [.sym .i64 x.At, .sym .i64 x.V]
def Knot.av (x : Knot) : AV T := .agg x.cs
theorem readC98 {w : World} : RdT Try.prog E w 98 Knot.ok Knot.cs :=
  (rdT_struct Try.underlying98 (rdF_cons (off := 0) (off' := 1) rfl (show 0 + Try.prog.cellsOf 2 = 1 by kernel_rfl) (rdT_int Try.underlying2) (rdF_cons (off := 1) (off' := 2) rfl (show 1 + Try.prog.cellsOf 2 = 2 by kernel_rfl) (rdT_int Try.underlying2) (rdF_nil (Nat.le_of_eq (show Try.prog.cellsOf 98 = 2 by kernel_rfl)))))).map (fun p => (⟨p.1, p.2.1⟩ : Knot)) (fun p h => h) (fun p => rfl)
theorem read98 {w : World} : RdT Try.prog E w 98 (fun x : Knot => Knot.ok x) (E.enc 98) := readC98
def Line.ok (x : Line) : Prop := ((∀ y ∈ x.Knots, Knot.ok y) ∧ (x.Knots).length ≤ maxLen) ∧ True
def Line.cs (x : Line) : List (AV T) := [.sl 98 x.Knots false]
def Line.av (x : Line) : AV T := .agg x.cs
theorem readC38 {w : World} : RdT Try.prog E w 38 Line.ok Line.cs :=
  (rdT_struct Try.underlying38 (rdF_cons (off := 0) (off' := 1) rfl (show 0 + Try.prog.cellsOf 36 = 1 by kernel_rfl) (rdT_slice good Try.underlying36 rfl read98) (rdF_nil (Nat.le_of_eq (show Try.prog.cellsOf 38 = 1 by kernel_rfl))))).map (fun p => (⟨p.1⟩ : Line)) (fun p h => h) (fun p => rfl)
def Part.ok (x : Part) : Prop := InK .i64 (x.N) ∧ InK .i64 (x.D) ∧ True
def Part.cs (x : Part) : List (AV T) := [.sym .i64 x.N, .sym .i64 x.D]
def Part.av (x : Part) : AV T := .agg x.cs
theorem readC54 {w : World} : RdT Try.prog E w 54 Part.ok Part.cs :=
  (rdT_struct Try.underlying54 (rdF_cons (off := 0) (off' := 1) rfl (show 0 + Try.prog.cellsOf 2 = 1 by kernel_rfl) (rdT_int Try.underlying2) (rdF_cons (off := 1) (off' := 2) rfl (show 1 + Try.prog.cellsOf 2 = 2 by kernel_rfl) (rdT_int Try.underlying2) (rdF_nil (Nat.le_of_eq (show Try.prog.cellsOf 54 = 2 by kernel_rfl)))))).map (fun p => (⟨p.1, p.2.1⟩ : Part)) (fun p h => h) (fun p => rfl)
def Box.ok (x : Box) : Prop := Vec.ok x.Lo ∧ Vec.ok x.Hi ∧ True
def Box.cs (x : Box) : List (AV T) := [.sym .i64 x.Lo.X, .sym .i64 x.Lo.Y, .sym .i64 x.Lo.Z, .sym .i64 x.Hi.X, .sym .i64 x.Hi.Y, .sym .i64 x.Hi.Z]
def Box.av (x : Box) : AV T := .agg x.cs
theorem readC65 {w : World} : RdT Try.prog E w 65 Box.ok Box.cs :=
  (rdT_struct Try.underlying65 (rdF_cons (off := 0) (off' := 3) rfl (show 0 + Try.prog.cellsOf 23 = 3 by kernel_rfl) readC23 (rdF_cons (off := 3) (off' := 6) rfl (show 3 + Try.prog.cellsOf 23 = 6 by kernel_rfl) readC23 (rdF_nil (Nat.le_of_eq (show Try.prog.cellsOf 65 = 6 by kernel_rfl)))))).map (fun p => (⟨p.1, p.2.1⟩ : Box)) (fun p h => h) (fun p => rfl)
def Source.ok (x : Source) : Prop := InK .i64 (x.ID) ∧ ((∀ y ∈ x.Per, Vec.ok y) ∧ (x.Per).length ≤ maxLen) ∧ True
def Source.cs (x : Source) : List (AV T) := [.sym .i64 x.ID, .sl 23 x.Per false]
def Source.av (x : Source) : AV T := .agg x.cs
theorem readC143 {w : World} : RdT Try.prog E w 143 Source.ok Source.cs :=
  (rdT_struct Try.underlying143 (rdF_cons (off := 0) (off' := 1) rfl (show 0 + Try.prog.cellsOf 3 = 1 by kernel_rfl) (rdT_int Try.underlying3) (rdF_cons (off := 1) (off' := 2) rfl (show 1 + Try.prog.cellsOf 24 = 2 by kernel_rfl) (rdT_slice good Try.underlying24 rfl read23) (rdF_nil (Nat.le_of_eq (show Try.prog.cellsOf 143 = 2 by kernel_rfl)))))).map (fun p => (⟨p.1, p.2.1⟩ : Source)) (fun p h => h) (fun p => rfl)
theorem read143 {w : World} : RdT Try.prog E w 143 (fun x : Source => Source.ok x) (E.enc 143) := readC143
def Well.ok (x : Well) : Prop := Path.ok x.P ∧ ((∀ y ∈ x.S, Source.ok y) ∧ (x.S).length ≤ maxLen) ∧ True
def Well.cs (x : Well) : List (AV T) := [.sym .i64 x.P.From.X, .sym .i64 x.P.From.Y, .sym .i64 x.P.From.Z, .sl 23 x.P.Legs false, .sl 143 x.S false]
def Well.av (x : Well) : AV T := .agg x.cs
theorem readC73 {w : World} : RdT Try.prog E w 73 Well.ok Well.cs :=
  (rdT_struct Try.underlying73 (rdF_cons (off := 0) (off' := 4) rfl (show 0 + Try.prog.cellsOf 26 = 4 by kernel_rfl) readC26 (rdF_cons (off := 4) (off' := 5) rfl (show 4 + Try.prog.cellsOf 59 = 5 by kernel_rfl) (rdT_slice good Try.underlying59 rfl read143) (rdF_nil (Nat.le_of_eq (show Try.prog.cellsOf 73 = 5 by kernel_rfl)))))).map (fun p => (⟨p.1, p.2.1⟩ : Well)) (fun p h => h) (fun p => rfl)
def Goal.ok (x : Goal) : Prop := ((∀ y ∈ x.Dirs, Vec.ok y) ∧ (x.Dirs).length ≤ maxLen) ∧ InK .i64 (x.Mult) ∧ InK .i64 (x.Legs) ∧ Part.ok x.Turn ∧ Box.ok x.Into ∧ True
def Goal.cs (x : Goal) : List (AV T) := [.sl 23 x.Dirs false, .sym .i64 x.Mult, .sym .i64 x.Legs, .sym .i64 x.Turn.N, .sym .i64 x.Turn.D, .sym .i64 x.Into.Lo.X, .sym .i64 x.Into.Lo.Y, .sym .i64 x.Into.Lo.Z, .sym .i64 x.Into.Hi.X, .sym .i64 x.Into.Hi.Y, .sym .i64 x.Into.Hi.Z]
def Goal.av (x : Goal) : AV T := .agg x.cs
theorem readC83 {w : World} : RdT Try.prog E w 83 Goal.ok Goal.cs :=
  (rdT_struct Try.underlying83 (rdF_cons (off := 0) (off' := 1) rfl (show 0 + Try.prog.cellsOf 24 = 1 by kernel_rfl) (rdT_slice good Try.underlying24 rfl read23) (rdF_cons (off := 1) (off' := 2) rfl (show 1 + Try.prog.cellsOf 2 = 2 by kernel_rfl) (rdT_int Try.underlying2) (rdF_cons (off := 2) (off' := 3) rfl (show 2 + Try.prog.cellsOf 3 = 3 by kernel_rfl) (rdT_int Try.underlying3) (rdF_cons (off := 3) (off' := 5) rfl (show 3 + Try.prog.cellsOf 54 = 5 by kernel_rfl) readC54 (rdF_cons (off := 5) (off' := 11) rfl (show 5 + Try.prog.cellsOf 65 = 11 by kernel_rfl) readC65 (rdF_nil (Nat.le_of_eq (show Try.prog.cellsOf 83 = 11 by kernel_rfl))))))))).map (fun p => (⟨p.1, p.2.1, p.2.2.1, p.2.2.2.1, p.2.2.2.2.1⟩ : Goal)) (fun p h => h) (fun p => rfl)
def Vec_118.ok (x : Vec_118) : Prop := InK .i64 (x.X) ∧ InK .i64 (x.Y) ∧ InK .i64 (x.Z) ∧ True
def Vec_118.cs (x : Vec_118) : List (AV T) := [.sym .i64 x.X, .sym .i64 x.Y, .sym .i64 x.Z]
def Vec_118.av (x : Vec_118) : AV T := .agg x.cs
theorem readC118 {w : World} : RdT Try.prog E w 118 Vec_118.ok Vec_118.cs :=
  (rdT_struct Try.underlying118 (rdF_cons (off := 0) (off' := 1) rfl (show 0 + Try.prog.cellsOf 2 = 1 by kernel_rfl) (rdT_int Try.underlying2) (rdF_cons (off := 1) (off' := 2) rfl (show 1 + Try.prog.cellsOf 2 = 2 by kernel_rfl) (rdT_int Try.underlying2) (rdF_cons (off := 2) (off' := 3) rfl (show 2 + Try.prog.cellsOf 2 = 3 by kernel_rfl) (rdT_int Try.underlying2) (rdF_nil (Nat.le_of_eq (show Try.prog.cellsOf 118 = 3 by kernel_rfl))))))).map (fun p => (⟨p.1, p.2.1, p.2.2.1⟩ : Vec_118)) (fun p h => h) (fun p => rfl)
def Stop.ok (x : Stop) : Prop := InK .i64 (x.depth) ∧ Vec_118.ok x.place ∧ True
def Stop.cs (x : Stop) : List (AV T) := [.sym .i64 x.depth, .sym .i64 x.place.X, .sym .i64 x.place.Y, .sym .i64 x.place.Z]
def Stop.av (x : Stop) : AV T := .agg x.cs
theorem readC129 {w : World} : RdT Try.prog E w 129 Stop.ok Stop.cs :=
  (rdT_struct Try.underlying129 (rdF_cons (off := 0) (off' := 1) rfl (show 0 + Try.prog.cellsOf 2 = 1 by kernel_rfl) (rdT_int Try.underlying2) (rdF_cons (off := 1) (off' := 4) rfl (show 1 + Try.prog.cellsOf 118 = 4 by kernel_rfl) readC118 (rdF_nil (Nat.le_of_eq (show Try.prog.cellsOf 129 = 4 by kernel_rfl)))))).map (fun p => (⟨p.1, p.2.1⟩ : Stop)) (fun p h => h) (fun p => rfl)
theorem read3 {w : World} : RdT Try.prog E w 3 (fun x : Int => InK .i64 (x)) (E.enc 3) := (rdT_int Try.underlying3)
def Ring.ok (x : Ring) : Prop := ((∀ y ∈ x.l, InK .i64 (y)) ∧ (x.l).length ≤ maxLen) ∧ InK .i64 (x.at') ∧ True
def Ring.cs (x : Ring) : List (AV T) := [.sl 3 x.l false, .sym .i64 x.at']
def Ring.av (x : Ring) : AV T := .agg x.cs
theorem readC133 {w : World} : RdT Try.prog E w 133 Ring.ok Ring.cs :=
  (rdT_struct Try.underlying133 (rdF_cons (off := 0) (off' := 1) rfl (show 0 + Try.prog.cellsOf 42 = 1 by kernel_rfl) (rdT_slice good Try.underlying42 rfl read3) (rdF_cons (off := 1) (off' := 2) rfl (show 1 + Try.prog.cellsOf 3 = 2 by kernel_rfl) (rdT_int Try.underlying3) (rdF_nil (Nat.le_of_eq (show Try.prog.cellsOf 133 = 2 by kernel_rfl)))))).map (fun p => (⟨p.1, p.2.1⟩ : Ring)) (fun p h => h) (fun p => rfl)
def Survey.ok (x : Survey) : Prop := Path.ok x.path ∧ ((∀ y ∈ x.sources, Source.ok y) ∧ (x.sources).length ≤ maxLen) ∧ True
def Survey.cs (x : Survey) : List (AV T) := [.sym .i64 x.path.From.X, .sym .i64 x.path.From.Y, .sym .i64 x.path.From.Z, .sl 23 x.path.Legs false, .sl 143 x.sources false]
def Survey.av (x : Survey) : AV T := .agg x.cs
theorem readC153 {w : World} : RdT Try.prog E w 153 Survey.ok Survey.cs :=
  (rdT_struct Try.underlying153 (rdF_cons (off := 0) (off' := 4) rfl (show 0 + Try.prog.cellsOf 26 = 4 by kernel_rfl) readC26 (rdF_cons (off := 4) (off' := 5) rfl (show 4 + Try.prog.cellsOf 59 = 5 by kernel_rfl) (rdT_slice good Try.underlying59 rfl read143) (rdF_nil (Nat.le_of_eq (show Try.prog.cellsOf 153 = 5 by kernel_rfl)))))).map (fun p => (⟨p.1, p.2.1⟩ : Survey)) (fun p h => h) (fun p => rfl)
def Search.ok (x : Search) : Prop := Goal.ok x.g ∧ Vec.ok x.first ∧ Path.ok x.now ∧ ((∀ y ∈ x.dirs, InK .i64 (y)) ∧ (x.dirs).length ≤ maxLen) ∧ Path.ok x.best ∧ True ∧ True
def Search.cs (x : Search) : List (AV T) := [.sl 23 x.g.Dirs false, .sym .i64 x.g.Mult, .sym .i64 x.g.Legs, .sym .i64 x.g.Turn.N, .sym .i64 x.g.Turn.D, .sym .i64 x.g.Into.Lo.X, .sym .i64 x.g.Into.Lo.Y, .sym .i64 x.g.Into.Lo.Z, .sym .i64 x.g.Into.Hi.X, .sym .i64 x.g.Into.Hi.Y, .sym .i64 x.g.Into.Hi.Z, .sym .i64 x.first.X, .sym .i64 x.first.Y, .sym .i64 x.first.Z, .sym .i64 x.now.From.X, .sym .i64 x.now.From.Y, .sym .i64 x.now.From.Z, .sl 23 x.now.Legs false, .sl 3 x.dirs false, .sym .i64 x.best.From.X, .sym .i64 x.best.From.Y, .sym .i64 x.best.From.Z, .sl 23 x.best.Legs false, .bool x.found]
def Search.av (x : Search) : AV T := .agg x.cs
theorem readC165 {w : World} : RdT Try.prog E w 165 Search.ok Search.cs :=
  (rdT_struct Try.underlying165 (rdF_cons (off := 0) (off' := 11) rfl (show 0 + Try.prog.cellsOf 83 = 11 by kernel_rfl) readC83 (rdF_cons (off := 11) (off' := 14) rfl (show 11 + Try.prog.cellsOf 23 = 14 by kernel_rfl) readC23 (rdF_cons (off := 14) (off' := 18) rfl (show 14 + Try.prog.cellsOf 26 = 18 by kernel_rfl) readC26 (rdF_cons (off := 18) (off' := 19) rfl (show 18 + Try.prog.cellsOf 42 = 19 by kernel_rfl) (rdT_slice good Try.underlying42 rfl read3) (rdF_cons (off := 19) (off' := 23) rfl (show 19 + Try.prog.cellsOf 26 = 23 by kernel_rfl) readC26 (rdF_cons (off := 23) (off' := 24) rfl (show 23 + Try.prog.cellsOf 4 = 24 by kernel_rfl) (rdT_bool Try.underlying4) (rdF_nil (Nat.le_of_eq (show Try.prog.cellsOf 165 = 24 by kernel_rfl)))))))))).map (fun p => (⟨p.1, p.2.1, p.2.2.1, p.2.2.2.1, p.2.2.2.2.1, p.2.2.2.2.2.1⟩ : Search)) (fun p h => h) (fun p => rfl)
def Wide.ok (x : Wide) : Prop := InK .u64 (x.Hi) ∧ InK .u64 (x.Lo) ∧ True
def Wide.cs (x : Wide) : List (AV T) := [.sym .u64 x.Hi, .sym .u64 x.Lo]
def Wide.av (x : Wide) : AV T := .agg x.cs
theorem readC173 {w : World} : RdT Try.prog E w 173 Wide.ok Wide.cs :=
  (rdT_struct Try.underlying173 (rdF_cons (off := 0) (off' := 1) rfl (show 0 + Try.prog.cellsOf 171 = 1 by kernel_rfl) (rdT_int Try.underlying171) (rdF_cons (off := 1) (off' := 2) rfl (show 1 + Try.prog.cellsOf 171 = 2 by kernel_rfl) (rdT_int Try.underlying171) (rdF_nil (Nat.le_of_eq (show Try.prog.cellsOf 173 = 2 by kernel_rfl)))))).map (fun p => (⟨p.1, p.2.1⟩ : Wide)) (fun p h => h) (fun p => rfl)
theorem read118 {w : World} : RdT Try.prog E w 118 (fun x : Vec_118 => Vec_118.ok x) (E.enc 118) := readC118
def Zonotope.ok (x : Zonotope) : Prop := Vec_118.ok x.centre ∧ ((∀ y ∈ x.generators, Vec_118.ok y) ∧ (x.generators).length ≤ maxLen) ∧ True
def Zonotope.cs (x : Zonotope) : List (AV T) := [.sym .i64 x.centre.X, .sym .i64 x.centre.Y, .sym .i64 x.centre.Z, .sl 118 x.generators false]
def Zonotope.av (x : Zonotope) : AV T := .agg x.cs
theorem readC178 {w : World} : RdT Try.prog E w 178 Zonotope.ok Zonotope.cs :=
  (rdT_struct Try.underlying178 (rdF_cons (off := 0) (off' := 3) rfl (show 0 + Try.prog.cellsOf 118 = 3 by kernel_rfl) readC118 (rdF_cons (off := 3) (off' := 4) rfl (show 3 + Try.prog.cellsOf 176 = 4 by kernel_rfl) (rdT_slice good Try.underlying176 rfl read118) (rdF_nil (Nat.le_of_eq (show Try.prog.cellsOf 178 = 4 by kernel_rfl)))))).map (fun p => (⟨p.1, p.2.1⟩ : Zonotope)) (fun p h => h) (fun p => rfl)
theorem read2 {w : World} : RdT Try.prog E w 2 (fun x : Int => InK .i64 (x)) (E.enc 2) := (rdT_int Try.underlying2)
theorem read26 {w : World} : RdT Try.prog E w 26 (fun x : Path => Path.ok x) (E.enc 26) := readC26
theorem read83 {w : World} : RdT Try.prog E w 83 (fun x : Goal => Goal.ok x) (E.enc 83) := readC83
theorem read24 {w : World} : RdT Try.prog E w 24 (fun x : List Vec => ((∀ y ∈ x, Vec.ok y) ∧ (x).length ≤ maxLen)) (E.enc 24) := (rdT_slice good Try.underlying24 rfl read23)
theorem laid : laidOutB Try.prog = true := by kernel_rfl
theorem mapsR : mapsRowed Try.prog = true := by kernel_rfl
theorem fullS : ∀ t e, t < Try.prog.types.size → Try.prog.underlying t = some (.slice e) → 0 < Try.prog.cellsOf e := slices_full_of Try.prog (by kernel_rfl)
theorem kids : Kids Try.prog (· < Try.prog.types.size) := kids_rows laid mapsR
end Go.Proofs.Ytmnhfjhlfgebiaa.W
