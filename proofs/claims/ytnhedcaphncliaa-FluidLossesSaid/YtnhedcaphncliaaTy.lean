/- The types of the program as Lean has them, and the numbers of its functions. -/
import Derived.Test.YtnhedcaphncliaaRows
import Derived.Test.YtnhedcaphncliaaCz5
set_option linter.unusedVariables false
noncomputable section
namespace Go.Proofs.Ytnhedcaphncliaa.W
open Go Go.Cx Go.RowKit Go.ChangeShapes Go.WideShapes

/-- type 47: moonpool/api.Slug -/
structure Slug where
  Weight : Int
  Volume : Int

/-- type 52: moonpool/api.Seg -/
structure Seg where
  Long : Int
  Rise : Int
  Area : Int
  Gap : Int

/-- type 72: moonpool/api.Knot -/
structure Knot where
  At : Int
  V : Int

/-- type 24: moonpool/api.Hole -/
structure Hole where
  Segs : List Seg

/-- type 32: moonpool/api.Line -/
structure Line where
  Knots : List Knot

/-- type 42: moonpool/api.Range -/
structure Range where
  Lo : Int
  Hi : Int

/-- type 54: moonpool/api.Mud -/
structure Mud where
  Yield : Int
  Visc : Int

/-- type 62: moonpool/api.Gas -/
structure Gas where
  K : Int
  Power : Int

/-- type 96: moonpool/fluid.part -/
structure Part where
  seg : Seg
  low : Int
  high : Int

/-- type 113: moonpool/whole.Wide -/
structure Wide where
  Hi : Int
  Lo : Int

/-- type 122: moonpool/earth.piece -/
structure Piece where
  ends : Knot × Knot

def T : Nat → Type
  | 2 => Int
  | 47 => Slug
  | 52 => Seg
  | 72 => Knot
  | _ => Unit

def okT (τ : Nat) : Bool := memN τ [2, 47, 52, 72]
def encT : (τ : Nat) → T τ → List (AV T)
  | 2, (x : Int) => [.sym .i64 x]
  | 47, (x : Slug) => [.sym .i64 x.Weight, .sym .i64 x.Volume]
  | 52, (x : Seg) => [.sym .i64 x.Long, .sym .i64 x.Rise, .sym .i64 x.Area, .sym .i64 x.Gap]
  | 72, (x : Knot) => [.sym .i64 x.At, .sym .i64 x.V]
  | _, _ => []

def decT : (τ : Nat) → ((σ : Nat) → AV T → Option (List (T σ))) → List (AV T) → Option (T τ)
  | 2, fz, [c0] => ((decI .i64 c0).bind fun x0 => some (x0 : Int) : Option Int)
  | 47, fz, [c0, c1] => ((decI .i64 c0).bind fun x0 => (decI .i64 c1).bind fun x1 => some (⟨x0, x1⟩ : Slug) : Option Slug)
  | 52, fz, [c0, c1, c2, c3] => ((decI .i64 c0).bind fun x0 => (decI .i64 c1).bind fun x1 => (decI .i64 c2).bind fun x2 => (decI .i64 c3).bind fun x3 => some (⟨x0, x1, x2, x3⟩ : Seg) : Option Seg)
  | 72, fz, [c0, c1] => ((decI .i64 c0).bind fun x0 => (decI .i64 c1).bind fun x1 => some (⟨x0, x1⟩ : Knot) : Option Knot)
  | _, _, _ => none

def dT : (τ : Nat) → T τ
  | 2 => (0 : Int)
  | 47 => (⟨0, 0⟩ : Slug)
  | 52 => (⟨0, 0, 0, 0⟩ : Seg)
  | 72 => (⟨0, 0⟩ : Knot)
  | n => by
    unfold T
    split <;> first | exact () | exact (0 : Int) | exact (⟨0, 0, 0, 0⟩ : Seg) | exact (⟨0, 0⟩ : Knot) | exact (⟨0, 0⟩ : Slug)
def E : Enc T := ⟨okT, encT, dT, fun t => bif Try.prog.eqGuardType Try.prog.depth t then false else bif Try.prog.stoodInHeld t then false else true, decT⟩
theorem ok_cases {τ : Nat} (h : E.ok τ = true) : τ = 2 ∨ τ = 47 ∨ τ = 52 ∨ τ = 72 := by
  have h := memN_iff.1 (show memN τ [2, 47, 52, 72] = true from h)
  simpa only [List.mem_cons, List.mem_nil_iff, or_false] using h
set_option maxHeartbeats 4000000 in
theorem decOk : E.DecOk Try.prog := by
  intro τ fz cs x h hd
  rcases ok_cases h with rfl | rfl | rfl | rfl
  · match cs, hd with
    | [c0], hd =>
      have hd : ((decI .i64 c0).bind fun x0 => some (x0 : Int)) = some x := hd
      obtain ⟨x0, h0, hd⟩ := Option.bind_eq_some_iff.1 hd
      cases hd
      exact ⟨decI_to h0, trivial⟩
  · match cs, hd with
    | [c0, c1], hd =>
      have hd : ((decI .i64 c0).bind fun x0 => (decI .i64 c1).bind fun x1 => some (⟨x0, x1⟩ : Slug)) = some x := hd
      obtain ⟨x0, h0, hd⟩ := Option.bind_eq_some_iff.1 hd
      obtain ⟨x1, h1, hd⟩ := Option.bind_eq_some_iff.1 hd
      cases hd
      exact ⟨decI_to h0, decI_to h1, trivial⟩
  · match cs, hd with
    | [c0, c1, c2, c3], hd =>
      have hd : ((decI .i64 c0).bind fun x0 => (decI .i64 c1).bind fun x1 => (decI .i64 c2).bind fun x2 => (decI .i64 c3).bind fun x3 => some (⟨x0, x1, x2, x3⟩ : Seg)) = some x := hd
      obtain ⟨x0, h0, hd⟩ := Option.bind_eq_some_iff.1 hd
      obtain ⟨x1, h1, hd⟩ := Option.bind_eq_some_iff.1 hd
      obtain ⟨x2, h2, hd⟩ := Option.bind_eq_some_iff.1 hd
      obtain ⟨x3, h3, hd⟩ := Option.bind_eq_some_iff.1 hd
      cases hd
      exact ⟨decI_to h0, decI_to h1, decI_to h2, decI_to h3, trivial⟩
  · match cs, hd with
    | [c0, c1], hd =>
      have hd : ((decI .i64 c0).bind fun x0 => (decI .i64 c1).bind fun x1 => some (⟨x0, x1⟩ : Knot)) = some x := hd
      obtain ⟨x0, h0, hd⟩ := Option.bind_eq_some_iff.1 hd
      obtain ⟨x1, h1, hd⟩ := Option.bind_eq_some_iff.1 hd
      cases hd
      exact ⟨decI_to h0, decI_to h1, trivial⟩
set_option maxRecDepth 100000 in
theorem good : E.Good Try.prog := by
  refine ⟨fun τ h => ?_, fun τ h => ?_, fun τ h => ?_, fun t h => ?_, decOk⟩
  · rcases ok_cases h with rfl | rfl | rfl | rfl
    · intro x; exact (show 1 = Try.prog.cellsOf 2 by kernel_rfl)
    · intro x; exact (show 2 = Try.prog.cellsOf 47 by kernel_rfl)
    · intro x; exact (show 4 = Try.prog.cellsOf 52 by kernel_rfl)
    · intro x; exact (show 2 = Try.prog.cellsOf 72 by kernel_rfl)
  · rcases ok_cases h with rfl | rfl | rfl | rfl
    · exact (Nat.lt_of_lt_of_eq (by decide : 0 < 1) (show 1 = Try.prog.cellsOf 2 by kernel_rfl))
    · exact (Nat.lt_of_lt_of_eq (by decide : 0 < 2) (show 2 = Try.prog.cellsOf 47 by kernel_rfl))
    · exact (Nat.lt_of_lt_of_eq (by decide : 0 < 4) (show 4 = Try.prog.cellsOf 52 by kernel_rfl))
    · exact (Nat.lt_of_lt_of_eq (by decide : 0 < 2) (show 2 = Try.prog.cellsOf 72 by kernel_rfl))
  · rcases ok_cases h with rfl | rfl | rfl | rfl
    · intro x; rfl
    · intro x; rfl
    · intro x; rfl
    · intro x; rfl
  · have h : (bif Try.prog.eqGuardType Try.prog.depth t then false else bif Try.prog.stoodInHeld t then false else true) = true := h
    cases h1 : Try.prog.eqGuardType Try.prog.depth t with
    | true => rw [h1] at h; cases h
    | false =>
      cases h2 : Try.prog.stoodInHeld t with
      | true => rw [h1, h2] at h; cases h
      | false => exact ⟨rfl, rfl⟩
instance goodP : Go.Cx.GoodP Try.prog E := ⟨good⟩
theorem own : ownKnob Try.prog.godebug = none := by kernel_rfl
theorem mixes : Try.prog.follows .mixedOrders = true := by kernel_rfl
theorem named : Try.prog.funcs.all (fun fn => !(fn.name == "runtime.NumGoroutine")) = true := by kernel_rfl
theorem names : NamesOk Try.prog := fun f fn h => by
  have := Array.all_eq_true_iff_forall_mem.1 named fn (Array.mem_of_getElem? h)
  simpa using this
set_option maxRecDepth 100000
def Seg.ok (x : Seg) : Prop := InK .i64 (x.Long) ∧ InK .i64 (x.Rise) ∧ InK .i64 (x.Area) ∧ InK .i64 (x.Gap) ∧ True
def Seg.cs (x : Seg) : List (AV T) := [.sym .i64 x.Long, .sym .i64 x.Rise, .sym .i64 x.Area, .sym .i64 x.Gap]
def Seg.av (x : Seg) : AV T := .agg x.cs
theorem readC52 {w : World} : RdT Try.prog E w 52 Seg.ok Seg.cs :=
  (rdT_struct Try.underlying52 (rdF_cons (off := 0) (off' := 1) rfl (show 0 + Try.prog.cellsOf 2 = 1 by kernel_rfl) (rdT_int Try.underlying2) (rdF_cons (off := 1) (off' := 2) rfl (show 1 + Try.prog.cellsOf 2 = 2 by kernel_rfl) (rdT_int Try.underlying2) (rdF_cons (off := 2) (off' := 3) rfl (show 2 + Try.prog.cellsOf 2 = 3 by kernel_rfl) (rdT_int Try.underlying2) (rdF_cons (off := 3) (off' := 4) rfl (show 3 + Try.prog.cellsOf 2 = 4 by kernel_rfl) (rdT_int Try.underlying2) (rdF_nil (Nat.le_of_eq (show Try.prog.cellsOf 52 = 4 by kernel_rfl)))))))).map (fun p => (⟨p.1, p.2.1, p.2.2.1, p.2.2.2.1⟩ : Seg)) (fun p h => h) (fun p => rfl)
theorem read52 {w : World} : RdT Try.prog E w 52 (fun x : Seg => Seg.ok x) (E.enc 52) := readC52
def Hole.ok (x : Hole) : Prop := ((∀ y ∈ x.Segs, Seg.ok y) ∧ (x.Segs).length ≤ maxLen) ∧ True
def Hole.cs (x : Hole) : List (AV T) := [.sl 52 x.Segs false]
def Hole.av (x : Hole) : AV T := .agg x.cs
theorem readC24 {w : World} : RdT Try.prog E w 24 Hole.ok Hole.cs :=
  (rdT_struct Try.underlying24 (rdF_cons (off := 0) (off' := 1) rfl (show 0 + Try.prog.cellsOf 22 = 1 by kernel_rfl) (rdT_slice good Try.underlying22 rfl read52) (rdF_nil (Nat.le_of_eq (show Try.prog.cellsOf 24 = 1 by kernel_rfl))))).map (fun p => (⟨p.1⟩ : Hole)) (fun p h => h) (fun p => rfl)
def Knot.ok (x : Knot) : Prop := InK .i64 (x.At) ∧ InK .i64 (x.V) ∧ True
def Knot.cs (x : Knot) : List (AV T) := [.sym .i64 x.At, .sym .i64 x.V]
def Knot.av (x : Knot) : AV T := .agg x.cs
theorem readC72 {w : World} : RdT Try.prog E w 72 Knot.ok Knot.cs :=
  (rdT_struct Try.underlying72 (rdF_cons (off := 0) (off' := 1) rfl (show 0 + Try.prog.cellsOf 2 = 1 by kernel_rfl) (rdT_int Try.underlying2) (rdF_cons (off := 1) (off' := 2) rfl (show 1 + Try.prog.cellsOf 2 = 2 by kernel_rfl) (rdT_int Try.underlying2) (rdF_nil (Nat.le_of_eq (show Try.prog.cellsOf 72 = 2 by kernel_rfl)))))).map (fun p => (⟨p.1, p.2.1⟩ : Knot)) (fun p h => h) (fun p => rfl)
theorem read72 {w : World} : RdT Try.prog E w 72 (fun x : Knot => Knot.ok x) (E.enc 72) := readC72
def Line.ok (x : Line) : Prop := ((∀ y ∈ x.Knots, Knot.ok y) ∧ (x.Knots).length ≤ maxLen) ∧ True
def Line.cs (x : Line) : List (AV T) := [.sl 72 x.Knots false]
def Line.av (x : Line) : AV T := .agg x.cs
theorem readC32 {w : World} : RdT Try.prog E w 32 Line.ok Line.cs :=
  (rdT_struct Try.underlying32 (rdF_cons (off := 0) (off' := 1) rfl (show 0 + Try.prog.cellsOf 30 = 1 by kernel_rfl) (rdT_slice good Try.underlying30 rfl read72) (rdF_nil (Nat.le_of_eq (show Try.prog.cellsOf 32 = 1 by kernel_rfl))))).map (fun p => (⟨p.1⟩ : Line)) (fun p h => h) (fun p => rfl)
def Range.ok (x : Range) : Prop := InK .i64 (x.Lo) ∧ InK .i64 (x.Hi) ∧ True
def Range.cs (x : Range) : List (AV T) := [.sym .i64 x.Lo, .sym .i64 x.Hi]
def Range.av (x : Range) : AV T := .agg x.cs
theorem readC42 {w : World} : RdT Try.prog E w 42 Range.ok Range.cs :=
  (rdT_struct Try.underlying42 (rdF_cons (off := 0) (off' := 1) rfl (show 0 + Try.prog.cellsOf 2 = 1 by kernel_rfl) (rdT_int Try.underlying2) (rdF_cons (off := 1) (off' := 2) rfl (show 1 + Try.prog.cellsOf 2 = 2 by kernel_rfl) (rdT_int Try.underlying2) (rdF_nil (Nat.le_of_eq (show Try.prog.cellsOf 42 = 2 by kernel_rfl)))))).map (fun p => (⟨p.1, p.2.1⟩ : Range)) (fun p h => h) (fun p => rfl)
def Slug.ok (x : Slug) : Prop := InK .i64 (x.Weight) ∧ InK .i64 (x.Volume) ∧ True
def Slug.cs (x : Slug) : List (AV T) := [.sym .i64 x.Weight, .sym .i64 x.Volume]
def Slug.av (x : Slug) : AV T := .agg x.cs
theorem readC47 {w : World} : RdT Try.prog E w 47 Slug.ok Slug.cs :=
  (rdT_struct Try.underlying47 (rdF_cons (off := 0) (off' := 1) rfl (show 0 + Try.prog.cellsOf 2 = 1 by kernel_rfl) (rdT_int Try.underlying2) (rdF_cons (off := 1) (off' := 2) rfl (show 1 + Try.prog.cellsOf 2 = 2 by kernel_rfl) (rdT_int Try.underlying2) (rdF_nil (Nat.le_of_eq (show Try.prog.cellsOf 47 = 2 by kernel_rfl)))))).map (fun p => (⟨p.1, p.2.1⟩ : Slug)) (fun p h => h) (fun p => rfl)
def Mud.ok (x : Mud) : Prop := InK .i64 (x.Yield) ∧ InK .i64 (x.Visc) ∧ True
def Mud.cs (x : Mud) : List (AV T) := [.sym .i64 x.Yield, .sym .i64 x.Visc]
def Mud.av (x : Mud) : AV T := .agg x.cs
theorem readC54 {w : World} : RdT Try.prog E w 54 Mud.ok Mud.cs :=
  (rdT_struct Try.underlying54 (rdF_cons (off := 0) (off' := 1) rfl (show 0 + Try.prog.cellsOf 2 = 1 by kernel_rfl) (rdT_int Try.underlying2) (rdF_cons (off := 1) (off' := 2) rfl (show 1 + Try.prog.cellsOf 2 = 2 by kernel_rfl) (rdT_int Try.underlying2) (rdF_nil (Nat.le_of_eq (show Try.prog.cellsOf 54 = 2 by kernel_rfl)))))).map (fun p => (⟨p.1, p.2.1⟩ : Mud)) (fun p h => h) (fun p => rfl)
def Gas.ok (x : Gas) : Prop := InK .i64 (x.K) ∧ InK .i64 (x.Power) ∧ True
def Gas.cs (x : Gas) : List (AV T) := [.sym .i64 x.K, .sym .i64 x.Power]
def Gas.av (x : Gas) : AV T := .agg x.cs
theorem readC62 {w : World} : RdT Try.prog E w 62 Gas.ok Gas.cs :=
  (rdT_struct Try.underlying62 (rdF_cons (off := 0) (off' := 1) rfl (show 0 + Try.prog.cellsOf 2 = 1 by kernel_rfl) (rdT_int Try.underlying2) (rdF_cons (off := 1) (off' := 2) rfl (show 1 + Try.prog.cellsOf 2 = 2 by kernel_rfl) (rdT_int Try.underlying2) (rdF_nil (Nat.le_of_eq (show Try.prog.cellsOf 62 = 2 by kernel_rfl)))))).map (fun p => (⟨p.1, p.2.1⟩ : Gas)) (fun p h => h) (fun p => rfl)
def Part.ok (x : Part) : Prop := Seg.ok x.seg ∧ InK .i64 (x.low) ∧ InK .i64 (x.high) ∧ True
def Part.cs (x : Part) : List (AV T) := [.sym .i64 x.seg.Long, .sym .i64 x.seg.Rise, .sym .i64 x.seg.Area, .sym .i64 x.seg.Gap, .sym .i64 x.low, .sym .i64 x.high]
def Part.av (x : Part) : AV T := .agg x.cs
theorem readC96 {w : World} : RdT Try.prog E w 96 Part.ok Part.cs :=
  (rdT_struct Try.underlying96 (rdF_cons (off := 0) (off' := 4) rfl (show 0 + Try.prog.cellsOf 52 = 4 by kernel_rfl) readC52 (rdF_cons (off := 4) (off' := 5) rfl (show 4 + Try.prog.cellsOf 2 = 5 by kernel_rfl) (rdT_int Try.underlying2) (rdF_cons (off := 5) (off' := 6) rfl (show 5 + Try.prog.cellsOf 2 = 6 by kernel_rfl) (rdT_int Try.underlying2) (rdF_nil (Nat.le_of_eq (show Try.prog.cellsOf 96 = 6 by kernel_rfl))))))).map (fun p => (⟨p.1, p.2.1, p.2.2.1⟩ : Part)) (fun p h => h) (fun p => rfl)
def Wide.ok (x : Wide) : Prop := InK .u64 (x.Hi) ∧ InK .u64 (x.Lo) ∧ True
def Wide.cs (x : Wide) : List (AV T) := [.sym .u64 x.Hi, .sym .u64 x.Lo]
def Wide.av (x : Wide) : AV T := .agg x.cs
theorem readC113 {w : World} : RdT Try.prog E w 113 Wide.ok Wide.cs :=
  (rdT_struct Try.underlying113 (rdF_cons (off := 0) (off' := 1) rfl (show 0 + Try.prog.cellsOf 111 = 1 by kernel_rfl) (rdT_int Try.underlying111) (rdF_cons (off := 1) (off' := 2) rfl (show 1 + Try.prog.cellsOf 111 = 2 by kernel_rfl) (rdT_int Try.underlying111) (rdF_nil (Nat.le_of_eq (show Try.prog.cellsOf 113 = 2 by kernel_rfl)))))).map (fun p => (⟨p.1, p.2.1⟩ : Wide)) (fun p h => h) (fun p => rfl)
theorem read47 {w : World} : RdT Try.prog E w 47 (fun x : Slug => Slug.ok x) (E.enc 47) := readC47
theorem read2 {w : World} : RdT Try.prog E w 2 (fun x : Int => InK .i64 (x)) (E.enc 2) := (rdT_int Try.underlying2)
theorem laid : laidOutB Try.prog = true := by kernel_rfl
theorem mapsR : mapsRowed Try.prog = true := by kernel_rfl
theorem fullS : ∀ t e, t < Try.prog.types.size → Try.prog.underlying t = some (.slice e) → 0 < Try.prog.cellsOf e := slices_full_of Try.prog (by kernel_rfl)
theorem kids : Kids Try.prog (· < Try.prog.types.size) := kids_rows laid mapsR
end Go.Proofs.Ytnhedcaphncliaa.W
