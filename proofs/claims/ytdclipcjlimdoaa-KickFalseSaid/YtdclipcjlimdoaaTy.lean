/- The types of the program as Lean has them, and the numbers of its functions. -/
import Derived.Test.YtdclipcjlimdoaaRows
import Derived.Test.YtdclipcjlimdoaaCz5
set_option linter.unusedVariables false
noncomputable section
namespace Go.Proofs.Ytdclipcjlimdoaa.W
open Go Go.Cx Go.RowKit Go.ChangeShapes Go.WideShapes

/-- type 23: moonpool/api.Kick -/
structure Kick where
  Rate : Int
  Grow : Int

/-- type 25: moonpool/api.Range -/
structure Range where
  Lo : Int
  Hi : Int

/-- type 27: moonpool/api.Kicks -/
structure Kicks where
  Rate : Range
  Grow : Range

/-- type 29: moonpool/api.Sensor -/
structure Sensor where
  Channel : Int
  Period : Int
  Delay : Int
  Noise : Int
  Step : Int
  Lost : Int
  Limit : Int
  Hold : Int

/-- type 60: moonpool/api.Sample -/
structure Sample where
  Sensor : Int
  Tick : Int
  Value : Int

/-- type 53: moonpool/api.Alarm -/
structure Alarm where
  Sensor : Int
  Tick : Int

/-- type 79: moonpool/api.Shut -/
structure Shut where
  Pipe : Range
  Casing : Range
  Gain : Range
  Weight : Int
  Depth : Int
  Area : Int

/-- type 81: moonpool/api.Ingress -/
structure Ingress where
  Pore : Range
  Height : Range
  Weight : Range
  Kind : Int

/-- type 99: moonpool/kick.influx -/
structure Influx where
  Rate : Int
  Grow : Int

/-- type 105: moonpool/moonpoolkit.Ring -/
structure Ring where
  l : List Int
  at' : Int

/-- type 119: moonpool/kick.latest -/
structure Latest where
  ticks : Int
  phase : Int
  first : Int

def T : Nat → Type
  | 2 => Int
  | 3 => Int
  | 23 => Kick
  | 25 => Range
  | 27 => Kicks
  | 29 => Sensor
  | 30 => List Sensor
  | 40 => List Sample
  | 60 => Sample
  | _ => Unit

def okT (τ : Nat) : Bool := memN τ [2, 3, 23, 25, 27, 29, 30, 40, 60]
def encT : (τ : Nat) → T τ → List (AV T)
  | 2, (x : Int) => [.sym .i64 x]
  | 3, (x : Int) => [.sym .i64 x]
  | 23, (x : Kick) => [.sym .i64 x.Rate, .sym .i64 x.Grow]
  | 25, (x : Range) => [.sym .i64 x.Lo, .sym .i64 x.Hi]
  | 27, (x : Kicks) => [.sym .i64 x.Rate.Lo, .sym .i64 x.Rate.Hi, .sym .i64 x.Grow.Lo, .sym .i64 x.Grow.Hi]
  | 29, (x : Sensor) => [.sym .i64 x.Channel, .sym .i64 x.Period, .sym .i64 x.Delay, .sym .i64 x.Noise, .sym .i64 x.Step, .sym .i64 x.Lost, .sym .i64 x.Limit, .sym .i64 x.Hold]
  | 30, (x : List Sensor) => [.sl 29 x false]
  | 40, (x : List Sample) => [.sl 60 x false]
  | 60, (x : Sample) => [.sym .i64 x.Sensor, .sym .i64 x.Tick, .sym .i64 x.Value]
  | _, _ => []

def decT : (τ : Nat) → ((σ : Nat) → AV T → Option (List (T σ))) → List (AV T) → Option (T τ)
  | 2, fz, [c0] => ((decI .i64 c0).bind fun x0 => some (x0 : Int) : Option Int)
  | 3, fz, [c0] => ((decI .i64 c0).bind fun x0 => some (x0 : Int) : Option Int)
  | 23, fz, [c0, c1] => ((decI .i64 c0).bind fun x0 => (decI .i64 c1).bind fun x1 => some (⟨x0, x1⟩ : Kick) : Option Kick)
  | 25, fz, [c0, c1] => ((decI .i64 c0).bind fun x0 => (decI .i64 c1).bind fun x1 => some (⟨x0, x1⟩ : Range) : Option Range)
  | 27, fz, [c0, c1, c2, c3] => ((decI .i64 c0).bind fun x0 => (decI .i64 c1).bind fun x1 => (decI .i64 c2).bind fun x2 => (decI .i64 c3).bind fun x3 => some (⟨(⟨x0, x1⟩ : Range), (⟨x2, x3⟩ : Range)⟩ : Kicks) : Option Kicks)
  | 29, fz, [c0, c1, c2, c3, c4, c5, c6, c7] => ((decI .i64 c0).bind fun x0 => (decI .i64 c1).bind fun x1 => (decI .i64 c2).bind fun x2 => (decI .i64 c3).bind fun x3 => (decI .i64 c4).bind fun x4 => (decI .i64 c5).bind fun x5 => (decI .i64 c6).bind fun x6 => (decI .i64 c7).bind fun x7 => some (⟨x0, x1, x2, x3, x4, x5, x6, x7⟩ : Sensor) : Option Sensor)
  | 30, fz, [c0] => ((fz 29 c0).bind fun x0 => some (x0 : List Sensor) : Option (List Sensor))
  | 40, fz, [c0] => ((fz 60 c0).bind fun x0 => some (x0 : List Sample) : Option (List Sample))
  | 60, fz, [c0, c1, c2] => ((decI .i64 c0).bind fun x0 => (decI .i64 c1).bind fun x1 => (decI .i64 c2).bind fun x2 => some (⟨x0, x1, x2⟩ : Sample) : Option Sample)
  | _, _, _ => none

def dT : (τ : Nat) → T τ
  | 2 => (0 : Int)
  | 3 => (0 : Int)
  | 23 => (⟨0, 0⟩ : Kick)
  | 25 => (⟨0, 0⟩ : Range)
  | 27 => (⟨⟨0, 0⟩, ⟨0, 0⟩⟩ : Kicks)
  | 29 => (⟨0, 0, 0, 0, 0, 0, 0, 0⟩ : Sensor)
  | 30 => ([] : List Sensor)
  | 40 => ([] : List Sample)
  | 60 => (⟨0, 0, 0⟩ : Sample)
  | n => by
    unfold T
    split <;> first | exact () | exact (0 : Int) | exact ([] : List Sample) | exact ([] : List Sensor) | exact (⟨0, 0, 0, 0, 0, 0, 0, 0⟩ : Sensor) | exact (⟨0, 0, 0⟩ : Sample) | exact (⟨0, 0⟩ : Kick) | exact (⟨0, 0⟩ : Range) | exact (⟨⟨0, 0⟩, ⟨0, 0⟩⟩ : Kicks)
def E : Enc T := ⟨okT, encT, dT, fun t => bif Try.prog.eqGuardType Try.prog.depth t then false else bif Try.prog.stoodInHeld t then false else true, decT⟩
theorem ok_cases {τ : Nat} (h : E.ok τ = true) : τ = 2 ∨ τ = 3 ∨ τ = 23 ∨ τ = 25 ∨ τ = 27 ∨ τ = 29 ∨ τ = 30 ∨ τ = 40 ∨ τ = 60 := by
  have h := memN_iff.1 (show memN τ [2, 3, 23, 25, 27, 29, 30, 40, 60] = true from h)
  simpa only [List.mem_cons, List.mem_nil_iff, or_false] using h
set_option maxHeartbeats 4000000 in
theorem decOk : E.DecOk Try.prog := by
  intro τ fz cs x h hd
  rcases ok_cases h with rfl | rfl | rfl | rfl | rfl | rfl | rfl | rfl | rfl
  · match cs, hd with
    | [c0], hd =>
      have hd : ((decI .i64 c0).bind fun x0 => some (x0 : Int)) = some x := hd
      obtain ⟨x0, h0, hd⟩ := Option.bind_eq_some_iff.1 hd
      cases hd
      exact ⟨decI_to h0, trivial⟩
  · match cs, hd with
    | [c0], hd =>
      have hd : ((decI .i64 c0).bind fun x0 => some (x0 : Int)) = some x := hd
      obtain ⟨x0, h0, hd⟩ := Option.bind_eq_some_iff.1 hd
      cases hd
      exact ⟨decI_to h0, trivial⟩
  · match cs, hd with
    | [c0, c1], hd =>
      have hd : ((decI .i64 c0).bind fun x0 => (decI .i64 c1).bind fun x1 => some (⟨x0, x1⟩ : Kick)) = some x := hd
      obtain ⟨x0, h0, hd⟩ := Option.bind_eq_some_iff.1 hd
      obtain ⟨x1, h1, hd⟩ := Option.bind_eq_some_iff.1 hd
      cases hd
      exact ⟨decI_to h0, decI_to h1, trivial⟩
  · match cs, hd with
    | [c0, c1], hd =>
      have hd : ((decI .i64 c0).bind fun x0 => (decI .i64 c1).bind fun x1 => some (⟨x0, x1⟩ : Range)) = some x := hd
      obtain ⟨x0, h0, hd⟩ := Option.bind_eq_some_iff.1 hd
      obtain ⟨x1, h1, hd⟩ := Option.bind_eq_some_iff.1 hd
      cases hd
      exact ⟨decI_to h0, decI_to h1, trivial⟩
  · match cs, hd with
    | [c0, c1, c2, c3], hd =>
      have hd : ((decI .i64 c0).bind fun x0 => (decI .i64 c1).bind fun x1 => (decI .i64 c2).bind fun x2 => (decI .i64 c3).bind fun x3 => some (⟨(⟨x0, x1⟩ : Range), (⟨x2, x3⟩ : Range)⟩ : Kicks)) = some x := hd
      obtain ⟨x0, h0, hd⟩ := Option.bind_eq_some_iff.1 hd
      obtain ⟨x1, h1, hd⟩ := Option.bind_eq_some_iff.1 hd
      obtain ⟨x2, h2, hd⟩ := Option.bind_eq_some_iff.1 hd
      obtain ⟨x3, h3, hd⟩ := Option.bind_eq_some_iff.1 hd
      cases hd
      exact ⟨decI_to h0, decI_to h1, decI_to h2, decI_to h3, trivial⟩
  · match cs, hd with
    | [c0, c1, c2, c3, c4, c5, c6, c7], hd =>
      have hd : ((decI .i64 c0).bind fun x0 => (decI .i64 c1).bind fun x1 => (decI .i64 c2).bind fun x2 => (decI .i64 c3).bind fun x3 => (decI .i64 c4).bind fun x4 => (decI .i64 c5).bind fun x5 => (decI .i64 c6).bind fun x6 => (decI .i64 c7).bind fun x7 => some (⟨x0, x1, x2, x3, x4, x5, x6, x7⟩ : Sensor)) = some x := hd
      obtain ⟨x0, h0, hd⟩ := Option.bind_eq_some_iff.1 hd
      obtain ⟨x1, h1, hd⟩ := Option.bind_eq_some_iff.1 hd
      obtain ⟨x2, h2, hd⟩ := Option.bind_eq_some_iff.1 hd
      obtain ⟨x3, h3, hd⟩ := Option.bind_eq_some_iff.1 hd
      obtain ⟨x4, h4, hd⟩ := Option.bind_eq_some_iff.1 hd
      obtain ⟨x5, h5, hd⟩ := Option.bind_eq_some_iff.1 hd
      obtain ⟨x6, h6, hd⟩ := Option.bind_eq_some_iff.1 hd
      obtain ⟨x7, h7, hd⟩ := Option.bind_eq_some_iff.1 hd
      cases hd
      exact ⟨decI_to h0, decI_to h1, decI_to h2, decI_to h3, decI_to h4, decI_to h5, decI_to h6, decI_to h7, trivial⟩
  · match cs, hd with
    | [c0], hd =>
      have hd : ((fz 29 c0).bind fun x0 => some (x0 : List Sensor)) = some x := hd
      obtain ⟨x0, h0, hd⟩ := Option.bind_eq_some_iff.1 hd
      cases hd
      exact ⟨fz_to h0, trivial⟩
  · match cs, hd with
    | [c0], hd =>
      have hd : ((fz 60 c0).bind fun x0 => some (x0 : List Sample)) = some x := hd
      obtain ⟨x0, h0, hd⟩ := Option.bind_eq_some_iff.1 hd
      cases hd
      exact ⟨fz_to h0, trivial⟩
  · match cs, hd with
    | [c0, c1, c2], hd =>
      have hd : ((decI .i64 c0).bind fun x0 => (decI .i64 c1).bind fun x1 => (decI .i64 c2).bind fun x2 => some (⟨x0, x1, x2⟩ : Sample)) = some x := hd
      obtain ⟨x0, h0, hd⟩ := Option.bind_eq_some_iff.1 hd
      obtain ⟨x1, h1, hd⟩ := Option.bind_eq_some_iff.1 hd
      obtain ⟨x2, h2, hd⟩ := Option.bind_eq_some_iff.1 hd
      cases hd
      exact ⟨decI_to h0, decI_to h1, decI_to h2, trivial⟩
set_option maxRecDepth 100000 in
theorem good : E.Good Try.prog := by
  refine ⟨fun τ h => ?_, fun τ h => ?_, fun τ h => ?_, fun t h => ?_, decOk⟩
  · rcases ok_cases h with rfl | rfl | rfl | rfl | rfl | rfl | rfl | rfl | rfl
    · intro x; exact (show 1 = Try.prog.cellsOf 2 by kernel_rfl)
    · intro x; exact (show 1 = Try.prog.cellsOf 3 by kernel_rfl)
    · intro x; exact (show 2 = Try.prog.cellsOf 23 by kernel_rfl)
    · intro x; exact (show 2 = Try.prog.cellsOf 25 by kernel_rfl)
    · intro x; exact (show 4 = Try.prog.cellsOf 27 by kernel_rfl)
    · intro x; exact (show 8 = Try.prog.cellsOf 29 by kernel_rfl)
    · intro x; exact (show 1 = Try.prog.cellsOf 30 by kernel_rfl)
    · intro x; exact (show 1 = Try.prog.cellsOf 40 by kernel_rfl)
    · intro x; exact (show 3 = Try.prog.cellsOf 60 by kernel_rfl)
  · rcases ok_cases h with rfl | rfl | rfl | rfl | rfl | rfl | rfl | rfl | rfl
    · exact (Nat.lt_of_lt_of_eq (by decide : 0 < 1) (show 1 = Try.prog.cellsOf 2 by kernel_rfl))
    · exact (Nat.lt_of_lt_of_eq (by decide : 0 < 1) (show 1 = Try.prog.cellsOf 3 by kernel_rfl))
    · exact (Nat.lt_of_lt_of_eq (by decide : 0 < 2) (show 2 = Try.prog.cellsOf 23 by kernel_rfl))
    · exact (Nat.lt_of_lt_of_eq (by decide : 0 < 2) (show 2 = Try.prog.cellsOf 25 by kernel_rfl))
    · exact (Nat.lt_of_lt_of_eq (by decide : 0 < 4) (show 4 = Try.prog.cellsOf 27 by kernel_rfl))
    · exact (Nat.lt_of_lt_of_eq (by decide : 0 < 8) (show 8 = Try.prog.cellsOf 29 by kernel_rfl))
    · exact (Nat.lt_of_lt_of_eq (by decide : 0 < 1) (show 1 = Try.prog.cellsOf 30 by kernel_rfl))
    · exact (Nat.lt_of_lt_of_eq (by decide : 0 < 1) (show 1 = Try.prog.cellsOf 40 by kernel_rfl))
    · exact (Nat.lt_of_lt_of_eq (by decide : 0 < 3) (show 3 = Try.prog.cellsOf 60 by kernel_rfl))
  · rcases ok_cases h with rfl | rfl | rfl | rfl | rfl | rfl | rfl | rfl | rfl
    · intro x; rfl
    · intro x; rfl
    · intro x; rfl
    · intro x; rfl
    · intro x; rfl
    · intro x; rfl
    · intro x; rfl
    · intro x; rfl
    · intro x; rfl
  · have h : (bif Try.prog.eqGuardType Try.prog.depth t then false else bif Try.prog.stoodInHeld t then false else true) = true := h
    cases h1 : Try.prog.eqGuardType Try.prog.depth t with
    | true => rw [h1] at h; cases h
    | false =>
      cases h2 : Try.prog.stoodInHeld t with
      | true => rw [h1, h2] at h; cases h
      | false => exact ⟨rfl, rfl⟩
instance goodP : Go.Cx.GoodP Try.prog E := ⟨good⟩
theorem own : ownKnob Try.prog.godebug = none := by kernel_rfl
theorem mixes : Try.prog.follows .mixedOrders = true := by kernel_rfl
theorem named : Try.prog.funcs.all (fun fn => !(fn.name == "runtime.NumGoroutine")) = true := by kernel_rfl
theorem names : NamesOk Try.prog := fun f fn h => by
  have := Array.all_eq_true_iff_forall_mem.1 named fn (Array.mem_of_getElem? h)
  simpa using this
set_option maxRecDepth 100000
def Kick.ok (x : Kick) : Prop := InK .i64 (x.Rate) ∧ InK .i64 (x.Grow) ∧ True
def Kick.cs (x : Kick) : List (AV T) := [.sym .i64 x.Rate, .sym .i64 x.Grow]
def Kick.av (x : Kick) : AV T := .agg x.cs
theorem readC23 {w : World} : RdT Try.prog E w 23 Kick.ok Kick.cs :=
  (rdT_struct Try.underlying23 (rdF_cons (off := 0) (off' := 1) rfl (show 0 + Try.prog.cellsOf 2 = 1 by kernel_rfl) (rdT_int Try.underlying2) (rdF_cons (off := 1) (off' := 2) rfl (show 1 + Try.prog.cellsOf 2 = 2 by kernel_rfl) (rdT_int Try.underlying2) (rdF_nil (Nat.le_of_eq (show Try.prog.cellsOf 23 = 2 by kernel_rfl)))))).map (fun p => (⟨p.1, p.2.1⟩ : Kick)) (fun p h => h) (fun p => rfl)
def Range.ok (x : Range) : Prop := InK .i64 (x.Lo) ∧ InK .i64 (x.Hi) ∧ True
def Range.cs (x : Range) : List (AV T) := [.sym .i64 x.Lo, .sym .i64 x.Hi]
def Range.av (x : Range) : AV T := .agg x.cs
theorem readC25 {w : World} : RdT Try.prog E w 25 Range.ok Range.cs :=
  (rdT_struct Try.underlying25 (rdF_cons (off := 0) (off' := 1) rfl (show 0 + Try.prog.cellsOf 2 = 1 by kernel_rfl) (rdT_int Try.underlying2) (rdF_cons (off := 1) (off' := 2) rfl (show 1 + Try.prog.cellsOf 2 = 2 by kernel_rfl) (rdT_int Try.underlying2) (rdF_nil (Nat.le_of_eq (show Try.prog.cellsOf 25 = 2 by kernel_rfl)))))).map (fun p => (⟨p.1, p.2.1⟩ : Range)) (fun p h => h) (fun p => rfl)
def Kicks.ok (x : Kicks) : Prop := Range.ok x.Rate ∧ Range.ok x.Grow ∧ True
def Kicks.cs (x : Kicks) : List (AV T) := [.sym .i64 x.Rate.Lo, .sym .i64 x.Rate.Hi, .sym .i64 x.Grow.Lo, .sym .i64 x.Grow.Hi]
def Kicks.av (x : Kicks) : AV T := .agg x.cs
theorem readC27 {w : World} : RdT Try.prog E w 27 Kicks.ok Kicks.cs :=
  (rdT_struct Try.underlying27 (rdF_cons (off := 0) (off' := 2) rfl (show 0 + Try.prog.cellsOf 25 = 2 by kernel_rfl) readC25 (rdF_cons (off := 2) (off' := 4) rfl (show 2 + Try.prog.cellsOf 25 = 4 by kernel_rfl) readC25 (rdF_nil (Nat.le_of_eq (show Try.prog.cellsOf 27 = 4 by kernel_rfl)))))).map (fun p => (⟨p.1, p.2.1⟩ : Kicks)) (fun p h => h) (fun p => rfl)
def Sensor.ok (x : Sensor) : Prop := InK .i64 (x.Channel) ∧ InK .i64 (x.Period) ∧ InK .i64 (x.Delay) ∧ InK .i64 (x.Noise) ∧ InK .i64 (x.Step) ∧ InK .i64 (x.Lost) ∧ InK .i64 (x.Limit) ∧ InK .i64 (x.Hold) ∧ True
def Sensor.cs (x : Sensor) : List (AV T) := [.sym .i64 x.Channel, .sym .i64 x.Period, .sym .i64 x.Delay, .sym .i64 x.Noise, .sym .i64 x.Step, .sym .i64 x.Lost, .sym .i64 x.Limit, .sym .i64 x.Hold]
def Sensor.av (x : Sensor) : AV T := .agg x.cs
theorem readC29 {w : World} : RdT Try.prog E w 29 Sensor.ok Sensor.cs :=
  (rdT_struct Try.underlying29 (rdF_cons (off := 0) (off' := 1) rfl (show 0 + Try.prog.cellsOf 3 = 1 by kernel_rfl) (rdT_int Try.underlying3) (rdF_cons (off := 1) (off' := 2) rfl (show 1 + Try.prog.cellsOf 2 = 2 by kernel_rfl) (rdT_int Try.underlying2) (rdF_cons (off := 2) (off' := 3) rfl (show 2 + Try.prog.cellsOf 2 = 3 by kernel_rfl) (rdT_int Try.underlying2) (rdF_cons (off := 3) (off' := 4) rfl (show 3 + Try.prog.cellsOf 2 = 4 by kernel_rfl) (rdT_int Try.underlying2) (rdF_cons (off := 4) (off' := 5) rfl (show 4 + Try.prog.cellsOf 2 = 5 by kernel_rfl) (rdT_int Try.underlying2) (rdF_cons (off := 5) (off' := 6) rfl (show 5 + Try.prog.cellsOf 2 = 6 by kernel_rfl) (rdT_int Try.underlying2) (rdF_cons (off := 6) (off' := 7) rfl (show 6 + Try.prog.cellsOf 2 = 7 by kernel_rfl) (rdT_int Try.underlying2) (rdF_cons (off := 7) (off' := 8) rfl (show 7 + Try.prog.cellsOf 2 = 8 by kernel_rfl) (rdT_int Try.underlying2) (rdF_nil (Nat.le_of_eq (show Try.prog.cellsOf 29 = 8 by kernel_rfl)))))))))))).map (fun p => (⟨p.1, p.2.1, p.2.2.1, p.2.2.2.1, p.2.2.2.2.1, p.2.2.2.2.2.1, p.2.2.2.2.2.2.1, p.2.2.2.2.2.2.2.1⟩ : Sensor)) (fun p h => h) (fun p => rfl)
def Alarm.ok (x : Alarm) : Prop := InK .i64 (x.Sensor) ∧ InK .i64 (x.Tick) ∧ True
def Alarm.cs (x : Alarm) : List (AV T) := [.sym .i64 x.Sensor, .sym .i64 x.Tick]
def Alarm.av (x : Alarm) : AV T := .agg x.cs
theorem readC53 {w : World} : RdT Try.prog E w 53 Alarm.ok Alarm.cs :=
  (rdT_struct Try.underlying53 (rdF_cons (off := 0) (off' := 1) rfl (show 0 + Try.prog.cellsOf 3 = 1 by kernel_rfl) (rdT_int Try.underlying3) (rdF_cons (off := 1) (off' := 2) rfl (show 1 + Try.prog.cellsOf 2 = 2 by kernel_rfl) (rdT_int Try.underlying2) (rdF_nil (Nat.le_of_eq (show Try.prog.cellsOf 53 = 2 by kernel_rfl)))))).map (fun p => (⟨p.1, p.2.1⟩ : Alarm)) (fun p h => h) (fun p => rfl)
def Sample.ok (x : Sample) : Prop := InK .i64 (x.Sensor) ∧ InK .i64 (x.Tick) ∧ InK .i64 (x.Value) ∧ True
def Sample.cs (x : Sample) : List (AV T) := [.sym .i64 x.Sensor, .sym .i64 x.Tick, .sym .i64 x.Value]
def Sample.av (x : Sample) : AV T := .agg x.cs
theorem readC60 {w : World} : RdT Try.prog E w 60 Sample.ok Sample.cs :=
  (rdT_struct Try.underlying60 (rdF_cons (off := 0) (off' := 1) rfl (show 0 + Try.prog.cellsOf 3 = 1 by kernel_rfl) (rdT_int Try.underlying3) (rdF_cons (off := 1) (off' := 2) rfl (show 1 + Try.prog.cellsOf 2 = 2 by kernel_rfl) (rdT_int Try.underlying2) (rdF_cons (off := 2) (off' := 3) rfl (show 2 + Try.prog.cellsOf 2 = 3 by kernel_rfl) (rdT_int Try.underlying2) (rdF_nil (Nat.le_of_eq (show Try.prog.cellsOf 60 = 3 by kernel_rfl))))))).map (fun p => (⟨p.1, p.2.1, p.2.2.1⟩ : Sample)) (fun p h => h) (fun p => rfl)
def Shut.ok (x : Shut) : Prop := Range.ok x.Pipe ∧ Range.ok x.Casing ∧ Range.ok x.Gain ∧ InK .i64 (x.Weight) ∧ InK .i64 (x.Depth) ∧ InK .i64 (x.Area) ∧ True
def Shut.cs (x : Shut) : List (AV T) := [.sym .i64 x.Pipe.Lo, .sym .i64 x.Pipe.Hi, .sym .i64 x.Casing.Lo, .sym .i64 x.Casing.Hi, .sym .i64 x.Gain.Lo, .sym .i64 x.Gain.Hi, .sym .i64 x.Weight, .sym .i64 x.Depth, .sym .i64 x.Area]
def Shut.av (x : Shut) : AV T := .agg x.cs
theorem readC79 {w : World} : RdT Try.prog E w 79 Shut.ok Shut.cs :=
  (rdT_struct Try.underlying79 (rdF_cons (off := 0) (off' := 2) rfl (show 0 + Try.prog.cellsOf 25 = 2 by kernel_rfl) readC25 (rdF_cons (off := 2) (off' := 4) rfl (show 2 + Try.prog.cellsOf 25 = 4 by kernel_rfl) readC25 (rdF_cons (off := 4) (off' := 6) rfl (show 4 + Try.prog.cellsOf 25 = 6 by kernel_rfl) readC25 (rdF_cons (off := 6) (off' := 7) rfl (show 6 + Try.prog.cellsOf 2 = 7 by kernel_rfl) (rdT_int Try.underlying2) (rdF_cons (off := 7) (off' := 8) rfl (show 7 + Try.prog.cellsOf 2 = 8 by kernel_rfl) (rdT_int Try.underlying2) (rdF_cons (off := 8) (off' := 9) rfl (show 8 + Try.prog.cellsOf 2 = 9 by kernel_rfl) (rdT_int Try.underlying2) (rdF_nil (Nat.le_of_eq (show Try.prog.cellsOf 79 = 9 by kernel_rfl)))))))))).map (fun p => (⟨p.1, p.2.1, p.2.2.1, p.2.2.2.1, p.2.2.2.2.1, p.2.2.2.2.2.1⟩ : Shut)) (fun p h => h) (fun p => rfl)
def Ingress.ok (x : Ingress) : Prop := Range.ok x.Pore ∧ Range.ok x.Height ∧ Range.ok x.Weight ∧ InK .i64 (x.Kind) ∧ True
def Ingress.cs (x : Ingress) : List (AV T) := [.sym .i64 x.Pore.Lo, .sym .i64 x.Pore.Hi, .sym .i64 x.Height.Lo, .sym .i64 x.Height.Hi, .sym .i64 x.Weight.Lo, .sym .i64 x.Weight.Hi, .sym .i64 x.Kind]
def Ingress.av (x : Ingress) : AV T := .agg x.cs
theorem readC81 {w : World} : RdT Try.prog E w 81 Ingress.ok Ingress.cs :=
  (rdT_struct Try.underlying81 (rdF_cons (off := 0) (off' := 2) rfl (show 0 + Try.prog.cellsOf 25 = 2 by kernel_rfl) readC25 (rdF_cons (off := 2) (off' := 4) rfl (show 2 + Try.prog.cellsOf 25 = 4 by kernel_rfl) readC25 (rdF_cons (off := 4) (off' := 6) rfl (show 4 + Try.prog.cellsOf 25 = 6 by kernel_rfl) readC25 (rdF_cons (off := 6) (off' := 7) rfl (show 6 + Try.prog.cellsOf 3 = 7 by kernel_rfl) (rdT_int Try.underlying3) (rdF_nil (Nat.le_of_eq (show Try.prog.cellsOf 81 = 7 by kernel_rfl)))))))).map (fun p => (⟨p.1, p.2.1, p.2.2.1, p.2.2.2.1⟩ : Ingress)) (fun p h => h) (fun p => rfl)
def Influx.ok (x : Influx) : Prop := InK .i64 (x.Rate) ∧ InK .i64 (x.Grow) ∧ True
def Influx.cs (x : Influx) : List (AV T) := [.sym .i64 x.Rate, .sym .i64 x.Grow]
def Influx.av (x : Influx) : AV T := .agg x.cs
theorem readC99 {w : World} : RdT Try.prog E w 99 Influx.ok Influx.cs :=
  (rdT_struct Try.underlying99 (rdF_cons (off := 0) (off' := 1) rfl (show 0 + Try.prog.cellsOf 2 = 1 by kernel_rfl) (rdT_int Try.underlying2) (rdF_cons (off := 1) (off' := 2) rfl (show 1 + Try.prog.cellsOf 2 = 2 by kernel_rfl) (rdT_int Try.underlying2) (rdF_nil (Nat.le_of_eq (show Try.prog.cellsOf 99 = 2 by kernel_rfl)))))).map (fun p => (⟨p.1, p.2.1⟩ : Influx)) (fun p h => h) (fun p => rfl)
theorem read3 {w : World} : RdT Try.prog E w 3 (fun x : Int => InK .i64 (x)) (E.enc 3) := (rdT_int Try.underlying3)
def Ring.ok (x : Ring) : Prop := ((∀ y ∈ x.l, InK .i64 (y)) ∧ (x.l).length ≤ maxLen) ∧ InK .i64 (x.at') ∧ True
def Ring.cs (x : Ring) : List (AV T) := [.sl 3 x.l false, .sym .i64 x.at']
def Ring.av (x : Ring) : AV T := .agg x.cs
theorem readC105 {w : World} : RdT Try.prog E w 105 Ring.ok Ring.cs :=
  (rdT_struct Try.underlying105 (rdF_cons (off := 0) (off' := 1) rfl (show 0 + Try.prog.cellsOf 41 = 1 by kernel_rfl) (rdT_slice good Try.underlying41 rfl read3) (rdF_cons (off := 1) (off' := 2) rfl (show 1 + Try.prog.cellsOf 3 = 2 by kernel_rfl) (rdT_int Try.underlying3) (rdF_nil (Nat.le_of_eq (show Try.prog.cellsOf 105 = 2 by kernel_rfl)))))).map (fun p => (⟨p.1, p.2.1⟩ : Ring)) (fun p h => h) (fun p => rfl)
def Latest.ok (x : Latest) : Prop := InK .i64 (x.ticks) ∧ InK .i64 (x.phase) ∧ InK .i64 (x.first) ∧ True
def Latest.cs (x : Latest) : List (AV T) := [.sym .i64 x.ticks, .sym .i64 x.phase, .sym .i64 x.first]
def Latest.av (x : Latest) : AV T := .agg x.cs
theorem readC119 {w : World} : RdT Try.prog E w 119 Latest.ok Latest.cs :=
  (rdT_struct Try.underlying119 (rdF_cons (off := 0) (off' := 1) rfl (show 0 + Try.prog.cellsOf 2 = 1 by kernel_rfl) (rdT_int Try.underlying2) (rdF_cons (off := 1) (off' := 2) rfl (show 1 + Try.prog.cellsOf 2 = 2 by kernel_rfl) (rdT_int Try.underlying2) (rdF_cons (off := 2) (off' := 3) rfl (show 2 + Try.prog.cellsOf 2 = 3 by kernel_rfl) (rdT_int Try.underlying2) (rdF_nil (Nat.le_of_eq (show Try.prog.cellsOf 119 = 3 by kernel_rfl))))))).map (fun p => (⟨p.1, p.2.1, p.2.2.1⟩ : Latest)) (fun p h => h) (fun p => rfl)
theorem read29 {w : World} : RdT Try.prog E w 29 (fun x : Sensor => Sensor.ok x) (E.enc 29) := readC29
theorem read60 {w : World} : RdT Try.prog E w 60 (fun x : Sample => Sample.ok x) (E.enc 60) := readC60
theorem read30 {w : World} : RdT Try.prog E w 30 (fun x : List Sensor => ((∀ y ∈ x, Sensor.ok y) ∧ (x).length ≤ maxLen)) (E.enc 30) := (rdT_slice good Try.underlying30 rfl read29)
theorem read40 {w : World} : RdT Try.prog E w 40 (fun x : List Sample => ((∀ y ∈ x, Sample.ok y) ∧ (x).length ≤ maxLen)) (E.enc 40) := (rdT_slice good Try.underlying40 rfl read60)
theorem read23 {w : World} : RdT Try.prog E w 23 (fun x : Kick => Kick.ok x) (E.enc 23) := readC23
theorem read27 {w : World} : RdT Try.prog E w 27 (fun x : Kicks => Kicks.ok x) (E.enc 27) := readC27
theorem read2 {w : World} : RdT Try.prog E w 2 (fun x : Int => InK .i64 (x)) (E.enc 2) := (rdT_int Try.underlying2)
theorem read25 {w : World} : RdT Try.prog E w 25 (fun x : Range => Range.ok x) (E.enc 25) := readC25
theorem laid : laidOutB Try.prog = true := by kernel_rfl
theorem mapsR : mapsRowed Try.prog = true := by kernel_rfl
theorem fullS : ∀ t e, t < Try.prog.types.size → Try.prog.underlying t = some (.slice e) → 0 < Try.prog.cellsOf e := slices_full_of Try.prog (by kernel_rfl)
theorem kids : Kids Try.prog (· < Try.prog.types.size) := kids_rows laid mapsR
end Go.Proofs.Ytdclipcjlimdoaa.W
