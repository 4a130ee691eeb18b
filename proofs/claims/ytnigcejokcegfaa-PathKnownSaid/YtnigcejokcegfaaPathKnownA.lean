/- PathKnown: what is known of single calls, by runs of their own. No condition. -/
import Derived.Test.YtnigcejokcegfaaRows
import Derived.Test.YtnigcejokcegfaaBxZ
noncomputable section
namespace Go.Proofs.Ytnigcejokcegfaa.pathKnown
open Go.ChangeShapes Go.WideShapes Go.ChangeAt Go.RowKit Go.Bx Go.Bx.Q

theorem own : ownKnob Try.prog.godebug = none := by kernel_rfl
theorem mixes : Try.prog.follows .mixedOrders = true := by kernel_rfl
theorem named : Try.prog.funcs.all (fun fn => !(fn.name == "runtime.NumGoroutine")) = true := by kernel_rfl
theorem names : NamesOk Try.prog := fun f fn h => by
  have := Array.all_eq_true_iff_forall_mem.1 named fn (Array.mem_of_getElem? h)
  simpa using this

def entsavecsize : List (List (AV U) × AV U) :=
  [([.agg [.int .i64 (.ofNat 0), .int .i64 (.ofNat 0), .int .i64 (.ofNat 100000)]], .tup [.int .i64 (.ofNat 100000), .lit true]),
   ([.agg [.int .i64 (.ofNat 0), .int .i64 (.ofNat 0), .int .i64 (.ofNat 10000)]], .tup [.int .i64 (.ofNat 10000), .lit true]),
   ([.agg [.int .i64 (.ofNat 0), .int .i64 (.ofNat 0), .int .i64 (.ofNat 1000)]], .tup [.int .i64 (.ofNat 1000), .lit true]),
   ([.agg [.int .i64 (.ofNat 0), .int .i64 (.ofNat 0), .int .i64 (.ofNat 1)]], .tup [.int .i64 (.ofNat 1), .lit true]),
   ([.agg [.int .i64 (.ofNat 0), .int .i64 (.ofNat 0), .int .i64 (.ofNat 50000)]], .tup [.int .i64 (.ofNat 50000), .lit true]),
   ([.agg [.int .i64 (.ofNat 0), .int .i64 (.ofNat 0), .int .i64 (.ofNat 500)]], .tup [.int .i64 (.ofNat 500), .lit true]),
   ([.agg [.int .i64 (.ofNat 0), .int .i64 (.ofNat 0), .int .i64 (.ofNat 99)]], .tup [.int .i64 (.ofNat 99), .lit true]),
   ([.agg [.int .i64 (.ofNat 0), .int .i64 (.ofNat 30000), .int .i64 (.ofNat 40000)]], .tup [.int .i64 (.ofNat 50000), .lit true]),
   ([.agg [.int .i64 (.ofNat 0), .int .i64 (.ofNat 600), .int .i64 (.ofNat 800)]], .tup [.int .i64 (.ofNat 1000), .lit true]),
   ([.agg [.int .i64 (.ofNat 1), .int .i64 (.ofNat 2), .int .i64 (.ofNat 3)]], .tup [.int .i64 (.ofNat 0), .lit false]),
   ([.agg [.int .i64 (.ofNat 3), .int .i64 (.ofNat 0), .int .i64 (.ofNat 4)]], .tup [.int .i64 (.ofNat 5), .lit true]),
   ([.agg [.int .i64 (.ofNat 500), .int .i64 (.ofNat 0), .int .i64 (.ofNat 0)]], .tup [.int .i64 (.ofNat 500), .lit true]),
   ([.agg [.int .i64 (.ofNat 6), .int .i64 (.ofNat 0), .int .i64 (.ofNat 8)]], .tup [.int .i64 (.ofNat 10), .lit true])]
set_option maxRecDepth 100000 in
theorem entsavecsize_ok : entsOk Try.prog [] [] 2000 40 28 entsavecsize = true := by decide +kernel
def entsbends : List (List (AV U) × AV U) :=
  [([.agg [.int .i64 (.ofNat 0), .int .i64 (.ofNat 0), .int .i64 (.ofNat 1000)], .agg [.int .i64 (.ofNat 0), .int .i64 (.ofNat 600), .int .i64 (.ofNat 800)], .agg [.int .i64 (.ofNat 1), .int .i64 (.ofNat 5)]], .lit true),
   ([.agg [.int .i64 (.ofNat 0), .int .i64 (.ofNat 0), .int .i64 (.ofNat 1)], .agg [.int .i64 (.ofNat 0), .int .i64 (.ofNat 0), .int .i64 (.ofNat 1000)], .agg [.int .i64 (.ofNat 1), .int .i64 (.ofNat 5)]], .lit true),
   ([.agg [.int .i64 (.ofNat 0), .int .i64 (.ofNat 0), .int .i64 (.ofNat 1)], .agg [.int .i64 (.ofNat 0), .int .i64 (.ofNat 600), .int .i64 (.ofNat 800)], .agg [.int .i64 (.ofNat 1), .int .i64 (.ofNat 5)]], .lit true),
   ([.agg [.int .i64 (.ofNat 0), .int .i64 (.ofNat 600), .int .i64 (.ofNat 800)], .agg [.int .i64 (.ofNat 0), .int .i64 (.ofNat 0), .int .i64 (.ofNat 1000)], .agg [.int .i64 (.ofNat 1), .int .i64 (.ofNat 5)]], .lit true)]
set_option maxRecDepth 100000 in
theorem entsbends_ok : entsOk Try.prog [] [] 2000 40 68 entsbends = true := by decide +kernel
def entscheckSize : List (List (AV U) × AV U) :=
  [([.agg [.int .i64 (.ofNat 0), .int .i64 (.ofNat 0), .int .i64 (.ofNat 100000)], .int .i64 (.ofNat 100), .int .i64 (.ofNat 131072)], .int .i64 (.ofNat 0)),
   ([.agg [.int .i64 (.ofNat 0), .int .i64 (.ofNat 0), .int .i64 (.ofNat 10000)], .int .i64 (.ofNat 100), .int .i64 (.ofNat 131072)], .int .i64 (.ofNat 0)),
   ([.agg [.int .i64 (.ofNat 0), .int .i64 (.ofNat 0), .int .i64 (.ofNat 1000)], .int .i64 (.ofNat 100), .int .i64 (.ofNat 4000)], .int .i64 (.ofNat 0)),
   ([.agg [.int .i64 (.ofNat 0), .int .i64 (.ofNat 0), .int .i64 (.ofNat 1)], .int .i64 (.ofNat 1), .int .i64 (.ofNat 131072)], .int .i64 (.ofNat 0)),
   ([.agg [.int .i64 (.ofNat 0), .int .i64 (.ofNat 0), .int .i64 (.ofNat 50000)], .int .i64 (.ofNat 100), .int .i64 (.ofNat 131072)], .int .i64 (.ofNat 0)),
   ([.agg [.int .i64 (.ofNat 0), .int .i64 (.ofNat 0), .int .i64 (.ofNat 500)], .int .i64 (.ofNat 100), .int .i64 (.ofNat 131072)], .int .i64 (.ofNat 0)),
   ([.agg [.int .i64 (.ofNat 0), .int .i64 (.ofNat 0), .int .i64 (.ofNat 99)], .int .i64 (.ofNat 100), .int .i64 (.ofNat 131072)], .int .i64 (.ofNat 2)),
   ([.agg [.int .i64 (.ofNat 0), .int .i64 (.ofNat 30000), .int .i64 (.ofNat 40000)], .int .i64 (.ofNat 100), .int .i64 (.ofNat 131072)], .int .i64 (.ofNat 0)),
   ([.agg [.int .i64 (.ofNat 0), .int .i64 (.ofNat 600), .int .i64 (.ofNat 800)], .int .i64 (.ofNat 100), .int .i64 (.ofNat 4000)], .int .i64 (.ofNat 0)),
   ([.agg [.int .i64 (.ofNat 1), .int .i64 (.ofNat 2), .int .i64 (.ofNat 3)], .int .i64 (.ofNat 100), .int .i64 (.ofNat 131072)], .int .i64 (.ofNat 3)),
   ([.agg [.int .i64 (.ofNat 500), .int .i64 (.ofNat 0), .int .i64 (.ofNat 0)], .int .i64 (.ofNat 100), .int .i64 (.ofNat 131072)], .int .i64 (.ofNat 0))]
set_option maxRecDepth 100000 in
theorem entscheckSize_ok : entsOk Try.prog [] [] 2000 40 32 entscheckSize = true := by decide +kernel
def tab : Tab U := [(28, entsavecsize), (68, entsbends), (32, entscheckSize)]
theorem tab_ok : TabOk Try.prog (EP Try.prog) tab := tab_cons (facts names mixes dtab_nil tab_nil entsavecsize_ok) (tab_cons (facts names mixes dtab_nil tab_nil entsbends_ok) (tab_cons (facts names mixes dtab_nil tab_nil entscheckSize_ok) (tab_nil)))
def dt0 : List (Ent U) := []
theorem dt0_ok : DTabOk Try.prog (EP Try.prog) dt0 := dtab_nil
end Go.Proofs.Ytnigcejokcegfaa.pathKnown
