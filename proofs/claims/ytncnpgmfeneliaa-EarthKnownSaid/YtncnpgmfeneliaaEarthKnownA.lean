/- EarthKnown: what is known of single calls, by runs of their own. No condition. -/
import Derived.Test.YtncnpgmfeneliaaRows
import Derived.Test.YtncnpgmfeneliaaBxZ
noncomputable section
namespace Go.Proofs.Ytncnpgmfeneliaa.earthKnown
open Go.ChangeShapes Go.WideShapes Go.ChangeAt Go.RowKit Go.Bx Go.Bx.Q

theorem own : ownKnob Try.prog.godebug = none := by kernel_rfl
theorem mixes : Try.prog.follows .mixedOrders = true := by kernel_rfl
theorem named : Try.prog.funcs.all (fun fn => !(fn.name == "runtime.NumGoroutine")) = true := by kernel_rfl
theorem names : NamesOk Try.prog := fun f fn h => by
  have := Array.all_eq_true_iff_forall_mem.1 named fn (Array.mem_of_getElem? h)
  simpa using this

def tab : Tab U := []
theorem tab_ok : TabOk Try.prog (EP Try.prog) tab := tab_nil
def dt0 : List (Ent U) := []
theorem dt0_ok : DTabOk Try.prog (EP Try.prog) dt0 := dtab_nil
end Go.Proofs.Ytncnpgmfeneliaa.earthKnown
