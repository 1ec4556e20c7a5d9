/- Keys that are whole numbers. -/
import Derived.Test.YtbojmofkhkegmaaRaaa
import Derived.Test.YtbojmofkhkegmaaProg
import Derived.Test.YtbojmofkhkegmaaChg
import Derived.Maps.OwnSet
namespace Go.Proofs.Ytbojmofkhkegmaa
open Go.RowKit

theorem keyI : Maps.Keyed Try.prog 3 := Maps.int_keyed Try.underlying3
theorem keyI_of (x : Int) (hx : (Lit.int .i64 x).wf = true) : keyOf Try.prog 3 (.int .i64 x) = some (.int .i64 x) := Maps.keyOf_int_mk Try.underlying3 hx
theorem zeroInt (w : World) : (zeroValue 3).run Try.prog w = .ok (.int .i64 0) w := by kernel_rfl
theorem lit_int_inj {a b : Int} (h : Lit.int .i64 a = .int .i64 b) : a = b := by injection h
theorem keyLitI (x : Int) : WideAt.IsKeyLit (.int .i64 x) := trivial
def putF {α : Type} (F : Int → Option α) (k : Int) (v : α) : Int → Option α := fun x => if x = k then some v else F x
end Go.Proofs.Ytbojmofkhkegmaa
