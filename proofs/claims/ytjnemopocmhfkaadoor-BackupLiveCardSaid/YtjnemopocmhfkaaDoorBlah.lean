/- Texts put together: MakeS, Within, KeepCopy, Synd. -/
import Derived.Test.YtjnemopocmhfkaaDoorBlaf
import Derived.Test.YtjnemopocmhfkaaDoorBlad
import Derived.StillTailTactics
section
namespace Go.Proofs.YtjnemopocmhfkaaDoor
open Go.RowKit

theorem makeS (w : World) : (Instr.makeSlice 48 (.int .i64 32) (.int .i64 32)).run Tryd.prog w = .ok (.slice (some ⟨w.heap.size, 0, none⟩) 32 32) (w.alloc (.cells (zcells 32) 5)) := make_bytes 32 (by omega) w
end Go.Proofs.YtjnemopocmhfkaaDoor
end
section
namespace Go.Proofs.YtjnemopocmhfkaaDoor
open Go.RowKit

end Go.Proofs.YtjnemopocmhfkaaDoor
end
section
namespace Go.Proofs.YtjnemopocmhfkaaDoor
open Go.RowKit

end Go.Proofs.YtjnemopocmhfkaaDoor
end
section
namespace Go.Proofs.YtjnemopocmhfkaaDoor
open Go.RowKit

end Go.Proofs.YtjnemopocmhfkaaDoor
end
