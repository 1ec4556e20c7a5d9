/- The statements' Super of any numbers. -/
import Derived.Test.YtdecpkcdljpnaaaDoorSupOf
import Derived.Test.YtdecpkcdljpnaaaDoorPlayPair
set_option linter.unusedVariables false
namespace Go.Proofs.YtdecpkcdljpnaaaDoor
open Go.RowKit

theorem suOf_any (gen a b window epoch out how : Int) (w : World) (hgen : (-9223372036854775808 ≤ gen ∧ gen ≤ 9223372036854775807)) (ha : (-9223372036854775808 ≤ a ∧ a ≤ 9223372036854775807)) (hb : (-9223372036854775808 ≤ b ∧ b ≤ 9223372036854775807)) (hwin : (-9223372036854775808 ≤ window ∧ window ≤ 9223372036854775807)) (hep : (-9223372036854775808 ≤ epoch ∧ epoch ≤ 9223372036854775807)) (hout : (-9223372036854775808 ≤ out ∧ out ≤ 9223372036854775807)) (hhow : (-9223372036854775808 ≤ how ∧ how ≤ 9223372036854775807)) :
    Calls Tryd.prog 13 #[.int .i64 gen, .int .i64 a, .int .i64 b, .int .i64 window, .int .i64 epoch, .int .i64 out, .int .i64 how] w fun e w' => ∃ s, Su64 s ∧ e = .returned (.agg #[.int .i64 s.g, .int .i64 s.al, .int .i64 s.ad, .int .i64 s.ac, .int .i64 s.bl, .int .i64 s.bd, .int .i64 s.bc, .bool s.r, .int .i64 s.wi, .int .i64 s.ep, .int .i64 s.ou]) ∧ Below w.heap.size w w' :=
  suOf_w gen a b window epoch out how _ _ _ _ _ _ w hgen ha hb hwin hep hout hhow (withinI_bd gen 2147483647 (by omega)) (withinI_bd epoch 65536 (by omega)) (withinI_bd out 256 (by omega)) (withinI_bd window 17 (by omega)) (withinI_bd how 2 (by omega)) (withinI_bd (how.tdiv 2) 20 (by omega))
    (Lib.hid fun V => within_any gen 2147483647 V hgen (by omega)) (Lib.hid fun V => within_any epoch 65536 V hep (by omega)) (Lib.hid fun V => within_any out 256 V hout (by omega)) (Lib.hid fun V => within_any window 17 V hwin (by omega)) (Lib.hid fun V => within_any how 2 V hhow (by omega)) (Lib.hid fun V => within_any (how.tdiv 2) 20 V (tdiv_i64 how 2 (by omega) hhow) (by omega))
    (Lib.hid fun V => playPair_any a b V ha hb)
end Go.Proofs.YtdecpkcdljpnaaaDoor
