/- All bytes, reckoned one by one. Of no program. -/
import Derived.Test.YtfbfodcjfcnfoaaGfMath
namespace Go.Proofs.Ytfbfodcjfcnfoaa

theorem u8_every (p : UInt8 → Bool) (h : allB 256 (fun k => p (UInt8.ofNat k)) = true) (n : UInt8) : p n = true := by
  have := allB_iff h n.toNat n.toNat_lt
  simpa using this
end Go.Proofs.Ytfbfodcjfcnfoaa
