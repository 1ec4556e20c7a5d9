/- Texts put together: RbdKit, RbdZero. -/
import Derived.Test.YtldfoadildaljaaGreatWmbm
import Derived.Test.YtldfoadildaljaaGreatWmbk
import Derived.Test.YtldfoadildaljaaGreatWmbh
section
set_option maxRecDepth 20000
set_option linter.unusedVariables false
set_option linter.unusedSimpArgs false
namespace Go.Proofs.YtldfoadildaljaaGreat
open Go.RowKit
section
variable {W w:World} {b:Nat} {H:BH} {N:Bch} {K:List (Nat × Obj)} {R:List (Option Addr × List (List UInt8))} {S:List (Option Addr × List UInt8)}
end
end Go.Proofs.YtldfoadildaljaaGreat
end
section
set_option linter.unusedVariables false
set_option linter.unusedSimpArgs false
namespace Go.Proofs.YtldfoadildaljaaGreat
open Go.RowKit
section
variable {N:Bch} {lv:List Bool} {G:RG} {k m:Nat}
end
theorem KS.open2 {W w w':World} {b:Nat} {H:BH} {N:Bch} (h:KS w w' b H N [] [] []) (hb:Below W.heap.size W w) {g1 g2:Nat} {o1 o2:Obj} (h1:w.heap[g1]?=some o1) (h2:w.heap[g2]?=some o2) (hW1:W.heap.size ≤ g1) (hW2:W.heap.size ≤ g2):KS W w' b H N [(g1,o1),(g2,o2)] [] []:=by
 have hl1:=(Array.getElem?_eq_some_iff.1 h1).1
 have hl2:=(Array.getElem?_eq_some_iff.1 h2).1
 refine ⟨⟨⟨h.bp.at'.mono hb.size,hb.trans (h.bp.bel.mono hb.size)⟩,fun p hp=>?_⟩,fun _ hp=>absurd hp (by simp),fun _ hp=>absurd hp (by simp)⟩
 simp only [List.mem_cons,List.not_mem_nil,or_false] at hp
 rcases hp with rfl | rfl
 ·exact ⟨(h.bp.bel.block g1 hl1).trans h1,fun e=>by have:=(h.bp.at'.flt e).1;omega,hW1⟩
 ·exact ⟨(h.bp.bel.block g2 hl2).trans h2,fun e=>by have:=(h.bp.at'.flt e).1;omega,hW2⟩
end Go.Proofs.YtldfoadildaljaaGreat
end
