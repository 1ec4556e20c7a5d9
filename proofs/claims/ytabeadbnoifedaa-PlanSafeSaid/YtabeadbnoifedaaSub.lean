/- A part of a piece of code: for laws whose loops are theorems of their own. -/
import Derived.Test.YtabeadbnoifedaaMem
import Derived.Deep.LoopGhost
import Derived.Deep.DeepCutAuto
import Derived.Deep.CutBlock
namespace Go.Proofs.Ytabeadbnoifedaa
open Go.RowKit

/-- A part of a piece of code. -/
def sub : List Nat → Code → Code
  | [], c => c
  | 0 :: p, .seq a _ => sub p a
  | _ :: p, .seq _ b => sub p b
  | _ :: p, .block _ c => sub p c
  | _ :: p, .loop c => sub p c
  | _ :: p, .scope c => sub p c
  | 0 :: p, .cond _ a _ => sub p a
  | _ :: p, .cond _ _ b => sub p b
  | _, c => c
theorem wp_block_then {P : Program} {id : Nat} {c : Code} {K : Act → World → Prop} {Q : Exit → Act → World → Prop} {a : Act} {w : World} (h : c.wp P (Exit.then K (Exit.inBlock id (Exit.then K Q))) a w) : (Code.block id c).wp P (Exit.then K Q) a w :=
  wp_block (wp_mono h fun e a w h => by cases e <;> exact h)
end Go.Proofs.Ytabeadbnoifedaa
