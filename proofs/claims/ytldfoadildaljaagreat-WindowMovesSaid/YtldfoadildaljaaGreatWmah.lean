/- Texts put together: CloneB, OwnZ, Rows2, GfInv, Str, EqualR, GeoCap, SupMath, RecMath, OwnFull, LawArgs, Plain. -/
import Derived.Test.YtldfoadildaljaaGreatWmaa
import Derived.Lib.AppendZerosOnto
import Derived.Deep.Matrix
import Derived.Laws.BytesArg
import Derived.Laws.BytesString
import Derived.Lib.ConvBytes
import Derived.Deep.Grids
import Derived.Test.YtldfoadildaljaaGreatRows
section
set_option maxRecDepth 8000
namespace Go.Proofs.YtldfoadildaljaaGreat
open Go.RowKit
theorem own_empty (w:World):OwB 5 (w.alloc (.cells #[] 5)) w.heap.size (.slice (some ⟨w.heap.size,0,none⟩) 0 0) [] :=
 ⟨World.ownsRow_lit w #[] 0 (Nat.le_refl _) (by unfold maxLen;omega) rfl,by simp⟩
theorem clone_any (A:Option Addr) (bs:List UInt8) (n c:Nat) (w:World) (hn:n=bs.length) (hp:0 < bs.length) (hr:RdB w w.heap.size A bs) :
    Calls Tryz.prog 74 #[.slice A n c] w fun e w'=>∃ v,e=.returned v∧OwB 5 w' w.heap.size v bs∧Below w.heap.size w w':=by
 have hl:=hr.1
 obtain ⟨b,off,rfl,hb,hc⟩:=hr.2 hp
 subst hn
 have ho:=own_empty w
 have hq:∀ W:World,(binOp .eql 48 (.slice (some ⟨b,off,none⟩) bs.length c) (.slice none 0 0)).run Tryz.prog W=.ok (.bool false) W:=fun _=>rfl
 have hr1:=hr.below (below1 w (.cells #[] 5)) (Nat.le_refl _)
 go_enter Tryz.func74,Tryz.ntmps74
 go_wp2_with (at_builtin;refine wpList_append_B _ rfl _ _ _ rfl w.heap.size 5 Tryz.underlying48 info_u8 (.slice (some ⟨w.heap.size,0,none⟩) 0 0) [] rfl ho w.heap.size (some ⟨b,off,none⟩) bs.length c bs rfl rfl hr1 (by simpa using hl) (by simp) ?_;intro v' w' hown hg hat)
 have hbw:=(below1 w (.cells #[] 5)).grown hg (by simp) (by simp [Value.ownBlock])
 rw [List.nil_append] at hown
 go_ret
 exact ⟨v',rfl,hown,hbw⟩
end Go.Proofs.YtldfoadildaljaaGreat
end
section
namespace Go.Proofs.YtldfoadildaljaaGreat
open Go.RowKit
section
variable {P:Program} (w:World)
end
end Go.Proofs.YtldfoadildaljaaGreat
end
section
namespace Go.Proofs.YtldfoadildaljaaGreat
open Go.ChangeShapes Go.WideShapes Go.ChangeAt Go.RowKit
section
variable {H:Type} {enc:TypeId × Value→H} {P:Program}
end
def RowsX (w:World) (B:Nat) (ob:Option Nat) (xs:List Value) (rs:List (List UInt8)):Prop :=
 xs.length=rs.length∧∀ k,k < rs.length→∃ A c,xs[k]?=some (.slice A (rs.getD k []).length c)∧RdB w B A (rs.getD k [])∧(0 < (rs.getD k []).length→∀ a,A=some a→some a.block ≠ ob)
theorem RowsX.nil (w:World) (B:Nat) (ob:Option Nat):RowsX w B ob [] []:=⟨rfl,fun k hk=>by simp at hk⟩
theorem RowsX.rowsV {w:World} {B:Nat} {ob:Option Nat} {xs:List Value} {rs:List (List UInt8)} (h:RowsX w B ob xs rs):RowsV w B xs rs :=
 ⟨h.1,fun k hk=>by
  obtain ⟨A,c,h1,h2,_⟩:=h.2 k hk
  exact ⟨A,c,h1,h2⟩⟩
theorem RowsX.below {w w':World} {ob:Option Nat} {xs:List Value} {rs:List (List UInt8)} (h:RowsX w w.heap.size ob xs rs) (hb:Below w.heap.size w w'):RowsX w' w'.heap.size ob xs rs :=
 ⟨h.1,fun k hk=>by
  obtain ⟨A,c,h1,h2,h3⟩:=h.2 k hk
  exact ⟨A,c,h1,(h2.below hb (Nat.le_refl _)).more hb.size,h3⟩⟩
theorem RowsX.grown {w w':World} {ob ob':Option Nat} {xs:List Value} {rs:List (List UInt8)} (h:RowsX w w.heap.size ob xs rs) (hg:w.grownBy w' ob) (ho:ob'=ob∨ob'=some w.heap.size):RowsX w' w'.heap.size ob' xs rs :=
 ⟨h.1,fun k hk=>by
  obtain ⟨A,c,h1,h2,h3⟩:=h.2 k hk
  refine ⟨A,c,h1,⟨h2.1,fun h0=>?_⟩,fun h0 a ha=>?_⟩
  ·obtain ⟨b,off,e,hb,hc⟩:=h2.2 h0
   have hne:=h3 h0 _ e
   refine ⟨b,off,e,by have:=hg.size;omega,fun j hj=>?_⟩
   rw [← hc j hj]
   exact World.cell?_of_block (w:=w) (hg.block b hb hne)
  ·rcases ho with rfl | rfl
   ·exact h3 h0 a ha
   ·obtain ⟨b,off,e,hb,hc⟩:=h2.2 h0
    rw [ha] at e
    injection e with e
    subst e
    intro e
    injection e with e
    simp at e
    omega⟩
theorem RowsX.snoc {w:World} {B:Nat} {ob:Option Nat} {xs:List Value} {rs:List (List UInt8)} (h:RowsX w B ob xs rs) {A:Option Addr} {c:Nat} {bs:List UInt8} (hr:RdB w B A bs) (hne:0 < bs.length→∀ a,A=some a→some a.block ≠ ob):RowsX w B ob (xs ++ [.slice A bs.length c]) (rs ++ [bs]) :=
 ⟨by simp [h.1],fun k hk=>by
  by_cases hk2:k < rs.length
  ·obtain ⟨A',c',h1,h2,h3⟩:=h.2 k hk2
   have e:(rs ++ [bs]).getD k []=rs.getD k []:=by simp [List.getElem?_append_left hk2]
   rw [e]
   exact ⟨A',c',by rw [List.getElem?_append_left (by rw [h.1];exact hk2)];exact h1,h2,h3⟩
  ·have hk3:k=rs.length:=by simp at hk;omega
   subst hk3
   have e:(rs ++ [bs]).getD rs.length []=bs:=by simp
   rw [e]
   exact ⟨A,c,by rw [← h.1];simp,hr,hne⟩⟩
end Go.Proofs.YtldfoadildaljaaGreat
end
section
namespace Go.Proofs.YtldfoadildaljaaGreat
open Go.RowKit
theorem inv_any (a:Nat) (ha:a < 256) (w:World):Calls Tryz.prog 120 #[.int .u8 (a:Int)] w fun e w'=>e=.returned (.int .u8 ((ginv a:Nat):Int))∧w'=w:=by
 have H:=Lib.hid (gpw_inv ha)
 go_enter Tryz.func120,Tryz.ntmps120
 go_wp2_with (go_at_call 110;refine (power_any a 254 ha (by decide) _).mono ?_;rintro e w' ⟨rfl,rfl⟩)
 go_ret
 exact ⟨ret_int (congrArg Nat.cast H.out),rfl⟩
end Go.Proofs.YtldfoadildaljaaGreat
end
section
namespace Go.Proofs.YtldfoadildaljaaGreat
open Go.RowKit
end Go.Proofs.YtldfoadildaljaaGreat
end
section
set_option maxRecDepth 8000
set_option linter.unusedVariables false
set_option linter.unusedSimpArgs false
namespace Go.Proofs.YtldfoadildaljaaGreat
open Go.RowKit
end Go.Proofs.YtldfoadildaljaaGreat
end
section
namespace Go.Proofs.YtldfoadildaljaaGreat
open Go.RowKit
theorem capacity_any (l d c:Int) (w:World) (hl:-9223372036854775808 ≤ l∧l ≤ 9223372036854775807) (hd:-9223372036854775808 ≤ d∧d ≤ 9223372036854775807) (hc:-9223372036854775808 ≤ c∧c ≤ 9223372036854775807) :
    Calls Tryz.prog 60 #[.agg #[.int .i64 l,.int .i64 d,.int .i64 c]] w fun e w'=>e=.returned (.int .i64 (gCap l d c))∧Below w.heap.size w w':=by
 have hB:=gWid_bd l d c
 have HC:Hid (gCap l d c=gWid l d c * 16):=rfl
 go_enter Tryz.func60,Tryz.ntmps60
 go_wp2_with fail
 (with_reducible refine (width_any l d c _ hl hd hc).mono ?_);rintro e w1 ⟨rfl,hb⟩
 have F:=(below1 w _).trans (hb.mono (by simp))
 clear hb
 generalize gWid l d c=wd at hB HC
 go_wp2_with fail
 go_ret
 exact ⟨by rw [HC.out];rfl,F⟩
end Go.Proofs.YtldfoadildaljaaGreat
end
section
namespace Go.Proofs.YtldfoadildaljaaGreat
end Go.Proofs.YtldfoadildaljaaGreat
end
section
namespace Go.Proofs.YtldfoadildaljaaGreat
structure It where
 d:Int
 a:Int
 b:List UInt8
def itZ:It:=⟨0,0,[]⟩
theorem It.ext' {x y:It} (h1:x.d=y.d) (h2:x.a=y.a) (h3:x.b=y.b):x=y:=by
 obtain ⟨a1,a2,a3⟩:=x
 obtain ⟨b1,b2,b3⟩:=y
 dsimp only at h1 h2 h3
 subst h1 h2 h3
 rfl
def itN (l:List It) (k:Nat):It:=l.getD k itZ
end Go.Proofs.YtldfoadildaljaaGreat
end
section
set_option linter.unusedVariables false
set_option linter.unusedSimpArgs false
namespace Go.Proofs.YtldfoadildaljaaGreat
open Go.RowKit
section
variable {P:Program} (w:World)
end
end Go.Proofs.YtldfoadildaljaaGreat
end
section
namespace Go.Proofs.YtldfoadildaljaaGreat
open Go.ChangeShapes Go.WideShapes Go.ChangeAt Go.RowKit Go.Deep
section
variable {H:Type} {enc:TypeId × Value→H} {P:Program}
theorem addr_of {W:World} {x:Addr} {u:Value} (h:W.cell? (x.add 0)=some u):∃ b off,x=⟨b,off,none⟩∧b < W.heap.size:=by
 obtain ⟨b,off,spot⟩:=x
 have hspot:spot=none:=by simpa [Addr.add] using World.cell?_spot h
 subst hspot
 have:=World.block_lt_of_cell? _ _ h
 exact ⟨b,off,rfl,by simpa [Addr.add] using this⟩
theorem addr_add (b off k:Nat):((⟨b,off,none⟩:Addr).add k)=⟨b,off + k,none⟩:=by unfold Addr.add;by_cases hk0:k=0 <;> simp [hk0]
theorem open_rdz {t e:TypeId} (ht:P.underlying t=some (.slice e)) (he:P.underlying e=some (.int .i64)) (hc:P.cellsOf e=1) {r:Reach} {W:World} {base:Nat} {v:Value} {d:DataW H} {p:List MemPlace}
    (hv:Value.okWide P W r base t v) (h:DataW.Trod enc P W 0 (fun _=>true) true t v d p):∃ A zs cap,v=.slice A zs.length cap∧zs.length ≤ cap∧RdZ W W.heap.size A zs:=by
 obtain ⟨A,len,cap,rfl⟩:=okWide_slice ht hv
 obtain ⟨fuel,hf⟩:=h
 rcases open_ints ht he hc hf with ⟨hcs,_⟩ | ⟨x,l,c,zs,hcs,_,hl,hm,hz,hd,hcell,hwz⟩
 ·simp [Value.cells] at hcs
  obtain ⟨rfl,rfl,rfl⟩:=hcs
  exact ⟨none,[],0,rfl,Nat.le_refl _,RdZ.nil _ _ _⟩
 ·simp [Value.cells] at hcs
  obtain ⟨rfl,rfl,rfl⟩:=hcs
  simp only [if_true] at hz
  have hL:(zs.take len).length=len:=by rw [List.length_take];omega
  refine ⟨some x,zs.take len,cap,by rw [hL],by rw [hL];exact hl,by rw [hL];unfold maxLen at hm;omega,fun z hz=>bounds_i64 (hwz z (List.mem_of_mem_take hz)),fun hn=>?_⟩
  rw [hL] at hn
  obtain ⟨b,off,rfl,hb⟩:=addr_of (hcell 0 (by omega))
  refine ⟨b,off,rfl,hb,fun k hk=>?_⟩
  rw [hL] at hk
  have:=hcell k (by omega)
  rw [addr_add] at this
  rw [this]
  simp [hk]
end
end Go.Proofs.YtldfoadildaljaaGreat
end
section
namespace Go.Proofs.YtldfoadildaljaaGreat
open Go.ChangeShapes Go.WideShapes Go.ChangeAt Go.RowKit
theorem laidOut:laidOutB Tryz.prog=true:=by kernel_rfl
theorem own:ownKnob Tryz.prog.godebug=none:=by kernel_rfl
end Go.Proofs.YtldfoadildaljaaGreat
end
