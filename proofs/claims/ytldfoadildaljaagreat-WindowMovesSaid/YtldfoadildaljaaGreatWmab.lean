/- Texts put together: RefGeo, PlayGeo, RefPlace, RefGeoCap. -/
import Derived.Test.YtldfoadildaljaaGreatProg
import Derived.Test.YtldfoadildaljaaGreatWmaa
section
namespace Go.Proofs.YtldfoadildaljaaGreat
open Go.RowKit
theorem ibeq_no {a b:Int} (h:a ≠ b):(a == b)=false:=by simpa using h
set_option maxHeartbeats 1000000 in
theorem refCheck_any (l d c:Int) (w:World) (_:-9223372036854775808 ≤ l∧l ≤ 9223372036854775807) (_:-9223372036854775808 ≤ d∧d ≤ 9223372036854775807) (_:-9223372036854775808 ≤ c∧c ≤ 9223372036854775807) :
    Calls Tryz.prog 42 #[.agg #[.int .i64 l,.int .i64 d,.int .i64 c]] w fun e w'=>e=.returned (.bool (gOk l d c))∧Below w.heap.size w w':=by
 by_cases h0:l=5∨l=6
 ·rcases h0 with rfl | rfl
  ·by_cases h3:3 ≤ d
   ·by_cases h8:d ≤ 8
    ·by_cases hcc:c=1∨c=2∨c=4
     ·have H:Hid (gOk 5 d c=true):=gOk_mk (by omega)
      rcases hcc with rfl | rfl | rfl
      all_goals
       go_enter Tryz.func42,Tryz.ntmps42
       go_wp2
       go_ret
       exact ⟨by rw [H.out];rfl,below1 _ _⟩
     ·have H:Hid (gOk 5 d c=false):=gOk_no (by omega)
      have e1:=ibeq_no (show c ≠ 1 by omega)
      have e2:=ibeq_no (show c ≠ 2 by omega)
      have e4:=ibeq_no (show c ≠ 4 by omega)
      clear hcc
      go_enter Tryz.func42,Tryz.ntmps42
      go_wp2
      go_ret
      exact ⟨by rw [H.out];rfl,below1 _ _⟩
    ·have H:Hid (gOk 5 d c=false):=gOk_no (by omega)
     go_enter Tryz.func42,Tryz.ntmps42
     go_wp2
     go_ret
     exact ⟨by rw [H.out];rfl,below1 _ _⟩
   ·have H:Hid (gOk 5 d c=false):=gOk_no (by omega)
    go_enter Tryz.func42,Tryz.ntmps42
    go_wp2
    go_ret
    exact ⟨by rw [H.out];rfl,below1 _ _⟩
  ·by_cases h3:4 ≤ d
   ·by_cases h8:d ≤ 8
    ·by_cases hcc:c=1∨c=2∨c=4
     ·have H:Hid (gOk 6 d c=true):=gOk_mk (by omega)
      rcases hcc with rfl | rfl | rfl
      all_goals
       go_enter Tryz.func42,Tryz.ntmps42
       go_wp2
       go_ret
       exact ⟨by rw [H.out];rfl,below1 _ _⟩
     ·have H:Hid (gOk 6 d c=false):=gOk_no (by omega)
      have e1:=ibeq_no (show c ≠ 1 by omega)
      have e2:=ibeq_no (show c ≠ 2 by omega)
      have e4:=ibeq_no (show c ≠ 4 by omega)
      clear hcc
      go_enter Tryz.func42,Tryz.ntmps42
      go_wp2
      go_ret
      exact ⟨by rw [H.out];rfl,below1 _ _⟩
    ·have H:Hid (gOk 6 d c=false):=gOk_no (by omega)
     go_enter Tryz.func42,Tryz.ntmps42
     go_wp2
     go_ret
     exact ⟨by rw [H.out];rfl,below1 _ _⟩
   ·have H:Hid (gOk 6 d c=false):=gOk_no (by omega)
    go_enter Tryz.func42,Tryz.ntmps42
    go_wp2
    go_ret
    exact ⟨by rw [H.out];rfl,below1 _ _⟩
 ·have H:Hid (gOk l d c=false):=gOk_no (by omega)
  have e5:=ibeq_no (show l ≠ 5 by omega)
  have e6:=ibeq_no (show l ≠ 6 by omega)
  clear h0
  go_enter Tryz.func42,Tryz.ntmps42
  go_wp2
  go_ret
  exact ⟨by rw [H.out];rfl,below1 _ _⟩
theorem refCheck_yes (l d c:Int) (w:World) (h:Hid (gOk l d c=true)) (hl:-9223372036854775808 ≤ l∧l ≤ 9223372036854775807) (hd:-9223372036854775808 ≤ d∧d ≤ 9223372036854775807) (hc:-9223372036854775808 ≤ c∧c ≤ 9223372036854775807) :
    Calls Tryz.prog 42 #[.agg #[.int .i64 l,.int .i64 d,.int .i64 c]] w fun e w'=>e=.returned (.bool true)∧Below w.heap.size w w':=by
 have:=refCheck_any l d c w hl hd hc
 rwa [h.out] at this
theorem refCheck_no (l d c:Int) (w:World) (h:Hid (gOk l d c=false)) (hl:-9223372036854775808 ≤ l∧l ≤ 9223372036854775807) (hd:-9223372036854775808 ≤ d∧d ≤ 9223372036854775807) (hc:-9223372036854775808 ≤ c∧c ≤ 9223372036854775807) :
    Calls Tryz.prog 42 #[.agg #[.int .i64 l,.int .i64 d,.int .i64 c]] w fun e w'=>e=.returned (.bool false)∧Below w.heap.size w w':=by
 have:=refCheck_any l d c w hl hd hc
 rwa [h.out] at this
theorem refBudget_any (l d c:Int) (w:World) (hl:-9223372036854775808 ≤ l∧l ≤ 9223372036854775807) (hd:-9223372036854775808 ≤ d∧d ≤ 9223372036854775807) (hc:-9223372036854775808 ≤ c∧c ≤ 9223372036854775807) :
    Calls Tryz.prog 55 #[.agg #[.int .i64 l,.int .i64 d,.int .i64 c]] w fun e w'=>e=.returned (.int .i64 (gBud l d c))∧Below w.heap.size w w':=by
 have G:=gat_new w l d c 25 (0,0)
 cases hG:gOk l d c
 ·have HG:=Lib.hid hG
  clear hG
  go_enter Tryz.func55,Tryz.ntmps55
  go_wp2_with fail
  (with_reducible refine (refCheck_no l d c _ HG hl hd hc).mono ?_);rintro e w1 ⟨rfl,hb⟩
  have F:=(below1 w _).trans (hb.mono (by simp))
  clear hb
  go_wp2_with fail
  go_ret
  exact ⟨by rw [gBud_no HG.out];rfl,F⟩
 ·have HG:=Lib.hid hG
  clear hG
  have hb6:=gOk_bd HG.out
  go_enter Tryz.func55,Tryz.ntmps55
  go_wp2_with fail
  (with_reducible refine (refCheck_yes l d c _ HG hl hd hc).mono ?_);rintro e w1 ⟨rfl,hb⟩
  have F:=(below1 w _).trans (hb.mono (by simp))
  obtain ⟨g1,g2,g3⟩:=G.below hb (by simp)
  clear hb
  go_wp2_with fail
  go_ret
  exact ⟨by rw [gBud_yes HG.out];rfl,F⟩
theorem refWidth_any (l d c:Int) (w:World) (hl:-9223372036854775808 ≤ l∧l ≤ 9223372036854775807) (hd:-9223372036854775808 ≤ d∧d ≤ 9223372036854775807) (hc:-9223372036854775808 ≤ c∧c ≤ 9223372036854775807) :
    Calls Tryz.prog 28 #[.agg #[.int .i64 l,.int .i64 d,.int .i64 c]] w fun e w'=>e=.returned (.int .i64 (gWid l d c))∧Below w.heap.size w w':=by
 have G:=gat_new w l d c 25 (0,0)
 cases hG:gOk l d c
 ·have HG:=Lib.hid hG
  clear hG
  go_enter Tryz.func28,Tryz.ntmps28
  go_wp2_with fail
  (with_reducible refine (refCheck_no l d c _ HG hl hd hc).mono ?_);rintro e w1 ⟨rfl,hb⟩
  have F:=(below1 w _).trans (hb.mono (by simp))
  clear hb
  go_wp2_with fail
  go_ret
  exact ⟨by rw [gWid_no HG.out];rfl,F⟩
 ·have HG:=Lib.hid hG
  clear hG
  have HW:Hid (gWid l d c=d - gBud l d c):=by rw [gWid_yes HG.out,gBud_yes HG.out];rfl
  have hB:=gBud_bd l d c
  have hd3:=gOk_bd HG.out
  go_enter Tryz.func28,Tryz.ntmps28
  go_wp2_with fail
  (with_reducible refine (refCheck_yes l d c _ HG hl hd hc).mono ?_);rintro e w1 ⟨rfl,hb⟩
  have F:=(below1 w _).trans (hb.mono (by simp))
  have G1:=G.below hb (by simp)
  have z1:w.heap.size < w1.heap.size:=by have:=hb.size;simp at this;omega
  clear hb G
  have HB:Hid (∀ W,Calls Tryz.prog 55 #[.agg #[.int .i64 l,.int .i64 d,.int .i64 c]] W fun e w'=>e=.returned (.int .i64 (gBud l d c))∧Below W.heap.size W w'):=Lib.hid fun W=>refBudget_any l d c W hl hd hc
  generalize gBud l d c=bd at hB HW HB
  obtain ⟨g1,g2,g3⟩:=G1
  go_wp2_with fail
  have S0:GS w w.heap.size w.heap.size l d c w1:=⟨g1,g2,g3,F⟩
  clear g1 g2 g3 F z1
  go_region_held3 (GS w w.heap.size w.heap.size l d c)
   (first | assumption | exact GS.drew ‹_›)
   ((go_at_call 55;(with_reducible refine (HB.out _).mono ?_);rintro e w2 ⟨rfl,hb⟩;have S2:=(GS.drew S0).later hb))
  go_wp2
  go_ret
  exact ⟨by rw [HW.out];exact gret_int (IntWalk.i64_in _ (by omega)),S2.2.2.2⟩
end Go.Proofs.YtldfoadildaljaaGreat
end
section
set_option linter.unusedVariables false
set_option linter.unusedSimpArgs false
namespace Go.Proofs.YtldfoadildaljaaGreat
open Go.RowKit
def chk (k:Int):Int:=if k=0 then 1 else if k=1 then 2 else 4
theorem tdiv_nonneg_bd (m k:Int) (hm:0 ≤ m) (hk:1 ≤ k):0 ≤ m.tdiv k∧m.tdiv k ≤ m :=
 ⟨Int.tdiv_nonneg hm (by omega),Int.tdiv_le_self _ hm⟩
theorem tdiv_i64 (n k:Int) (hk:1 ≤ k) (hn:-9223372036854775808 ≤ n∧n ≤ 9223372036854775807):-9223372036854775808 ≤ n.tdiv k∧n.tdiv k ≤ 9223372036854775807:=by
 by_cases h:0 ≤ n
 ·have:=tdiv_nonneg_bd n k h hk;omega
 ·have:=tdiv_nonneg_bd (-n) k (by omega) hk
  rw [Int.neg_tdiv] at this
  omega
theorem chk_cell (w:World) (k:Nat) (hk:k < 3) (t:TypeId):(w.alloc (.cells #[.int .i64 1,.int .i64 2,.int .i64 4] t)).cell? ⟨w.heap.size,k,none⟩=some (.int .i64 (chk k)):=by
 have c:=fun i=>cell_of_row _ _ i _ _ _ (heap_alloc_new w (.cells #[.int .i64 1,.int .i64 2,.int .i64 4] t))
 match k,hk with
 | 0,_=>exact c 0
 | 1,_=>exact c 1
 | 2,_=>exact c 2
end Go.Proofs.YtldfoadildaljaaGreat
end
section
set_option linter.unusedVariables false
set_option linter.unusedSimpArgs false
namespace Go.Proofs.YtldfoadildaljaaGreat
open Go.RowKit
theorem refFine_any (l d c r:Int) (w:World) (hl:(-9223372036854775808 ≤ l∧l ≤ 9223372036854775807)) (hd:(-9223372036854775808 ≤ d∧d ≤ 9223372036854775807)) (hc:(-9223372036854775808 ≤ c∧c ≤ 9223372036854775807)) (hr:(-9223372036854775808 ≤ r∧r ≤ 9223372036854775807)) :
    Calls Tryz.prog 45 #[.agg #[.int .i64 l,.int .i64 d,.int .i64 c],.int .i64 r] w fun e w'=>e=.returned (.bool (plOk l d c r))∧Below w.heap.size w w':=by
 cases hG:gOk l d c
 ·have H:Hid (plOk l d c r=false):=plOk_no (by rw [hG];simp)
  have HG:=Lib.hid hG
  clear hG
  go_enter Tryz.func45,Tryz.ntmps45
  go_wp2_with fail
  (with_reducible refine (refCheck_no l d c _ HG hl hd hc).mono ?_);rintro e w1 ⟨rfl,hb⟩
  have F:=(below1 w _).trans (hb.mono (by simp))
  clear hb
  go_wp2_with fail
  go_ret
  exact ⟨by rw [H.out];rfl,F⟩
 ·have HG:=Lib.hid hG
  by_cases h0:0 ≤ r
  ·have e0:decide (0 ≤ r)=true:=decide_eq_true h0
   by_cases h1:r < 16
   ·have e1:decide (r < 16)=true:=decide_eq_true h1
    have H:Hid (plOk l d c r=true):=plOk_mk hG h0 h1
    clear hG
    go_enter Tryz.func45,Tryz.ntmps45
    go_wp2_with fail
    (with_reducible refine (refCheck_yes l d c _ HG hl hd hc).mono ?_);rintro e w1 ⟨rfl,hb⟩
    have F:=(below1 w _).trans (hb.mono (by simp))
    clear hb
    go_wp2_with fail
    go_ret
    exact ⟨by rw [H.out];rfl,F⟩
   ·have e1:decide (r < 16)=false:=decide_eq_false h1
    have H:Hid (plOk l d c r=false):=plOk_no (by omega)
    clear hG
    go_enter Tryz.func45,Tryz.ntmps45
    go_wp2_with fail
    (with_reducible refine (refCheck_yes l d c _ HG hl hd hc).mono ?_);rintro e w1 ⟨rfl,hb⟩
    have F:=(below1 w _).trans (hb.mono (by simp))
    clear hb
    go_wp2_with fail
    go_ret
    exact ⟨by rw [H.out];rfl,F⟩
  ·have e0:decide (0 ≤ r)=false:=decide_eq_false h0
   have H:Hid (plOk l d c r=false):=plOk_no (by omega)
   clear hG
   go_enter Tryz.func45,Tryz.ntmps45
   go_wp2_with fail
   (with_reducible refine (refCheck_yes l d c _ HG hl hd hc).mono ?_);rintro e w1 ⟨rfl,hb⟩
   have F:=(below1 w _).trans (hb.mono (by simp))
   clear hb
   go_wp2_with fail
   go_ret
   exact ⟨by rw [H.out];rfl,F⟩
theorem refFine_yes (l d c r:Int) (w:World) (h:Hid (plOk l d c r=true)) (hl:(-9223372036854775808 ≤ l∧l ≤ 9223372036854775807)) (hd:(-9223372036854775808 ≤ d∧d ≤ 9223372036854775807)) (hc:(-9223372036854775808 ≤ c∧c ≤ 9223372036854775807)) (hr:(-9223372036854775808 ≤ r∧r ≤ 9223372036854775807)) :
    Calls Tryz.prog 45 #[.agg #[.int .i64 l,.int .i64 d,.int .i64 c],.int .i64 r] w fun e w'=>e=.returned (.bool true)∧Below w.heap.size w w':=by
 have:=refFine_any l d c r w hl hd hc hr
 rwa [h.out] at this
theorem refFine_no (l d c r:Int) (w:World) (h:Hid (plOk l d c r=false)) (hl:(-9223372036854775808 ≤ l∧l ≤ 9223372036854775807)) (hd:(-9223372036854775808 ≤ d∧d ≤ 9223372036854775807)) (hc:(-9223372036854775808 ≤ c∧c ≤ 9223372036854775807)) (hr:(-9223372036854775808 ≤ r∧r ≤ 9223372036854775807)) :
    Calls Tryz.prog 45 #[.agg #[.int .i64 l,.int .i64 d,.int .i64 c],.int .i64 r] w fun e w'=>e=.returned (.bool false)∧Below w.heap.size w w':=by
 have:=refFine_any l d c r w hl hd hc hr
 rwa [h.out] at this
theorem refParity_any (l d c r:Int) (w:World) (hl:(-9223372036854775808 ≤ l∧l ≤ 9223372036854775807)) (hd:(-9223372036854775808 ≤ d∧d ≤ 9223372036854775807)) (hc:(-9223372036854775808 ≤ c∧c ≤ 9223372036854775807)) (hr:(-9223372036854775808 ≤ r∧r ≤ 9223372036854775807)) :
    Calls Tryz.prog 48 #[.agg #[.int .i64 l,.int .i64 d,.int .i64 c],.int .i64 r] w fun e w'=>e=.returned (.tuple #[.int .i64 (plP l d c r),.int .i64 (plQ l d c r)])∧Below w.heap.size w w':=by
 have G:=gat_new w l d c 25 (0,0)
 cases hT:plOk l d c r
 ·have HP:=Lib.hid (plP_no hT)
  have HQ:=Lib.hid (plQ_no hT)
  have HT:=Lib.hid hT
  clear hT
  go_enter Tryz.func48,Tryz.ntmps48
  go_wp2_with fail
  (with_reducible refine (refFine_no l d c r _ HT hl hd hc hr).mono ?_);rintro e w1 ⟨rfl,hb⟩
  have F:=(below1 w _).trans (hb.mono (by simp))
  clear hb
  go_wp2_with fail
  go_ret2
  exact ⟨by rw [HP.out,HQ.out];rfl,F⟩
 ·have HT:=Lib.hid hT
  obtain ⟨hg,h0,h1⟩:=plOk_yes hT
  have hb6:=gOk_bd hg
  have hq:=quo_bd 16 h0 h1 (show 1 ≤ c by omega)
  have hm:=rem_bd (r / c) (show 1 ≤ d by omega)
  have HP:=Lib.hid (plP_yes hT)
  by_cases h6:l=6
  ·subst h6
   have HQ:=Lib.hid (plQ_6 hT)
   clear hT hg
   go_enter Tryz.func48,Tryz.ntmps48
   go_wp2_with fail
   (with_reducible refine (refFine_yes 6 d c r _ HT hl hd hc hr).mono ?_);rintro e w1 ⟨rfl,hb⟩
   have F:=(below1 w _).trans (hb.mono (by simp))
   obtain ⟨g1,g2,g3⟩:=G.below hb (by simp)
   clear hb
   go_wp2_with fail
   go_quiet (fail)
   go_wp2_with fail
   go_quiet (fail)
   go_wp2
   go_ret2
   exact ⟨by rw [HP.out,HQ.out];rfl,(F.trans (belowN _ _ _)).trans (belowN _ _ _)⟩
  ·obtain rfl:l=5:=by omega
   have HQ:=Lib.hid (@plQ_5 d c r)
   clear hT hg h6
   go_enter Tryz.func48,Tryz.ntmps48
   go_wp2_with fail
   (with_reducible refine (refFine_yes 5 d c r _ HT hl hd hc hr).mono ?_);rintro e w1 ⟨rfl,hb⟩
   have F:=(below1 w _).trans (hb.mono (by simp))
   obtain ⟨g1,g2,g3⟩:=G.below hb (by simp)
   clear hb
   go_wp2_with fail
   go_quiet (fail)
   go_wp2
   go_ret2
   exact ⟨by rw [HP.out,HQ.out];rfl,F.trans (belowN _ _ _)⟩
theorem refDisk_any (l d c r k:Int) (w:World) (hl:(-9223372036854775808 ≤ l∧l ≤ 9223372036854775807)) (hd:(-9223372036854775808 ≤ d∧d ≤ 9223372036854775807)) (hc:(-9223372036854775808 ≤ c∧c ≤ 9223372036854775807)) (hr:(-9223372036854775808 ≤ r∧r ≤ 9223372036854775807)) (hk:(-9223372036854775808 ≤ k∧k ≤ 9223372036854775807)) :
    Calls Tryz.prog 44 #[.agg #[.int .i64 l,.int .i64 d,.int .i64 c],.int .i64 r,.int .i64 k] w fun e w'=>e=.returned (.int .i64 (plD l d c r k))∧Below w.heap.size w w':=by
 have G:=gat_new w l d c 25 (0,0)
 have HD:Hid (∀ b,plDok l d c r k=b→plD l d c r k=if b=true then (plF l d c r + k) % d else -1):=Lib.hid (fun b h=>by subst h;rfl)
 have HW:=Lib.hid (fun W=>refWidth_any l d c W hl hd hc)
 have HK:Hid (plDok l d c r k=(plOk l d c r && decide (0 ≤ k∧k < gWid l d c))):=rfl
 cases hT:plOk l d c r
 ·have H:=Lib.hid ((HD.out false (by rw [HK.out,hT];rfl)).trans (if_neg (by decide)))
  have HT:=Lib.hid hT
  clear hT
  go_enter Tryz.func44,Tryz.ntmps44
  go_wp2_with fail
  (with_reducible refine (refFine_no l d c r _ HT hl hd hc hr).mono ?_);rintro e w1 ⟨rfl,hb⟩
  have F:=(below1 w _).trans (hb.mono (by simp))
  clear hb
  go_wp2_with fail
  go_ret
  exact ⟨by rw [H.out];rfl,F⟩
 ·have HT:=Lib.hid hT
  by_cases h0:k < 0
  ·have H:=Lib.hid ((HD.out false (by rw [HK.out,hT,decide_eq_false (by omega)];rfl)).trans (if_neg (by decide)))
   have e0:decide (k < 0)=true:=decide_eq_true h0
   clear hT
   go_enter Tryz.func44,Tryz.ntmps44
   go_wp2_with fail
   (with_reducible refine (refFine_yes l d c r _ HT hl hd hc hr).mono ?_);rintro e w1 ⟨rfl,hb⟩
   have F:=(below1 w _).trans (hb.mono (by simp))
   clear hb
   go_wp2_with fail
   go_ret
   exact ⟨by rw [H.out];rfl,F⟩
  ·have e0:decide (k < 0)=false:=decide_eq_false h0
   obtain ⟨hg,h00,h11⟩:=plOk_yes HT.out
   have hb6:=gOk_bd hg
   have hw:=gWid_bd l d c
   by_cases h1:gWid l d c ≤ k
   ·have H:=Lib.hid ((HD.out false (by rw [HK.out,hT,decide_eq_false (by omega)];rfl)).trans (if_neg (by decide)))
    generalize gWid l d c=wd at HW hw h1
    have e1:decide (wd ≤ k)=true:=decide_eq_true h1
    clear hT hg h00 h11 HK HD
    go_enter Tryz.func44,Tryz.ntmps44
    go_wp2_with fail
    (with_reducible refine (refFine_yes l d c r _ HT hl hd hc hr).mono ?_);rintro e w1 ⟨rfl,hb⟩
    have S1:=GS.later (w0:=w) (B:=w.heap.size) ⟨G.1,G.2.1,G.2.2,below1 w _⟩ hb
    clear hb G
    obtain ⟨g1,g2,g3,F⟩:=S1
    go_wp2_with fail
    (with_reducible refine (HW.out _).mono ?_);rintro e w2 ⟨rfl,hb⟩
    have S2:=GS.later (w0:=w) (B:=w.heap.size) ⟨g1,g2,g3,F⟩ hb
    clear hb g1 g2 g3 F
    go_wp2_with fail
    go_ret
    exact ⟨by rw [H.out];rfl,S2.2.2.2⟩
   ·have H0:=(HD.out true (by rw [HK.out,hT,decide_eq_true (by omega)];rfl)).trans (if_pos rfl)
    have H:Hid (plD l d c r k=(plP l d c r + gBud l d c + k) % d):=by rw [H0,plP_yes hT,gBud_yes hg];unfold plF;exact Int.emod_add_emod _ _ _
    have hm:=rem_bd (r / c) (show 1 ≤ d by omega)
    have hp:0 ≤ plP l d c r∧plP l d c r < d:=by rw [plP_yes hT];omega
    have hbd:=gBud_bd l d c
    have HP:=Lib.hid (fun W=>refParity_any l d c r W hl hd hc hr)
    have HB:=Lib.hid (fun W=>refBudget_any l d c W hl hd hc)
    clear H0 hm
    generalize gWid l d c=wd at HW hw h1
    generalize plP l d c r=p at HP hp H
    generalize plQ l d c r=q at HP
    generalize gBud l d c=bd at HB hbd H
    have e1:decide (wd ≤ k)=false:=decide_eq_false h1
    have n1:¬ d=0:=by omega
    have z1:IntKind.i64.wrap (p + bd)=p + bd:=IntWalk.i64_in _ (by omega)
    have z2:IntKind.i64.wrap (p + bd + k)=p + bd + k:=IntWalk.i64_in _ (by omega)
    clear hT hg h00 h11 HK HD
    go_enter Tryz.func44,Tryz.ntmps44
    go_wp2_with fail
    (with_reducible refine (refFine_yes l d c r _ HT hl hd hc hr).mono ?_);rintro e w1 ⟨rfl,hb⟩
    have S1:=GS.later (w0:=w) (B:=w.heap.size) ⟨G.1,G.2.1,G.2.2,below1 w _⟩ hb
    clear hb G
    obtain ⟨g1,g2,g3,F⟩:=S1
    go_wp2_with fail
    (with_reducible refine (HW.out _).mono ?_);rintro e w2 ⟨rfl,hb⟩
    have S2:=GS.later (w0:=w) (B:=w.heap.size) ⟨g1,g2,g3,F⟩ hb
    clear hb g1 g2 g3 F
    obtain ⟨g1,g2,g3,F⟩:=S2
    go_wp2_with fail
    (with_reducible refine (HP.out _).mono ?_);rintro e w3 ⟨rfl,hb⟩
    have S0:=GS.later (w0:=w) (B:=w.heap.size) ⟨g1,g2,g3,F⟩ hb
    clear hb g1 g2 g3 F
    obtain ⟨g1,g2,g3,F⟩:=S0
    go_wp2_with fail
    have S0:GS w w.heap.size w.heap.size l d c w3:=⟨g1,g2,g3,F⟩
    clear g1 g2 g3 F
    go_region_held3 (GS w w.heap.size w.heap.size l d c)
     (first | assumption | exact GS.drew ‹_›)
     ((go_at_call 55;(with_reducible refine (HB.out _).mono ?_);rintro e w4 ⟨rfl,hb⟩;have S4:=(GS.drew S0).later hb))
    go_wp2
    go_ret
    exact ⟨by rw [H.out,← Int.tmod_eq_emod_of_nonneg (show 0 ≤ p + bd + k by omega)];rfl,S4.2.2.2⟩
end Go.Proofs.YtldfoadildaljaaGreat
end
section
set_option linter.unusedVariables false
set_option linter.unusedSimpArgs false
namespace Go.Proofs.YtldfoadildaljaaGreat
open Go.RowKit
end Go.Proofs.YtldfoadildaljaaGreat
end
