/- Texts put together: Place, PlaceDisk, GfAid, RefGf. -/
import Derived.Test.YtldfoadildaljaaGreatWmaa
section
set_option linter.unusedVariables false
set_option linter.unusedSimpArgs false
namespace Go.Proofs.YtldfoadildaljaaGreat
open Go.RowKit
theorem there_any (l d c r:Int) (w:World) (hl:(-9223372036854775808 ≤ l∧l ≤ 9223372036854775807)) (hd:(-9223372036854775808 ≤ d∧d ≤ 9223372036854775807)) (hc:(-9223372036854775808 ≤ c∧c ≤ 9223372036854775807)) (hr:(-9223372036854775808 ≤ r∧r ≤ 9223372036854775807)) :
    Calls Tryz.prog 94 #[.agg #[.int .i64 l,.int .i64 d,.int .i64 c],.int .i64 r] w fun e w'=>e=.returned (.bool (plOk l d c r))∧Below w.heap.size w w':=by
 have G:=gat_new w l d c 25 (0,0)
 cases hG:gOk l d c
 ·have H:Hid (plOk l d c r=false):=plOk_no (by rw [hG];simp)
  have HG:=Lib.hid hG
  clear hG
  go_enter Tryz.func94,Tryz.ntmps94
  go_wp2_with fail
  (with_reducible refine (check_no l d c _ HG hl hd hc).mono ?_);rintro e w1 ⟨rfl,hb⟩
  have F:=(below1 w _).trans (hb.mono (by simp))
  clear hb
  go_wp2_with fail
  go_ret
  exact ⟨by rw [H.out];rfl,F⟩
 ·have HG:=Lib.hid hG
  by_cases h0:0 ≤ r
  ·have e0:decide (0 ≤ r)=true:=decide_eq_true h0
   by_cases h1:r < 16
   ·have e1:decide (r < 16)=true:=decide_eq_true h1
    have H:Hid (plOk l d c r=true):=plOk_mk hG h0 h1
    clear hG
    go_enter Tryz.func94,Tryz.ntmps94
    go_wp2_with fail
    (with_reducible refine (check_yes l d c _ HG hl hd hc).mono ?_);rintro e w1 ⟨rfl,hb⟩
    have F:=(below1 w _).trans (hb.mono (by simp))
    clear hb
    go_wp2_with fail
    go_ret
    exact ⟨by rw [H.out];rfl,F⟩
   ·have e1:decide (r < 16)=false:=decide_eq_false h1
    have H:Hid (plOk l d c r=false):=plOk_no (by omega)
    clear hG
    go_enter Tryz.func94,Tryz.ntmps94
    go_wp2_with fail
    (with_reducible refine (check_yes l d c _ HG hl hd hc).mono ?_);rintro e w1 ⟨rfl,hb⟩
    have F:=(below1 w _).trans (hb.mono (by simp))
    clear hb
    go_wp2_with fail
    go_ret
    exact ⟨by rw [H.out];rfl,F⟩
  ·have e0:decide (0 ≤ r)=false:=decide_eq_false h0
   have H:Hid (plOk l d c r=false):=plOk_no (by omega)
   clear hG
   go_enter Tryz.func94,Tryz.ntmps94
   go_wp2_with fail
   (with_reducible refine (check_yes l d c _ HG hl hd hc).mono ?_);rintro e w1 ⟨rfl,hb⟩
   have F:=(below1 w _).trans (hb.mono (by simp))
   clear hb
   go_wp2_with fail
   go_ret
   exact ⟨by rw [H.out];rfl,F⟩
theorem there_yes (l d c r:Int) (w:World) (h:Hid (plOk l d c r=true)) (hl:(-9223372036854775808 ≤ l∧l ≤ 9223372036854775807)) (hd:(-9223372036854775808 ≤ d∧d ≤ 9223372036854775807)) (hc:(-9223372036854775808 ≤ c∧c ≤ 9223372036854775807)) (hr:(-9223372036854775808 ≤ r∧r ≤ 9223372036854775807)) :
    Calls Tryz.prog 94 #[.agg #[.int .i64 l,.int .i64 d,.int .i64 c],.int .i64 r] w fun e w'=>e=.returned (.bool true)∧Below w.heap.size w w':=by
 have:=there_any l d c r w hl hd hc hr
 rwa [h.out] at this
theorem there_no (l d c r:Int) (w:World) (h:Hid (plOk l d c r=false)) (hl:(-9223372036854775808 ≤ l∧l ≤ 9223372036854775807)) (hd:(-9223372036854775808 ≤ d∧d ≤ 9223372036854775807)) (hc:(-9223372036854775808 ≤ c∧c ≤ 9223372036854775807)) (hr:(-9223372036854775808 ≤ r∧r ≤ 9223372036854775807)) :
    Calls Tryz.prog 94 #[.agg #[.int .i64 l,.int .i64 d,.int .i64 c],.int .i64 r] w fun e w'=>e=.returned (.bool false)∧Below w.heap.size w w':=by
 have:=there_any l d c r w hl hd hc hr
 rwa [h.out] at this
theorem parity_any (l d c r:Int) (w:World) (hl:(-9223372036854775808 ≤ l∧l ≤ 9223372036854775807)) (hd:(-9223372036854775808 ≤ d∧d ≤ 9223372036854775807)) (hc:(-9223372036854775808 ≤ c∧c ≤ 9223372036854775807)) (hr:(-9223372036854775808 ≤ r∧r ≤ 9223372036854775807)) :
    Calls Tryz.prog 83 #[.agg #[.int .i64 l,.int .i64 d,.int .i64 c],.int .i64 r] w fun e w'=>e=.returned (.tuple #[.int .i64 (plP l d c r),.int .i64 (plQ l d c r)])∧Below w.heap.size w w':=by
 have G:=gat_new w l d c 25 (0,0)
 cases hT:plOk l d c r
 ·have HP:=Lib.hid (plP_no hT)
  have HQ:=Lib.hid (plQ_no hT)
  have HT:=Lib.hid hT
  clear hT
  go_enter Tryz.func83,Tryz.ntmps83
  go_wp2_with fail
  (with_reducible refine (there_no l d c r _ HT hl hd hc hr).mono ?_);rintro e w1 ⟨rfl,hb⟩
  have F:=(below1 w _).trans (hb.mono (by simp))
  clear hb
  go_wp2_with fail
  go_ret2
  exact ⟨by rw [HP.out,HQ.out];rfl,F⟩
 ·have HT:=Lib.hid hT
  obtain ⟨hg,h0,h1⟩:=plOk_yes hT
  have hb6:=gOk_bd hg
  have hq:=quo_bd 16 h0 h1 (show 1 ≤ c by omega)
  have hm:=rem_bd (r / c) (show 1 ≤ d by omega)
  have HP:=Lib.hid (plP_yes hT)
  by_cases h6:l=6
  ·subst h6
   have HQ:=Lib.hid (plQ_6 hT)
   clear hT hg
   go_enter Tryz.func83,Tryz.ntmps83
   go_wp2_with fail
   (with_reducible refine (there_yes 6 d c r _ HT hl hd hc hr).mono ?_);rintro e w1 ⟨rfl,hb⟩
   have F:=(below1 w _).trans (hb.mono (by simp))
   obtain ⟨g1,g2,g3⟩:=G.below hb (by simp)
   clear hb
   go_wp2_with fail
   go_quiet (fail)
   go_wp2_with fail
   go_quiet (fail)
   go_wp2
   go_ret2
   exact ⟨by rw [HP.out,HQ.out];rfl,(F.trans (belowN _ _ _)).trans (belowN _ _ _)⟩
  ·obtain rfl:l=5:=by omega
   have HQ:=Lib.hid (@plQ_5 d c r)
   clear hT hg h6
   go_enter Tryz.func83,Tryz.ntmps83
   go_wp2_with fail
   (with_reducible refine (there_yes 5 d c r _ HT hl hd hc hr).mono ?_);rintro e w1 ⟨rfl,hb⟩
   have F:=(below1 w _).trans (hb.mono (by simp))
   obtain ⟨g1,g2,g3⟩:=G.below hb (by simp)
   clear hb
   go_wp2_with fail
   go_quiet (fail)
   go_wp2
   go_ret2
   exact ⟨by rw [HP.out,HQ.out];rfl,F.trans (belowN _ _ _)⟩
end Go.Proofs.YtldfoadildaljaaGreat
end
section
set_option linter.unusedVariables false
set_option linter.unusedSimpArgs false
namespace Go.Proofs.YtldfoadildaljaaGreat
open Go.RowKit
theorem first_any (l d c r:Int) (w:World) (HT:Hid (plOk l d c r=true)) (hl:(-9223372036854775808 ≤ l∧l ≤ 9223372036854775807)) (hd:(-9223372036854775808 ≤ d∧d ≤ 9223372036854775807)) (hc:(-9223372036854775808 ≤ c∧c ≤ 9223372036854775807)) (hr:(-9223372036854775808 ≤ r∧r ≤ 9223372036854775807)) :
    Calls Tryz.prog 103 #[.agg #[.int .i64 l,.int .i64 d,.int .i64 c],.int .i64 r] w fun e w'=>e=.returned (.int .i64 (plF l d c r))∧Below w.heap.size w w':=by
 have G:=gat_new w l d c 25 (0,0)
 obtain ⟨hg,h0,h1⟩:=plOk_yes HT.out
 have hb6:=gOk_bd hg
 have n1:¬ d=0:=by omega
 have n2:¬ c=0:=by omega
 have hq:=quo_bd 16 h0 h1 (show 1 ≤ c by omega)
 have hm:=rem_bd (r / c) (show 1 ≤ d by omega)
 have HC:=Lib.hid (fun W=>parity_any l d c r W hl hd hc hr)
 have HB:=Lib.hid (fun W=>budget_any l d c W hl hd hc)
 have HF:Hid (plF l d c r=(plP l d c r + gBud l d c) % d):=by rw [plP_yes HT.out,gBud_yes hg];rfl
 have hp:0 ≤ plP l d c r∧plP l d c r < d:=by rw [plP_yes HT.out];omega
 have hbd:=gBud_bd l d c
 generalize plP l d c r=p at HC HF hp
 generalize plQ l d c r=q at HC
 generalize gBud l d c=bd at HB HF hbd
 have z1:IntKind.i64.wrap (p + bd)=p + bd:=IntWalk.i64_in _ (by omega)
 clear hg hq hm h0 h1
 go_enter Tryz.func103,Tryz.ntmps103
 go_wp2_with fail
 (with_reducible refine (HC.out _).mono ?_);rintro e w1 ⟨rfl,hb⟩
 have S1:=GS.later (w0:=w) (B:=w.heap.size) ⟨G.1,G.2.1,G.2.2,below1 w _⟩ hb
 clear hb G
 obtain ⟨g1,g2,g3,F⟩:=S1
 go_wp2_with fail
 have S0:GS w w.heap.size w.heap.size l d c w1:=⟨g1,g2,g3,F⟩
 clear g1 g2 g3 F
 go_region_held3 (GS w w.heap.size w.heap.size l d c)
  (first | assumption | exact GS.drew ‹_›)
  ((go_at_call 99;(with_reducible refine (HB.out _).mono ?_);rintro e w2 ⟨rfl,hb⟩;have S2:=(GS.drew S0).later hb))
 go_wp2
 go_ret
 exact ⟨by rw [HF.out,← Int.tmod_eq_emod_of_nonneg (show 0 ≤ p + bd by omega)];rfl,S2.2.2.2⟩
theorem number_any (l d c r k:Int) (w:World) (HT:Hid (plOk l d c r=true)) (hk:0 ≤ k∧k < 8) (hl:(-9223372036854775808 ≤ l∧l ≤ 9223372036854775807)) (hd:(-9223372036854775808 ≤ d∧d ≤ 9223372036854775807)) (hc:(-9223372036854775808 ≤ c∧c ≤ 9223372036854775807)) (hr:(-9223372036854775808 ≤ r∧r ≤ 9223372036854775807)) :
    Calls Tryz.prog 95 #[.agg #[.int .i64 l,.int .i64 d,.int .i64 c],.int .i64 r,.int .i64 k] w fun e w'=>e=.returned (.int .i64 (plN l d c r k))∧Below w.heap.size w w':=by
 have G:=gat_new w l d c 25 (0,0)
 obtain ⟨hg,h0,h1⟩:=plOk_yes HT.out
 have hb6:=gOk_bd hg
 have n1:¬ d=0:=by omega
 have n2:¬ c=0:=by omega
 have hq:=quo_bd 16 h0 h1 (show 1 ≤ c by omega)
 have hm:=rem_bd r (show 1 ≤ c by omega)
 have HW:=Lib.hid (fun W=>width_any l d c W hl hd hc)
 have HN:Hid (plN l d c r k=(r / c * gWid l d c + k) * c + r % c):=by rw [gWid_yes hg];rfl
 have hw:=gWid_bd l d c
 generalize gWid l d c=wd at HW HN hw
 have hx:0 ≤ r / c * wd∧r / c * wd ≤ 112:=⟨Int.mul_nonneg hq.1 hw.1,by
  have:=Int.mul_le_mul (show r / c ≤ 16 by omega) hw.2 hw.1 (by omega)
  omega⟩
 have hy:0 ≤ (r / c * wd + k) * c∧(r / c * wd + k) * c ≤ 120 * 4:=⟨Int.mul_nonneg (by omega) (by omega),Int.mul_le_mul (by omega) (by omega) (by omega) (by omega)⟩
 have z1:IntKind.i64.wrap (r / c * wd)=r / c * wd:=IntWalk.i64_in _ (by omega)
 have z2:IntKind.i64.wrap (r / c * wd + k)=r / c * wd + k:=IntWalk.i64_in _ (by omega)
 have z3:r.tdiv c=r / c:=Int.tdiv_eq_ediv_of_nonneg h0
 clear hg
 go_enter Tryz.func95,Tryz.ntmps95
 go_wp2_with fail
 have S0:GS w w.heap.size w.heap.size l d c (w.alloc (.cells #[.int .i64 l,.int .i64 d,.int .i64 c] 25 (0,0))):=⟨G.1,G.2.1,G.2.2,below1 w _⟩
 clear G
 go_region_held3 (GS w w.heap.size w.heap.size l d c)
  (first | assumption | exact GS.drew ‹_›)
  ((go_at_call 78;(with_reducible refine (HW.out _).mono ?_);rintro e w2 ⟨rfl,hb⟩;have S2:=(GS.drew S0).later hb))
 obtain ⟨g1,g2,g3,F⟩:=S2
 go_wp2_with fail
 go_quiet (fail)
 go_wp2
 go_ret
 exact ⟨by rw [HN.out];rfl,F.trans (belowN _ _ _)⟩
theorem disk_any (l d c r k:Int) (w:World) (hl:(-9223372036854775808 ≤ l∧l ≤ 9223372036854775807)) (hd:(-9223372036854775808 ≤ d∧d ≤ 9223372036854775807)) (hc:(-9223372036854775808 ≤ c∧c ≤ 9223372036854775807)) (hr:(-9223372036854775808 ≤ r∧r ≤ 9223372036854775807)) (hk:(-9223372036854775808 ≤ k∧k ≤ 9223372036854775807)) :
    Calls Tryz.prog 85 #[.agg #[.int .i64 l,.int .i64 d,.int .i64 c],.int .i64 r,.int .i64 k] w fun e w'=>e=.returned (.int .i64 (plD l d c r k))∧Below w.heap.size w w':=by
 have G:=gat_new w l d c 25 (0,0)
 have HD:Hid (∀ b,plDok l d c r k=b→plD l d c r k=if b=true then (plF l d c r + k) % d else -1):=Lib.hid (fun b h=>by subst h;rfl)
 have HW:=Lib.hid (fun W=>width_any l d c W hl hd hc)
 have HK:Hid (plDok l d c r k=(plOk l d c r && decide (0 ≤ k∧k < gWid l d c))):=rfl
 cases hT:plOk l d c r
 ·have H:=Lib.hid (HD.out false (by rw [HK.out,hT];rfl))
  have HT:=Lib.hid hT
  clear hT
  go_enter Tryz.func85,Tryz.ntmps85
  go_wp2_with fail
  (with_reducible refine (there_no l d c r _ HT hl hd hc hr).mono ?_);rintro e w1 ⟨rfl,hb⟩
  have F:=(below1 w _).trans (hb.mono (by simp))
  clear hb
  go_wp2_with fail
  go_ret
  exact ⟨by rw [H.out];rfl,F⟩
 ·have HT:=Lib.hid hT
  by_cases h0:k < 0
  ·have H:=Lib.hid (HD.out false (by rw [HK.out,hT,decide_eq_false (by omega)];rfl))
   have e0:decide (k < 0)=true:=decide_eq_true h0
   clear hT
   go_enter Tryz.func85,Tryz.ntmps85
   go_wp2_with fail
   (with_reducible refine (there_yes l d c r _ HT hl hd hc hr).mono ?_);rintro e w1 ⟨rfl,hb⟩
   have F:=(below1 w _).trans (hb.mono (by simp))
   clear hb
   go_wp2_with fail
   go_ret
   exact ⟨by rw [H.out];rfl,F⟩
  ·have e0:decide (k < 0)=false:=decide_eq_false h0
   obtain ⟨hg,h00,h11⟩:=plOk_yes HT.out
   have hb6:=gOk_bd hg
   have n1:¬ d=0:=by omega
   have hw:=gWid_bd l d c
   have hf:=plF_bd l c r (show 1 ≤ d by omega)
   have HF:=Lib.hid (fun W=>first_any l d c r W HT hl hd hc hr)
   by_cases h1:gWid l d c ≤ k
   ·have H:=Lib.hid (HD.out false (by rw [HK.out,hT,decide_eq_false (by omega)];rfl))
    generalize gWid l d c=wd at HW hw h1
    have e1:decide (wd ≤ k)=true:=decide_eq_true h1
    clear hT hg h00 h11 HK HD
    go_enter Tryz.func85,Tryz.ntmps85
    go_wp2_with fail
    (with_reducible refine (there_yes l d c r _ HT hl hd hc hr).mono ?_);rintro e w1 ⟨rfl,hb⟩
    have S1:=GS.later (w0:=w) (B:=w.heap.size) ⟨G.1,G.2.1,G.2.2,below1 w _⟩ hb
    clear hb G
    obtain ⟨g1,g2,g3,F⟩:=S1
    go_wp2_with fail
    (with_reducible refine (HW.out _).mono ?_);rintro e w2 ⟨rfl,hb⟩
    have S2:=GS.later (w0:=w) (B:=w.heap.size) ⟨g1,g2,g3,F⟩ hb
    clear hb g1 g2 g3 F
    go_wp2_with fail
    go_ret
    exact ⟨by rw [H.out];rfl,S2.2.2.2⟩
   ·have H:=Lib.hid ((HD.out true (by rw [HK.out,hT,decide_eq_true (by omega)];rfl)).trans (if_pos rfl))
    generalize gWid l d c=wd at HW hw h1
    generalize plF l d c r=f at HF hf H
    have e1:decide (wd ≤ k)=false:=decide_eq_false h1
    have z1:IntKind.i64.wrap (f + k)=f + k:=IntWalk.i64_in _ (by omega)
    clear hT hg h00 h11 HK HD
    go_enter Tryz.func85,Tryz.ntmps85
    go_wp2_with fail
    (with_reducible refine (there_yes l d c r _ HT hl hd hc hr).mono ?_);rintro e w1 ⟨rfl,hb⟩
    have S1:=GS.later (w0:=w) (B:=w.heap.size) ⟨G.1,G.2.1,G.2.2,below1 w _⟩ hb
    clear hb G
    obtain ⟨g1,g2,g3,F⟩:=S1
    go_wp2_with fail
    (with_reducible refine (HW.out _).mono ?_);rintro e w2 ⟨rfl,hb⟩
    have S2:=GS.later (w0:=w) (B:=w.heap.size) ⟨g1,g2,g3,F⟩ hb
    clear hb g1 g2 g3 F
    obtain ⟨g1,g2,g3,F⟩:=S2
    go_wp2_with fail
    have S0:GS w w.heap.size w.heap.size l d c w2:=⟨g1,g2,g3,F⟩
    clear g1 g2 g3 F
    go_region_held3 (GS w w.heap.size w.heap.size l d c)
     (first | assumption | exact GS.drew ‹_›)
     ((go_at_call 103;(with_reducible refine (HF.out _).mono ?_);rintro e w3 ⟨rfl,hb⟩;have S3:=(GS.drew S0).later hb))
    go_wp2
    go_ret
    exact ⟨by rw [H.out,← Int.tmod_eq_emod_of_nonneg (show 0 ≤ f + k by omega)];rfl,S3.2.2.2⟩
end Go.Proofs.YtldfoadildaljaaGreat
end
section
namespace Go.Proofs.YtldfoadildaljaaGreat
open Go.RowKit
theorem i64_xor_small (a b:Nat) (ha:a < 1024) (hb:b < 1024):bits .xor .i64 (a:Int) (b:Int)=((a ^^^ b:Nat):Int):=by
 have hx:a ^^^ b < 2 ^ 10:=Nat.xor_lt_two_pow (by omega) (by omega)
 have o:∀ n:Nat,n < 1024→(BitVec.ofInt 64 (n:Int)).toNat=n:=fun n hn=>by rw [BitVec.ofInt_natCast,BitVec.toNat_ofNat];exact Nat.mod_eq_of_lt (by omega)
 show IntKind.i64.wrap ((BitVec.ofInt 64 (a:Int) ^^^ BitVec.ofInt 64 (b:Int)).toNat:Int)=_
 rw [BitVec.toNat_xor,o a ha,o b hb]
 exact IntWalk.i64_in _ (by omega)
theorem xor285:∀ x:Nat,x < 256→¬ x < 128→(2 * x) ^^^ 285=dbl x:=by decide +kernel
end Go.Proofs.YtldfoadildaljaaGreat
end
section
namespace Go.Proofs.YtldfoadildaljaaGreat
open Go.RowKit
theorem mulF_more (k b:Nat) (h:k < 8) (s x:Nat):mulF (8 - k) s x (b / 2 ^ k)=mulF (8 - (k + 1)) (if b / 2 ^ k % 2=1 then s ^^^ x else s) (dbl x) (b / 2 ^ (k + 1)):=by
 rw [show 8 - k=(8 - (k + 1)) + 1 from by omega,mulF_step,Nat.div_div_eq_div_mul,← Nat.pow_succ]
theorem bit_any (b k:Nat) (hb:b < 256):bits .and .u8 ((b:Int) / 2 ^ k) 1=((b / 2 ^ k % 2:Nat):Int):=by
 have hlt:b / 2 ^ k < 256:=Nat.lt_of_le_of_lt (Nat.div_le_self _ _) hb
 have:=u8_and_nat (b / 2 ^ k) 1 hlt (by decide)
 rw [nat_mask1] at this
 rw [← this]
 simp
theorem refMul_any (a b:Nat) (ha:a < 256) (hb:b < 256) (w:World):Calls Tryz.prog 72 #[.int .u8 (a:Int),.int .u8 (b:Int)] w fun e w'=>e=.returned (.int .u8 ((gmul a b:Nat):Int))∧w'=w:=by
 go_enter Tryz.func72,Tryz.ntmps72
 go_wp2
 go_loop [5,6,7] (fun vx vs vk=>∃ k s x:Nat,k ≤ 8∧s < 256∧x < 256∧vx=.int .i64 (x:Int)∧vs=.int .i64 (s:Int)∧vk=.int .i64 (k:Int)∧Hid (mulF (8 - k) s x (b / 2 ^ k)=gmul a b)) (fun _ _ vk=>8 - (intOf vk).toNat)
 case atStart=>exact ⟨0,0,a,by omega,by decide,ha,rfl,rfl,rfl,(by rw [Nat.pow_zero,Nat.div_one];rfl:mulF (8 - 0) 0 a (b / 2 ^ 0)=gmul a b)⟩
 case round =>
  obtain ⟨k,s,x,hk,hs,hx,rfl,rfl,rfl,Hm⟩:=hrel
  by_cases h8:k < 8
  ·have hdx:=dbl_lt x hx
   have hxl:=xor_lt8 hs hx
   have ex:=i64_xor_small s x (by omega) (by omega)
   have e0:=bit_any b k hb
   have Hk:=Lib.hid ((mulF_more k b h8 s x).symm.trans Hm.out)
   clear Hm
   by_cases hbit:b / 2 ^ k % 2=1
   ·rw [hbit,show ((1:Nat):Int)=1 from rfl] at e0
    have Hr:Hid (mulF (8 - (k + 1)) (s ^^^ x) (dbl x) (b / 2 ^ (k + 1))=gmul a b):=by have:=Hk.out;rw [if_pos hbit] at this;exact this
    clear Hk hbit
    by_cases h:x < 128
    ·have Hd:Hid (dbl x=2 * x):=if_pos h
     go_wp2
     go_round
     case rel=>exact ⟨k + 1,(s ^^^ x),dbl x,by omega,by assumption,hdx,by rw [Hd.out];go_num,rfl,by go_num,Hr⟩
     case measure=>simp [intOf];omega
    ·have e1:=i64_xor_small (2 * x) 285 (by omega) (by omega)
     have e2:((2 * x:Nat):Int)=(x:Int) * 2:=by omega
     rw [e2,xor285 x hx h,show ((285:Nat):Int)=285 from rfl] at e1
     clear e2
     go_wp2
     go_round
     case rel=>exact ⟨k + 1,(s ^^^ x),dbl x,by omega,by assumption,hdx,rfl,rfl,by go_num,Hr⟩
     case measure=>simp [intOf];omega
   ·rw [show b / 2 ^ k % 2=0 from by omega,show ((0:Nat):Int)=0 from rfl] at e0
    have Hr:Hid (mulF (8 - (k + 1)) s (dbl x) (b / 2 ^ (k + 1))=gmul a b):=by have:=Hk.out;rw [if_neg hbit] at this;exact this
    clear Hk hbit
    by_cases h:x < 128
    ·have Hd:Hid (dbl x=2 * x):=if_pos h
     go_wp2
     go_round
     case rel=>exact ⟨k + 1,s,dbl x,by omega,by assumption,hdx,by rw [Hd.out];go_num,rfl,by go_num,Hr⟩
     case measure=>simp [intOf];omega
    ·have e1:=i64_xor_small (2 * x) 285 (by omega) (by omega)
     have e2:((2 * x:Nat):Int)=(x:Int) * 2:=by omega
     rw [e2,xor285 x hx h,show ((285:Nat):Int)=285 from rfl] at e1
     clear e2
     go_wp2
     go_round
     case rel=>exact ⟨k + 1,s,dbl x,by omega,by assumption,hdx,rfl,rfl,by go_num,Hr⟩
     case measure=>simp [intOf];omega
  ·obtain rfl:k=8:=by omega
   have Hr:Hid (s=gmul a b):=Hm.out
   clear Hm
   go_wp2
   go_ret
   exact ⟨ret_int (congrArg Nat.cast Hr.out),rfl⟩
end Go.Proofs.YtldfoadildaljaaGreat
end
