/- Texts put together: GeoMath, PlaceMath, GfMath, SyndMath, Mem, OpsKit, DskMath, Own, Take, Bools, Within0, Gf, Law, Geo, Sub, CrcMath, CrcFind, Feed. -/
import Derived.WalkKit
import Derived.Lib.Hide
import Derived.Lib.SlBytesConst
import Derived.Deep.OwnRows
import Derived.Deep.DeepCutAuto
import Derived.Deep.RegionHeld3
import Derived.Deep.QuietTactic
import Derived.BigQuiet
import Derived.Handy
import Derived.Deep.Light
import Derived.Lib.ItoaWalk
import Derived.Test.YtldfoadildaljaaGreatProg
import Derived.Maps.AppendAt
import Derived.Laws.AppendOwnNone
import Derived.Deep.AppendLies
import Derived.Laws.CopyOwn
import Derived.StillTail
import Derived.OrdersHeld
import Derived.Deep.MidRow
import Derived.Laws.BitsAllLaws
import Derived.Deep.DeepFit
import Derived.ProofKit
import Derived.OpenShut
import Derived.Carry
import Derived.SizedLaws
import GoSem.ClaimSeven
import Derived.Deep.DeepHandedRow
import Derived.Lib.LaidTab
import Derived.Deep.LoopGhost
import Derived.Deep.CutBlock
section
namespace Go.Proofs.YtldfoadildaljaaGreat
def lvB (l d:Int):Bool:=decide (((l=5∧3 ≤ d)∨(l=6∧4 ≤ d))∧d ≤ 8)
def chB (c:Int):Bool:=decide (c=1∨c=2∨c=4)
def gOk (l d c:Int):Bool:=lvB l d && chB c
def gBud (l d c:Int):Int:=if gOk l d c=true then l - 4 else 0
def gWid (l d c:Int):Int:=if gOk l d c=true then d - (l - 4) else 0
def gCap (l d c:Int):Int:=gWid l d c * 16
def gEq (l d c l' d' c':Int):Bool:=decide (l=l'∧d=d'∧c=c')
def gGe (l d c l' d' c':Int):Bool:=decide (d ≤ d'∧l ≤ l'∧gWid l d c ≤ gWid l' d' c')
def gCan (l d c l' d' c':Int):Bool:=gOk l d c && gOk l' d' c' && !gEq l d c l' d' c' && gGe l d c l' d' c'
def gErr (l d c:Int):Int:=if gOk l d c=true then 0 else 1
theorem gErr_yes {l d c:Int} (h:gOk l d c=true):gErr l d c=0:=if_pos h
theorem gErr_no {l d c:Int} (h:gOk l d c=false):gErr l d c=1:=if_neg (by rw [h];decide)
theorem lvB_no {l d:Int} (h:¬ (((l=5∧3 ≤ d)∨(l=6∧4 ≤ d))∧d ≤ 8)):lvB l d=false:=decide_eq_false h
theorem lvB_5 {d:Int} (h:¬ 8 < d):lvB 5 d=decide (3 ≤ d):=by simp [lvB];omega
theorem lvB_6 {d:Int} (h:¬ 8 < d):lvB 6 d=decide (4 ≤ d):=by simp [lvB];omega
theorem chB_no {c:Int} (h:¬ (c=1∨c=2∨c=4)):chB c=false:=decide_eq_false h
theorem chB_yes {c:Int} (h:c=1∨c=2∨c=4):chB c=true:=decide_eq_true h
theorem gGe_eq (l d c l' d' c':Int):gGe l d c l' d' c'=decide (d ≤ d'∧l ≤ l'∧gWid l d c ≤ gWid l' d' c'):=rfl
theorem gOk_yes {l d c:Int} (h:gOk l d c=true):((l=5∧3 ≤ d)∨(l=6∧4 ≤ d))∧d ≤ 8∧(c=1∨c=2∨c=4):=by
 simp [gOk,lvB,chB] at h
 omega
theorem gOk_mk {l d c:Int} (h:((l=5∧3 ≤ d)∨(l=6∧4 ≤ d))∧d ≤ 8∧(c=1∨c=2∨c=4)):gOk l d c=true:=by
 simp [gOk,lvB,chB]
 omega
theorem gOk_no {l d c:Int} (h:¬ (((l=5∧3 ≤ d)∨(l=6∧4 ≤ d))∧d ≤ 8∧(c=1∨c=2∨c=4))):gOk l d c=false:=by
 rw [← Bool.not_eq_true];intro h';exact h (gOk_yes h')
theorem gOk_bd {l d c:Int} (h:gOk l d c=true):5 ≤ l∧l ≤ 6∧3 ≤ d∧d ≤ 8∧1 ≤ c∧c ≤ 4:=by
 have:=gOk_yes h
 omega
theorem gBud_yes {l d c:Int} (h:gOk l d c=true):gBud l d c=l - 4:=if_pos h
theorem gBud_no {l d c:Int} (h:gOk l d c=false):gBud l d c=0:=if_neg (by rw [h];decide)
theorem gWid_yes {l d c:Int} (h:gOk l d c=true):gWid l d c=d - (l - 4):=if_pos h
theorem gWid_no {l d c:Int} (h:gOk l d c=false):gWid l d c=0:=if_neg (by rw [h];decide)
theorem gBud_bd (l d c:Int):0 ≤ gBud l d c∧gBud l d c ≤ 2:=by
 cases h:gOk l d c
 ·rw [gBud_no h];omega
 ·have:=gOk_bd h;rw [gBud_yes h];omega
theorem gWid_bd (l d c:Int):0 ≤ gWid l d c∧gWid l d c ≤ 7:=by
 cases h:gOk l d c
 ·rw [gWid_no h];omega
 ·have:=gOk_yes h;rw [gWid_yes h];omega
theorem gEq_yes {l d c l' d' c':Int} (h:gEq l d c l' d' c'=true):l=l'∧d=d'∧c=c':=by simpa [gEq] using h
theorem gEq_no {l d c l' d' c':Int} (h:gEq l d c l' d' c'=false):¬ (l=l'∧d=d'∧c=c'):=by simpa [gEq] using h
theorem gCan_parts {l d c l' d' c':Int} (h:gCan l d c l' d' c'=true):gOk l d c=true∧gOk l' d' c'=true∧gEq l d c l' d' c'=false∧d ≤ d'∧l ≤ l'∧gWid l d c ≤ gWid l' d' c':=by
 simp [gCan,gGe] at h
 exact ⟨h.1.1.1,h.1.1.2,h.1.2,h.2.1,h.2.2.1,h.2.2.2⟩
theorem gCan_mk {l d c l' d' c':Int} (h:gOk l d c=true∧gOk l' d' c'=true∧gEq l d c l' d' c'=false∧d ≤ d'∧l ≤ l'∧gWid l d c ≤ gWid l' d' c'):gCan l d c l' d' c'=true:=by
 simp [gCan,gGe]
 exact ⟨⟨⟨h.1,h.2.1⟩,h.2.2.1⟩,h.2.2.2.1,h.2.2.2.2.1,h.2.2.2.2.2⟩
theorem gCan_ok {l d c l' d' c':Int} (h:gOk l d c=true) (h':gOk l' d' c'=true) (hn:gEq l d c l' d' c'=false):gCan l d c l' d' c'=gGe l d c l' d' c':=by
 simp [gCan,h,h',hn]
end Go.Proofs.YtldfoadildaljaaGreat
end
section
namespace Go.Proofs.YtldfoadildaljaaGreat
def plOk (l d c r:Int):Bool:=gOk l d c && decide (0 ≤ r∧r < 16)
def plP (l d c r:Int):Int:=if plOk l d c r=true then d - 1 - r / c % d else -1
def plQ (l d c r:Int):Int:=if plOk l d c r=true then (if l=6 then (d - 1 - r / c % d + 1) % d else -1) else -1
def plF (l d c r:Int):Int:=(d - 1 - r / c % d + (l - 4)) % d
def plDok (l d c r k:Int):Bool:=plOk l d c r && decide (0 ≤ k∧k < gWid l d c)
def plD (l d c r k:Int):Int:=if plDok l d c r k=true then (plF l d c r + k) % d else -1
def plOfOk (l d c n:Int):Bool:=decide (0 ≤ n∧n < gCap l d c)
def plRow (l d c n:Int):Int:=n / c / (d - (l - 4)) * c + n % c
def plOfD (l d c n:Int):Int:=if plOfOk l d c n=true then plD l d c (plRow l d c n) (n / c % (d - (l - 4))) else 0
def plOfR (l d c n:Int):Int:=if plOfOk l d c n=true then plRow l d c n else 0
def plN (l d c r k:Int):Int:=(r / c * (d - (l - 4)) + k) * c + r % c
def plNums (l d c r:Int):List Int:=if plOk l d c r=true then (List.range (d - (l - 4)).toNat).map (fun k:Nat=>plN l d c r (k:Int)) else []
def plBOk (l d c i r:Int):Bool:=plOk l d c r && decide (0 ≤ i∧i < d)
def plBk (l d c i r:Int):Int:=if plBOk l d c i r=true then (if i=plP l d c r then 1 else if i=plQ l d c r then 2 else 0) else 0
def plK (l d c i r:Int):Int:=(i - plF l d c r + d) % d
def plBn (l d c i r:Int):Int:=if plBOk l d c i r=true then (if i=plP l d c r then 0 else if i=plQ l d c r then 0 else plN l d c r (plK l d c i r)) else 0
theorem plOk_yes {l d c r:Int} (h:plOk l d c r=true):gOk l d c=true∧0 ≤ r∧r < 16:=by
 simp [plOk] at h
 exact h
theorem plOk_mk {l d c r:Int} (h:gOk l d c=true) (h0:0 ≤ r) (h1:r < 16):plOk l d c r=true:=by
 simp [plOk,h,h0,h1]
theorem plOk_no {l d c r:Int} (h:¬ (gOk l d c=true∧0 ≤ r∧r < 16)):plOk l d c r=false:=by
 rw [← Bool.not_eq_true];intro h';exact h (plOk_yes h')
theorem plDok_yes {l d c r k:Int} (h:plDok l d c r k=true):plOk l d c r=true∧0 ≤ k∧k < gWid l d c:=by
 simp [plDok] at h
 exact h
theorem plOfOk_yes {l d c n:Int} (h:plOfOk l d c n=true):0 ≤ n∧n < gCap l d c:=by
 simpa [plOfOk] using h
theorem plOfOk_no {l d c n:Int} (h:¬ (0 ≤ n∧n < gCap l d c)):plOfOk l d c n=false:=by
 rw [← Bool.not_eq_true];intro h';exact h (plOfOk_yes h')
theorem plP_yes {l d c r:Int} (h:plOk l d c r=true):plP l d c r=d - 1 - r / c % d:=if_pos h
theorem plP_no {l d c r:Int} (h:plOk l d c r=false):plP l d c r=-1:=if_neg (by rw [h];decide)
theorem plQ_6 {d c r:Int} (h:plOk 6 d c r=true):plQ 6 d c r=(d - 1 - r / c % d + 1) % d:=by rw [plQ,if_pos h,if_pos rfl]
theorem plQ_5 {d c r:Int}:plQ 5 d c r=-1:=by unfold plQ;split <;> simp
theorem plQ_no {l d c r:Int} (h:plOk l d c r=false):plQ l d c r=-1:=if_neg (by rw [h];decide)
theorem plD_yes {l d c r k:Int} (h:plDok l d c r k=true):plD l d c r k=(plF l d c r + k) % d:=if_pos h
theorem quo_bd {r c:Int} (n:Int) (h0:0 ≤ r) (h1:r < n) (hc:1 ≤ c):0 ≤ r / c∧r / c < n:=by
 have a:=Int.ediv_nonneg h0 (show 0 ≤ c by omega)
 have b:=Int.ediv_le_self c h0
 omega
theorem rem_bd (r:Int) {d:Int} (hd:1 ≤ d):0 ≤ r % d∧r % d < d:=⟨Int.emod_nonneg _ (by omega),Int.emod_lt_of_pos _ (by omega)⟩
theorem plF_bd (l c r:Int) {d:Int} (hd:1 ≤ d):0 ≤ plF l d c r∧plF l d c r < d:=rem_bd _ hd
theorem gCap_yes {l d c:Int} (h:gOk l d c=true):gCap l d c=(d - (l - 4)) * 16:=by rw [gCap,gWid_yes h]
theorem gCap_no {l d c:Int} (h:gOk l d c=false):gCap l d c=0:=by rw [gCap,gWid_no h];rfl
theorem gCap_bd (l d c:Int):0 ≤ gCap l d c∧gCap l d c ≤ 112:=by
 have:=gWid_bd l d c
 unfold gCap;omega
theorem plOfOk_ok {l d c n:Int} (h:plOfOk l d c n=true):gOk l d c=true:=by
 cases hg:gOk l d c
 ·have:=plOfOk_yes h
  rw [gCap_no hg] at this
  omega
 ·rfl
end Go.Proofs.YtldfoadildaljaaGreat
end
section
namespace Go.Proofs.YtldfoadildaljaaGreat
def gexpT:Array Nat:=#[1,2,4,8,16,32,64,128,29,58,116,232,205,135,19,38,76,152,45,90,180,117,234,201,143,3,6,12,24,48,96,192,157,39,78,156,37,74,148,53,106,212,181,119,238,193,159,35,70,140,5,10,20,40,80,160,93,186,105,210,185,111,222,161,95,190,97,194,153,47,94,188,101,202,137,15,30,60,120,240,253,231,211,187,107,214,177,127,254,225,223,163,91,182,113,226,217,175,67,134,17,34,68,136,13,26,52,104,208,189,103,206,129,31,62,124,248,237,199,147,59,118,236,197,151,51,102,204,133,23,46,92,184,109,218,169,79,158,33,66,132,21,42,84,168,77,154,41,82,164,85,170,73,146,57,114,228,213,183,115,230,209,191,99,198,145,63,126,252,229,215,179,123,246,241,255,227,219,171,75,150,49,98,196,149,55,110,220,165,87,174,65,130,25,50,100,200,141,7,14,28,56,112,224,221,167,83,166,81,162,89,178,121,242,249,239,195,155,43,86,172,69,138,9,18,36,72,144,61,122,244,245,247,243,251,235,203,139,11,22,44,88,176,125,250,233,207,131,27,54,108,216,173,71,142]
def glogT:Array Nat:=#[0,0,1,25,2,50,26,198,3,223,51,238,27,104,199,75,4,100,224,14,52,141,239,129,28,193,105,248,200,8,76,113,5,138,101,47,225,36,15,33,53,147,142,218,240,18,130,69,29,181,194,125,106,39,249,185,201,154,9,120,77,228,114,166,6,191,139,98,102,221,48,253,226,152,37,179,16,145,34,136,54,208,148,206,143,150,219,189,241,210,19,92,131,56,70,64,30,66,182,163,195,72,126,110,107,58,40,84,250,133,186,61,202,94,155,159,10,21,121,43,78,212,229,172,115,243,167,87,7,112,192,247,140,128,99,13,103,74,222,237,49,197,254,24,227,165,153,119,38,184,180,124,17,68,146,217,35,32,137,46,55,63,209,91,149,188,207,205,144,135,151,178,220,252,190,97,242,86,211,171,20,42,93,158,132,60,57,83,71,109,65,162,31,45,67,216,183,123,164,118,196,23,73,236,127,12,111,246,108,161,59,82,41,157,85,170,251,96,134,177,187,204,62,90,203,89,95,176,156,169,160,81,11,245,22,235,122,117,44,215,79,174,213,233,230,231,173,232,116,214,244,234,168,80,88,175]
def gE (i:Nat):Nat:=gexpT.getD (i % 255) 0
def gL (a:Nat):Nat:=glogT.getD a 0
def dbl (a:Nat):Nat:=if a < 128 then 2 * a else (2 * a - 256) ^^^ 29
def mulF:Nat→Nat→Nat→Nat→Nat
 | 0,s,_,_=>s
 | f + 1,s,x,y=>mulF f (if y % 2=1 then s ^^^ x else s) (dbl x) (y / 2)
def gmul (a b:Nat):Nat:=mulF 8 0 a b
def ginv (a:Nat):Nat:=if a=0 then 0 else gE (255 - gL a)
def glog (a:Nat):Int:=if a=0 then -1 else (gL a:Int)
def gpow (n:Int):Nat:=gE (n % 255).toNat
def allB:Nat→(Nat→Bool)→Bool
 | 0,_=>true
 | k + 1,p=>p k && allB k p
theorem allB_iff {n:Nat} {p:Nat→Bool} (h:allB n p=true):∀ k,k < n→p k=true:=by
 induction n with
 | zero=>intro k hk;omega
 | succ n ih =>
   intro k hk
   have h':(p n && allB n p)=true:=h
   rw [Bool.and_eq_true] at h'
   by_cases e:k=n
   ·rw [e];exact h'.1
   ·exact ih h'.2 k (by omega)
theorem gL_lt:∀ a,a < 256→gL a < 255:=fun a h=>of_decide_eq_true (allB_iff (p:=fun a=>decide (gL a < 255)) (n:=256) (by decide +kernel) a h)
theorem gE_tab:∀ i,i < 255→gE i < 256∧gE i ≠ 0∧gL (gE i)=i∧gE (i + 1)=dbl (gE i):=fun a h=>by
 have:=allB_iff (p:=fun i=>Nat.blt (gE i) 256 && (!Nat.beq (gE i) 0 && (Nat.beq (gL (gE i)) i && Nat.beq (gE (i + 1)) (dbl (gE i))))) (n:=255) (by decide +kernel) a h
 simp only [Bool.and_eq_true,Nat.blt_eq,Nat.beq_eq,Bool.not_eq_eq_eq_not,Bool.not_true] at this
 obtain ⟨h1,h2,h3,h4⟩:=this
 exact ⟨h1,fun e=>by rw [e] at h2;exact absurd h2 (by decide),h3,h4⟩
theorem gE_mod (i:Nat):gE (i % 255)=gE i:=by unfold gE;rw [Nat.mod_mod]
theorem gE_lt (i:Nat):gE i < 256:=by rw [← gE_mod];exact (gE_tab _ (Nat.mod_lt _ (by decide))).1
theorem gE_ne (i:Nat):gE i ≠ 0:=by rw [← gE_mod];exact (gE_tab _ (Nat.mod_lt _ (by decide))).2.1
theorem gL_gE (i:Nat):gL (gE i)=i % 255:=by rw [← gE_mod];exact (gE_tab _ (Nat.mod_lt _ (by decide))).2.2.1
theorem gE_succ (i:Nat):gE (i + 1)=dbl (gE i):=by
 have:=(gE_tab _ (Nat.mod_lt i (by decide:0 < 255))).2.2.2
 rw [gE_mod] at this
 rw [← this,← gE_mod (i + 1),← gE_mod (i % 255 + 1)];exact congrArg gE (by omega)
theorem gE_gL:∀ a,a < 256→a ≠ 0→gE (gL a)=a:=fun a h h0=>by
 have:=allB_iff (p:=fun a=>Nat.beq a 0 || Nat.beq (gE (gL a)) a) (n:=256) (by decide +kernel) a h
 simp at this;omega
theorem dbl_xor:∀ a b,a < 256→b < 256→dbl (a ^^^ b)=dbl a ^^^ dbl b:=fun a b ha hb=>by
 have:=allB_iff (allB_iff (p:=fun a=>allB 256 fun b=>Nat.beq (dbl (a ^^^ b)) (dbl a ^^^ dbl b)) (n:=256) (by decide +kernel) a ha) b hb
 simpa using this
theorem dbl_lt:∀ a,a < 256→dbl a < 256:=fun a h=>by
 have:=allB_iff (p:=fun a=>Nat.blt (dbl a) 256) (n:=256) (by decide +kernel) a h
 simpa using this
theorem xor_lt8 {a b:Nat} (ha:a < 256) (hb:b < 256):a ^^^ b < 256:=Nat.xor_lt_two_pow (n:=8) ha hb
theorem mulF_lt (f:Nat):∀ s x y,s < 256→x < 256→mulF f s x y < 256:=by
 induction f with
 | zero=>intro s x y hs _;exact hs
 | succ f ih =>
   intro s x y hs hx
   unfold mulF
   split
   ·exact ih _ _ _ (xor_lt8 hs hx) (dbl_lt _ hx)
   ·exact ih _ _ _ hs (dbl_lt _ hx)
theorem gmul_lt {a b:Nat} (ha:a < 256):gmul a b < 256:=mulF_lt 8 0 a b (by decide) ha
theorem mulF_dbl (f:Nat):∀ s x y,s < 256→x < 256→mulF f (dbl s) (dbl x) y=dbl (mulF f s x y):=by
 induction f with
 | zero=>intro s x y _ _;rfl
 | succ f ih =>
   intro s x y hs hx
   unfold mulF
   split
   ·rw [← dbl_xor _ _ hs hx];exact ih _ _ _ (xor_lt8 hs hx) (dbl_lt _ hx)
   ·exact ih _ _ _ hs (dbl_lt _ hx)
theorem xor_swap (a b c d:Nat):(a ^^^ b) ^^^ (c ^^^ d)=(a ^^^ c) ^^^ (b ^^^ d):=by
 rw [Nat.xor_assoc,Nat.xor_assoc,← Nat.xor_assoc b c d,Nat.xor_comm b c,Nat.xor_assoc c b d]
theorem mulF_xor (f:Nat):∀ s t x z y,s < 256→t < 256→x < 256→z < 256→mulF f (s ^^^ t) (x ^^^ z) y=mulF f s x y ^^^ mulF f t z y:=by
 induction f with
 | zero=>intro s t x z y _ _ _ _;rfl
 | succ f ih =>
   intro s t x z y hs ht hx hz
   unfold mulF
   rw [dbl_xor _ _ hx hz]
   split
   ·rw [xor_swap];exact ih _ _ _ _ _ (xor_lt8 hs hx) (xor_lt8 ht hz) (dbl_lt _ hx) (dbl_lt _ hz)
   ·exact ih _ _ _ _ _ hs ht (dbl_lt _ hx) (dbl_lt _ hz)
theorem mulF_zero_left (f:Nat):∀ y,mulF f 0 0 y=0:=by
 induction f with
 | zero=>intro y;rfl
 | succ f ih=>intro y;unfold mulF;simp only [Nat.xor_self,ite_self];exact ih _
theorem mulF_zero_right (f:Nat):∀ s x,mulF f s x 0=s:=by
 induction f with
 | zero=>intro s x;rfl
 | succ f ih=>intro s x;unfold mulF;exact ih _ _
theorem gmul_zero_left (b:Nat):gmul 0 b=0:=mulF_zero_left 8 b
theorem gmul_zero_right (a:Nat):gmul a 0=0:=mulF_zero_right 8 0 a
theorem gmul_one_left:∀ b,b < 256→gmul 1 b=b:=fun a h=>by
 have:=allB_iff (p:=fun a=>Nat.beq (gmul 1 a) a) (n:=256) (by decide +kernel) a h
 simpa using this
theorem gmul_dbl {a:Nat} (b:Nat) (ha:a < 256):gmul (dbl a) b=dbl (gmul a b):=mulF_dbl 8 0 a b (by decide) ha
theorem gmul_pow (i:Nat):∀ j,gmul (gE i) (gE j)=gE (i + j):=by
 induction i with
 | zero=>intro j;rw [show gE 0=1 from by decide +kernel,gmul_one_left _ (gE_lt j),Nat.zero_add]
 | succ i ih=>intro j;rw [gE_succ,gmul_dbl _ (gE_lt i),ih,← gE_succ];congr 1;omega
theorem gmul_tab {a b:Nat} (ha:a < 256) (hb:b < 256):gmul a b=if a=0∨b=0 then 0 else gE (gL a + gL b):=by
 split
 ·next h=>rcases h with rfl | rfl;exact gmul_zero_left b;exact gmul_zero_right a
 ·next h=>rw [← gmul_pow,gE_gL a ha (by omega),gE_gL b hb (by omega)]
theorem gmul_comm {a b:Nat} (ha:a < 256) (hb:b < 256):gmul a b=gmul b a:=by
 rw [gmul_tab ha hb,gmul_tab hb ha,Nat.add_comm]
 by_cases h:a=0 <;> by_cases h':b=0 <;> simp [h,h']
theorem gmul_one_right {a:Nat} (ha:a < 256):gmul a 1=a:=by rw [gmul_comm ha (by decide),gmul_one_left a ha]
theorem gE_congr {i j:Nat} (h:i % 255=j % 255):gE i=gE j:=by rw [← gE_mod i,h,gE_mod]
theorem gmul_assoc {a b c:Nat} (ha:a < 256) (hb:b < 256) (hc:c < 256):gmul a (gmul b c)=gmul (gmul a b) c:=by
 by_cases h:a=0
 ·subst h;rw [gmul_zero_left,gmul_zero_left,gmul_zero_left]
 by_cases h':b=0
 ·subst h';rw [gmul_zero_left,gmul_zero_right,gmul_zero_left]
 by_cases h'':c=0
 ·subst h'';rw [gmul_zero_right,gmul_zero_right,gmul_zero_right]
 rw [gmul_tab hb hc,if_neg (by omega),gmul_tab ha hb,if_neg (by omega),gmul_tab ha (gE_lt _),if_neg (by have:=gE_ne (gL b + gL c);omega),gmul_tab (gE_lt _) hc,if_neg (by have:=gE_ne (gL a + gL b);omega),gL_gE,gL_gE]
 exact gE_congr (by omega)
theorem gmul_xor_left {a c:Nat} (b:Nat) (ha:a < 256) (hc:c < 256):gmul (a ^^^ c) b=gmul a b ^^^ gmul c b:=mulF_xor 8 0 0 a c b (by decide) (by decide) ha hc
theorem gmul_xor_right {a b c:Nat} (ha:a < 256) (hb:b < 256) (hc:c < 256):gmul a (b ^^^ c)=gmul a b ^^^ gmul a c:=by
 rw [gmul_comm ha (xor_lt8 hb hc),gmul_xor_left a hb hc,gmul_comm hb ha,gmul_comm hc ha]
theorem ginv_lt (a:Nat):ginv a < 256:=by unfold ginv;split;decide;exact gE_lt _
theorem ginv_ne {a:Nat} (h:a ≠ 0):ginv a ≠ 0:=by unfold ginv;rw [if_neg h];exact gE_ne _
theorem gmul_inv {a:Nat} (ha:a < 256) (h:a ≠ 0):gmul a (ginv a)=1:=by
 have:=gL_lt a ha
 rw [gmul_tab ha (ginv_lt a),if_neg (by have:=ginv_ne h;omega)]
 unfold ginv
 rw [if_neg h,gL_gE,show (1:Nat)=gE 0 from by decide +kernel]
 exact gE_congr (by omega)
theorem gpow_lt (n:Int):gpow n < 256:=gE_lt _
theorem gpow_add (m n:Int):gmul (gpow m) (gpow n)=gpow (m + n):=by
 unfold gpow
 rw [gmul_pow]
 exact gE_congr (by omega)
theorem glog_gE (i:Nat):glog (gE i)=((i % 255:Nat):Int):=by unfold glog;rw [if_neg (gE_ne i),gL_gE]
theorem glog_gpow (n:Int):glog (gpow n)=n % 255:=by unfold gpow;rw [glog_gE];omega
def gpw (a:Nat):Nat→Nat
 | 0=>1
 | n + 1=>gmul a (gpw a n)
theorem gpw_lt {a:Nat} (ha:a < 256) (n:Nat):gpw a n < 256:=by cases n with | zero=>exact (by decide:(1:Nat) < 256) | succ n=>exact gmul_lt ha
theorem gpw_two {a:Nat} (ha:a < 256) (m:Nat):gpw (gmul a a) m=gpw a (2 * m):=by
 induction m with
 | zero=>rfl
 | succ m ih=>rw [show 2 * (m + 1)=2 * m + 1 + 1 from by omega];show gmul (gmul a a) (gpw (gmul a a) m)=gmul a (gmul a (gpw a (2 * m)));rw [ih,gmul_assoc ha ha (gpw_lt ha _)]
theorem gpw_half {x a:Nat} (hx:x < 256) (ha:a < 256) (n:Nat):gmul (if n % 2=1 then gmul x a else x) (gpw (gmul a a) (n / 2))=gmul x (gpw a n):=by
 rw [gpw_two ha]
 split
 ·next h=>obtain ⟨m,rfl⟩:∃ m,n=2 * m + 1:=⟨n / 2,by omega⟩
          rw [show 2 * ((2 * m + 1) / 2)=2 * m from by omega,← gmul_assoc hx ha (gpw_lt ha _)];rfl
 ·next h=>rw [show 2 * (n / 2)=n from by omega]
theorem gpw_gE (i n:Nat):gpw (gE i) n=gE (i * n):=by
 induction n with
 | zero=>rw [Nat.mul_zero];exact (by decide +kernel:(1:Nat)=gE 0)
 | succ n ih=>show gmul (gE i) (gpw (gE i) n)=_;rw [ih,gmul_pow];exact congrArg gE (by rw [Nat.mul_succ];omega)
theorem gpw_two_n (n:Nat):gpw 2 n=gE n:=by
 have:=gpw_gE 1 n
 rw [show gE 1=2 from by decide +kernel,Nat.one_mul] at this
 exact this
theorem gpw_inv {a:Nat} (ha:a < 256):gpw a 254=ginv a:=by
 by_cases h:a=0
 ·subst h;exact gmul_zero_left _
 ·have hl:=gL_lt a ha
  have e:gpw a 254=gE (gL a * 254):=by rw [← gpw_gE,gE_gL a ha h]
  rw [e];unfold ginv;rw [if_neg h];exact gE_congr (by omega)
end Go.Proofs.YtldfoadildaljaaGreat
end
section
namespace Go.Proofs.YtldfoadildaljaaGreat
def mulU (x:UInt8) (f:Nat):UInt8:=UInt8.ofNat (gmul x.toNat f)
theorem mulU_nat (x:UInt8) (f:Nat):(mulU x f).toNat=gmul x.toNat f:=by
 unfold mulU
 rw [UInt8.toNat_ofNat',Nat.mod_eq_of_lt (gmul_lt x.toNat_lt)]
theorem mulU_zero (f:Nat):mulU 0 f=0:=UInt8.toNat_inj.1 (by rw [mulU_nat];exact gmul_zero_left f)
theorem mulU_xor (x y:UInt8) (f:Nat):mulU (x ^^^ y) f=mulU x f ^^^ mulU y f :=
 UInt8.toNat_inj.1 (by rw [mulU_nat,UInt8.toNat_xor,UInt8.toNat_xor,mulU_nat,mulU_nat];exact gmul_xor_left f x.toNat_lt y.toNat_lt)
theorem mulU_mulU (x:UInt8) {f h:Nat} (hf:f < 256) (hh:h < 256):mulU (mulU x f) h=mulU x (gmul f h) :=
 UInt8.toNat_inj.1 (by rw [mulU_nat,mulU_nat,mulU_nat];exact (gmul_assoc x.toNat_lt hf hh).symm)
theorem mulU_one (x:UInt8):mulU x 1=x:=UInt8.toNat_inj.1 (by rw [mulU_nat];exact gmul_one_right x.toNat_lt)
def xorL (a b:List UInt8):List UInt8:=List.zipWith (· ^^^ ·) a b
def scaleL (a:List UInt8) (f:Nat):List UInt8:=a.map fun x=>mulU x f
def zeroL (n:Nat):List UInt8:=List.replicate n 0
theorem xorL_len (a b:List UInt8):(xorL a b).length=min a.length b.length:=by simp [xorL]
theorem scaleL_len (a:List UInt8) (f:Nat):(scaleL a f).length=a.length:=by simp [scaleL]
theorem scaleL_get (a:List UInt8) (f i:Nat):(scaleL a f).getD i 0=mulU (a.getD i 0) f:=by
 unfold scaleL
 rw [List.getD_eq_getElem?_getD,List.getD_eq_getElem?_getD,List.getElem?_map]
 cases h:a[i]? with
 | none=>exact (mulU_zero f).symm
 | some x=>rfl
theorem xorL_assoc:∀ a b c:List UInt8,xorL (xorL a b) c=xorL a (xorL b c)
 | [],_,_=>by simp [xorL]
 | _::_,[],_=>by simp [xorL]
 | _::_,_::_,[]=>by simp [xorL]
 | x::a,y::b,z::c=>by
   have:=xorL_assoc a b c
   unfold xorL at this ⊢
   simp only [List.zipWith_cons_cons,this,UInt8.xor_assoc]
theorem xorL_comm:∀ a b:List UInt8,xorL a b=xorL b a
 | [],b=>by cases b <;> rfl
 | _::_,[]=>rfl
 | x::a,y::b=>by
   have:=xorL_comm a b
   unfold xorL at this ⊢
   simp only [List.zipWith_cons_cons,this,UInt8.xor_comm x y]
theorem xorL_zero:∀ (a:List UInt8) (n:Nat),a.length=n→xorL a (zeroL n)=a
 | [],n,h=>by simp [xorL]
 | x::a,n + 1,h=>by
   have:=xorL_zero a n (by simpa using h)
   unfold xorL zeroL at this ⊢
   rw [List.replicate_succ,List.zipWith_cons_cons,this,UInt8.xor_zero]
theorem scaleL_xorL (a b:List UInt8) (f:Nat):scaleL (xorL a b) f=xorL (scaleL a f) (scaleL b f):=by
 unfold scaleL xorL
 rw [List.map_zipWith,List.zipWith_map]
 simp only [mulU_xor]
theorem scaleL_scaleL (a:List UInt8) {f h:Nat} (hf:f < 256) (hh:h < 256):scaleL (scaleL a f) h=scaleL a (gmul f h):=by
 unfold scaleL
 rw [List.map_map]
 exact List.map_congr_left fun x _=>mulU_mulU x hf hh
theorem scaleL_zero (n f:Nat):scaleL (zeroL n) f=zeroL n:=by
 unfold scaleL zeroL
 rw [List.map_replicate,mulU_zero]
theorem scaleL_one (a:List UInt8):scaleL a 1=a:=by
 unfold scaleL
 rw [List.map_congr_left (fun x _=>mulU_one x),List.map_id']
theorem xorL_self (a:List UInt8):xorL a a=zeroL a.length:=by
 induction a with
 | nil=>rfl
 | cons x a ih=>unfold xorL zeroL at ih ⊢;rw [List.zipWith_cons_cons,ih,UInt8.xor_self,List.length_cons,List.replicate_succ]
def xorTo (z r:List UInt8) (j:Nat):List UInt8:=xorL (z.take j) (r.take j) ++ z.drop j
theorem xorTo_zero (z r:List UInt8):xorTo z r 0=z:=by simp [xorTo,xorL]
theorem xorTo_len {z r:List UInt8} (h:r.length=z.length) {j:Nat} (hj:j ≤ z.length):(xorTo z r j).length=z.length:=by
 simp [xorTo,xorL_len];omega
theorem xorTo_all {z r:List UInt8} (h:r.length=z.length):xorTo z r z.length=xorL z r:=by
 unfold xorTo
 rw [List.take_length,← h,List.take_length,h,List.drop_length,List.append_nil]
theorem xorTo_get {z r:List UInt8} (h:r.length=z.length) {j:Nat} (hj:j < z.length):(xorTo z r j).getD j 0=z.getD j 0:=by
 unfold xorTo
 rw [List.getD_eq_getElem?_getD,List.getElem?_append_right (by rw [xorL_len];simp;omega),xorL_len]
 simp
 congr 2
 omega
theorem xorTo_succ {z r:List UInt8} (h:r.length=z.length) {j:Nat} (hj:j < z.length):(xorTo z r j).set j (z.getD j 0 ^^^ r.getD j 0)=xorTo z r (j + 1):=by
 have hl:(xorL (z.take j) (r.take j)).length=j:=by rw [xorL_len];simp;omega
 unfold xorTo
 rw [List.set_append_right _ _ (by omega),hl,Nat.sub_self]
 rw [List.drop_eq_getElem_cons hj,List.set_cons_zero]
 rw [List.take_succ_eq_append_getElem hj,List.take_succ_eq_append_getElem (by omega:j < r.length)]
 have e:xorL (z.take j ++ [z[j]]) (r.take j ++ [r[j]'(by omega)])=xorL (z.take j) (r.take j) ++ [z[j] ^^^ r[j]'(by omega)]:=by
  unfold xorL
  rw [List.zipWith_append (by simp;omega)]
  rfl
 rw [e,List.append_assoc]
 simp [hj,h]
def foldG (g:Nat→List UInt8→List UInt8) (k:Nat) (z:List UInt8):List (List UInt8)→List UInt8
 | []=>z
 | r::rs=>foldG g (k + 1) (xorL z (g k r)) rs
def gP:Nat→List UInt8→List UInt8:=fun _ r=>r
def gQ:Nat→List UInt8→List UInt8:=fun k r=>scaleL r (gpow k)
theorem foldG_append (g:Nat→List UInt8→List UInt8) (a b:List (List UInt8)):∀ k z,foldG g k z (a ++ b)=foldG g (k + a.length) (foldG g k z a) b:=by
 induction a with
 | nil=>intro k z;rfl
 | cons r a ih=>intro k z;rw [List.cons_append,foldG,ih,foldG];congr 1;simp;omega
theorem foldG_snoc (g:Nat→List UInt8→List UInt8) (z:List UInt8) (rs:List (List UInt8)) (k:Nat) (h:k < rs.length):foldG g 0 z (rs.take (k + 1))=xorL (foldG g 0 z (rs.take k)) (g k (rs.getD k [])):=by
 rw [List.take_succ_eq_append_getElem h,foldG_append,Nat.zero_add,List.length_take,Nat.min_eq_left (Nat.le_of_lt h)]
 simp [foldG,h]
theorem foldG_lin (g:Nat→List UInt8→List UInt8) (rs:List (List UInt8)):∀ k z y,foldG g k (xorL z y) rs=xorL z (foldG g k y rs):=by
 induction rs with
 | nil=>intro k z y;rfl
 | cons r rs ih=>intro k z y;rw [foldG,xorL_assoc,ih,foldG]
theorem foldG_len {g:Nat→List UInt8→List UInt8} (hg:∀ k r,(g k r).length=r.length) {N:Nat} (rs:List (List UInt8)):∀ k z,z.length=N→(∀ r ∈ rs,r.length=N)→(foldG g k z rs).length=N:=by
 induction rs with
 | nil=>intro k z hz _;exact hz
 | cons r rs ih =>
   intro k z hz hr
   rw [foldG]
   exact ih _ _ (by rw [xorL_len,hg,hz,hr r (by simp)];simp) fun r' h'=>hr r' (by simp [h'])
theorem gP_len (k:Nat) (r:List UInt8):(gP k r).length=r.length:=rfl
theorem gQ_len (k:Nat) (r:List UInt8):(gQ k r).length=r.length:=scaleL_len _ _
def alikeB (rs:List (List UInt8)):Bool:=!rs.isEmpty && rs.all fun r=>r.length == (rs.getD 0 []).length
def zerosB (rs:List (List UInt8)):List UInt8:=if alikeB rs then zeroL (rs.getD 0 []).length else []
def sumG (g:Nat→List UInt8→List UInt8) (rs:List (List UInt8)):List UInt8:=if alikeB rs then foldG g 0 (zeroL (rs.getD 0 []).length) rs else []
def pB:List (List UInt8)→List UInt8:=sumG gP
def qB:List (List UInt8)→List UInt8:=sumG gQ
theorem alikeB_iff {rs:List (List UInt8)}:alikeB rs=true ↔ 0 < rs.length∧∀ k,k < rs.length→(rs.getD k []).length=(rs.getD 0 []).length:=by
 unfold alikeB
 rw [Bool.and_eq_true,List.all_eq_true,Bool.not_eq_eq_eq_not,Bool.not_true]
 constructor
 ·rintro ⟨h1,h2⟩
  refine ⟨?_,fun k hk=>?_⟩
  ·rcases rs with _ | ⟨r,rs⟩
   ·simp at h1
   ·simp
  ·have:=h2 (rs.getD k []) (by simp [hk])
   simpa using this
 ·rintro ⟨h1,h2⟩
  refine ⟨?_,fun r hr=>?_⟩
  ·rcases rs with _ | ⟨r,rs⟩
   ·simp at h1
   ·rfl
  ·obtain ⟨k,hk,rfl⟩:=List.getElem_of_mem hr
   have:=h2 k hk
   simpa [hk] using this
theorem alikeB_mem {rs:List (List UInt8)} (h:alikeB rs=true):∀ r ∈ rs,r.length=(rs.getD 0 []).length:=fun r hr=>by
 obtain ⟨k,hk,rfl⟩:=List.getElem_of_mem hr
 have:=(alikeB_iff.1 h).2 k hk
 simpa [hk] using this
theorem alikeB_no {rs:List (List UInt8)} {k:Nat} (hk:k < rs.length) (h:(rs.getD k []).length ≠ (rs.getD 0 []).length):alikeB rs=false:=by
 cases e:alikeB rs with
 | false=>rfl
 | true=>exact absurd ((alikeB_iff.1 e).2 k hk) h
theorem alikeB_of {rs:List (List UInt8)} {N:Nat} (h0:0 < rs.length) (h:∀ r ∈ rs,r.length=N):alikeB rs=true∧(rs.getD 0 []).length=N:=by
 have h1:∀ k,k < rs.length→(rs.getD k []).length=N:=fun k hk=>h _ (by simp [hk])
 exact ⟨alikeB_iff.2 ⟨h0,fun k hk=>(h1 k hk).trans (h1 0 h0).symm⟩,h1 0 h0⟩
theorem zeroL_len (n:Nat):(zeroL n).length=n:=by simp [zeroL]
theorem sumG_len {g:Nat→List UInt8→List UInt8} (hg:∀ k r,(g k r).length=r.length) {rs:List (List UInt8)} (h:alikeB rs=true):(sumG g rs).length=(rs.getD 0 []).length:=by
 unfold sumG
 rw [if_pos h]
 exact foldG_len hg rs 0 _ (zeroL_len _) (alikeB_mem h)
theorem sumG_nil {g:Nat→List UInt8→List UInt8} (hg:∀ k r,(g k r).length=r.length) {rs:List (List UInt8)} (h:zerosB rs=[]):sumG g rs=[]:=by
 cases e:alikeB rs with
 | false=>unfold sumG;rw [e];rfl
 | true =>
   unfold zerosB at h
   rw [if_pos e] at h
   have h0:(rs.getD 0 []).length=0:=by rw [← zeroL_len (rs.getD 0 []).length,h];rfl
   exact List.eq_nil_of_length_eq_zero ((sumG_len hg e).trans h0)
theorem sumG_cons {g:Nat→List UInt8→List UInt8} {rs:List (List UInt8)} (h:zerosB rs ≠ []):(∀ k,k < rs.length→(rs.getD k []).length=(zerosB rs).length)∧sumG g rs=foldG g 0 (zerosB rs) rs∧alikeB rs=true:=by
 cases e:alikeB rs with
 | false=>unfold zerosB at h;rw [e] at h;exact absurd rfl h
 | true =>
   refine ⟨fun k hk=>?_,?_,rfl⟩
   ·unfold zerosB;rw [if_pos e,zeroL_len];exact (alikeB_iff.1 e).2 k hk
   ·unfold sumG zerosB;rw [if_pos e,if_pos e]
theorem foldG_take_len {g:Nat→List UInt8→List UInt8} (hg:∀ k r,(g k r).length=r.length) {rs:List (List UInt8)} {z:List UInt8} (h:∀ k,k < rs.length→(rs.getD k []).length=z.length) (k:Nat):(foldG g 0 z (rs.take k)).length=z.length :=
 foldG_len hg _ 0 z rfl fun r hr=>by
  obtain ⟨j,hj,rfl⟩:=List.getElem_of_mem hr
  have hj2:j < rs.length:=by simp at hj;omega
  have:=h j hj2
  simpa [hj2] using this
theorem pB_two {a b:List UInt8} (h:a.length=b.length):pB [a,b]=xorL a b:=by
 have e:alikeB [a,b]=true:=by
  refine (alikeB_of (N:=a.length) (by simp) fun r hr=>?_).1
  simp at hr
  rcases hr with rfl | rfl
  ·rfl
  ·exact h.symm
 unfold pB sumG
 rw [if_pos e]
 show xorL (xorL (zeroL a.length) a) b=_
 rw [xorL_comm (zeroL a.length),xorL_zero a _ rfl]
end Go.Proofs.YtldfoadildaljaaGreat
end
section
namespace Go.Proofs.YtldfoadildaljaaGreat
open Go.RowKit
theorem hp_new (w:World) (o:Obj) (g:Nat) (h:g=w.heap.size):(w.alloc o).heap[g]?=some o:=by subst h;exact heap_alloc_new _ _
theorem hp_old (w:World) (o:Obj) (g:Nat) (h:g < w.heap.size):(w.alloc o).heap[g]?=w.heap[g]?:=heap_alloc_old w o h
theorem belowN (B:Nat) (w:World) (n:Nat):Below B w (w.drewN n):=⟨rfl,rfl,rfl,Nat.le_refl _,fun _ _=>rfl⟩
theorem below1 (w:World) (o:Obj):Below w.heap.size w (w.alloc o):=(Below.refl _ _).alloc (Nat.le_refl _) o
theorem below2 (w:World) (o o':Obj):Below w.heap.size w ((w.alloc o).alloc o'):=(below1 w o).alloc (by simp) o'
theorem below3 (w:World) (o o' o'':Obj):Below w.heap.size w (((w.alloc o).alloc o').alloc o''):=(below2 w o o').alloc (by simp;omega) o''
theorem below4 (w:World) (o o' o'' o3:Obj):Below w.heap.size w ((((w.alloc o).alloc o').alloc o'').alloc o3):=(below3 w o o' o'').alloc (by simp;omega) o3
def bv (b:UInt8):Value:=.int .u8 (b.toNat:Int)
def RdB (w:World) (B:Nat) (A:Option Addr) (bs:List UInt8):Prop :=
 bs.length ≤ 140737488355328∧(0 < bs.length→∃ b off,A=some ⟨b,off,none⟩∧b < B∧∀ k,k < bs.length→w.cell? ⟨b,off + k,none⟩=some (.int .u8 ((bs.getD k 0).toNat:Int)))
def RdR (w:World) (B:Nat) (A:Option Addr) (rs:List (List UInt8)):Prop :=
 rs.length ≤ 140737488355328∧(0 < rs.length→∃ b off,A=some ⟨b,off,none⟩∧b < B∧∀ k,k < rs.length→∃ A' c,w.cell? ⟨b,off + k,none⟩=some (.slice A' (rs.getD k []).length c)∧RdB w B A' (rs.getD k []))
theorem RdB.keep {w w':World} {B B':Nat} {A:Option Addr} {bs:List UInt8} (h:RdB w B A bs) (hB:B ≤ B') (hk:∀ p:Addr,p.block < B→w'.cell? p=w.cell? p):RdB w' B' A bs :=
 ⟨h.1,fun hn=>by
  obtain ⟨b,off,e,hb,hc⟩:=h.2 hn
  exact ⟨b,off,e,by omega,fun k hk'=>(hk ⟨b,off + k,none⟩ hb).trans (hc k hk')⟩⟩
theorem RdR.keep {w w':World} {B B':Nat} {A:Option Addr} {rs:List (List UInt8)} (h:RdR w B A rs) (hB:B ≤ B') (hk:∀ p:Addr,p.block < B→w'.cell? p=w.cell? p):RdR w' B' A rs :=
 ⟨h.1,fun hn=>by
  obtain ⟨b,off,e,hb,hc⟩:=h.2 hn
  refine ⟨b,off,e,by omega,fun k hk'=>?_⟩
  obtain ⟨A',c,h1,h2⟩:=hc k hk'
  exact ⟨A',c,(hk ⟨b,off + k,none⟩ hb).trans h1,h2.keep hB hk⟩⟩
theorem RdB.below {w w':World} {B B':Nat} {A:Option Addr} {bs:List UInt8} (h:RdB w B A bs) (hb:Below B' w w') (hB:B ≤ B'):RdB w' B A bs:=h.keep (Nat.le_refl _) fun p hp=>hb.cell (by omega)
theorem RdR.below {w w':World} {B B':Nat} {A:Option Addr} {rs:List (List UInt8)} (h:RdR w B A rs) (hb:Below B' w w') (hB:B ≤ B'):RdR w' B A rs:=h.keep (Nat.le_refl _) fun p hp=>hb.cell (by omega)
theorem RdB.more {w:World} {B B':Nat} {A:Option Addr} {bs:List UInt8} (h:RdB w B A bs) (hB:B ≤ B'):RdB w B' A bs:=h.keep hB fun _ _=>rfl
theorem RdR.more {w:World} {B B':Nat} {A:Option Addr} {rs:List (List UInt8)} (h:RdR w B A rs) (hB:B ≤ B'):RdR w B' A rs:=h.keep hB fun _ _=>rfl
theorem RdB.nil (w:World) (B:Nat) (A:Option Addr):RdB w B A []:=⟨by simp,fun h=>by simp at h⟩
theorem rdr_cells {w:World} {g:Nat} {cs:Array Value} {t:TypeId} {f:Nat × Nat} {rs:List (List UInt8)} {B:Nat} (hg:w.heap[g]?=some (.cells cs t f)) (hB:g < B) (hl:rs.length ≤ 140737488355328)
    (h:∀ k,k < rs.length→∃ A c,cs[k]?=some (.slice A (rs.getD k []).length c)∧RdB w B A (rs.getD k [])):RdR w B (some ⟨g,0,none⟩) rs :=
 ⟨hl,fun _=>⟨g,0,rfl,hB,fun k hk=>by
  obtain ⟨A,c,h1,h2⟩:=h k hk
  exact ⟨A,c,by rw [Nat.zero_add,cell_of_row w g k cs t f hg];exact h1,h2⟩⟩⟩
theorem rdb_block {w:World} {g:Nat} {cs:Array Value} {t:TypeId} {f:Nat × Nat} {bs:List UInt8} {B:Nat} (hg:w.heap[g]?=some (.cells cs t f)) (hB:g < B) (hl:bs.length ≤ 140737488355328)
    (h:∀ k,k < bs.length→cs[k]?=some (.int .u8 ((bs.getD k 0).toNat:Int))):RdB w B (some ⟨g,0,none⟩) bs :=
 ⟨hl,fun _=>⟨g,0,rfl,hB,fun k hk=>by rw [Nat.zero_add,cell_of_row w g k cs t f hg];exact h k hk⟩⟩
theorem rdr_one {w:World} {A:Option Addr} {bs:List UInt8} {c:Nat} {t:TypeId} {B:Nat} (h:RdB w B A bs) (hB:B ≤ w.heap.size):RdR (w.alloc (.cells #[.slice A bs.length c] t)) (w.heap.size + 1) (some ⟨w.heap.size,0,none⟩) [bs] :=
 rdr_cells (heap_alloc_new w _) (by omega) (by simp) fun k hk=>by
  obtain rfl:k=0:=by simp at hk;omega
  exact ⟨A,c,rfl,(h.keep (w':=w.alloc _) (B':=w.heap.size + 1) (by omega) fun p hp=>World.cell?_alloc_lt w _ p (by omega))⟩
theorem rdr_two {w:World} {A A':Option Addr} {bs bs':List UInt8} {c c':Nat} {t:TypeId} {B:Nat} (h:RdB w B A bs) (h':RdB w B A' bs') (hB:B ≤ w.heap.size) :
    RdR (w.alloc (.cells #[.slice A bs.length c,.slice A' bs'.length c'] t)) (w.heap.size + 1) (some ⟨w.heap.size,0,none⟩) [bs,bs'] :=
 rdr_cells (heap_alloc_new w _) (by omega) (by simp) fun k hk=>by
  obtain rfl | rfl:k=0∨k=1:=by simp at hk;omega
  ·exact ⟨A,c,rfl,h.keep (by omega) fun p hp=>World.cell?_alloc_lt w _ p (by omega)⟩
  ·exact ⟨A',c',rfl,h'.keep (by omega) fun p hp=>World.cell?_alloc_lt w _ p (by omega)⟩
theorem rdr_block2 {w:World} {g:Nat} {A A':Option Addr} {n n' c c':Nat} {bs bs':List UInt8} {t:TypeId} {f:Nat × Nat} {B:Nat} (hg:w.heap[g]?=some (.cells #[.slice A n c,.slice A' n' c'] t f)) (hn:n=bs.length) (hn':n'=bs'.length)
    (h:RdB w B A bs) (h':RdB w B A' bs') (hB:B ≤ w.heap.size):RdR w w.heap.size (some ⟨g,0,none⟩) [bs,bs']:=by
 subst hn hn'
 exact rdr_cells hg (Array.getElem?_eq_some_iff.1 hg).1 (by simp) fun k hk=>by
  obtain rfl | rfl:k=0∨k=1:=by simp at hk;omega
  ·exact ⟨A,c,rfl,h.more hB⟩
  ·exact ⟨A',c',rfl,h'.more hB⟩
def zcells (n:Nat):Array Value:=madeCells #[.int .u8 0] n
theorem zcells_get (n k:Nat) (h:k < n):(zcells n)[k]?=some (.int .u8 0):=by
 unfold zcells
 rw [← Array.getElem?_toList,toList_madeCells_one,List.getElem?_replicate,if_pos h]
theorem zcells_size (n:Nat):(zcells n).size=n:=size_madeCells _ _
end Go.Proofs.YtldfoadildaljaaGreat
end
section
namespace Go.Proofs.YtldfoadildaljaaGreat
open Go.RowKit
theorem info_u8:(Tryz.prog.info? 5).map (fun i=>(i.zero,i.size,i.bytes))=some (some (.int .u8 0),1,1):=by kernel_rfl
theorem make_bytes (n:Nat) (hn:n ≤ 140737488355328) (w:World) :
    (Instr.makeSlice 48 (.int .i64 (n:Int)) (.int .i64 (n:Int))).run Tryz.prog w=.ok (.slice (some ⟨w.heap.size,0,none⟩) n n) (w.alloc (.cells (zcells n) 5)) :=
 run_make_row' _ _ _ 1 Tryz.underlying48 info_u8 rfl _ _ n (by omega) (by omega) w
end Go.Proofs.YtldfoadildaljaaGreat
end
section
namespace Go.Proofs.YtldfoadildaljaaGreat
def secAt (L:List UInt8) (k:Nat):List UInt8:=(L.drop (k * 32)).take 32
def putAt (L:List UInt8) (k:Nat) (x:List UInt8):List UInt8:=L.take (k * 32) ++ x ++ L.drop (k * 32 + 32)
theorem putAt_get {L x:List UInt8} {k:Nat} (hL:k * 32 + 32 ≤ L.length) (hx:x.length=32) (i:Nat):(putAt L k x)[i]?=if i < k * 32 then L[i]? else if i < k * 32 + 32 then x[i - k * 32]? else L[i]?:=by
 have h1:(L.take (k * 32)).length=k * 32:=by rw [List.length_take];omega
 unfold putAt
 by_cases c:i < k * 32
 ·rw [if_pos c,List.append_assoc,List.getElem?_append_left (by omega),List.getElem?_take,if_pos c]
 ·rw [if_neg c]
  by_cases c2:i < k * 32 + 32
  ·rw [if_pos c2,List.append_assoc,List.getElem?_append_right (by omega),h1,List.getElem?_append_left (by omega)]
  ·rw [if_neg c2,List.getElem?_append_right (by rw [List.length_append];omega),List.length_append,h1,hx,List.getElem?_drop]
   congr 1
   omega
theorem putAt_len {L x:List UInt8} {k n:Nat} (hL:L.length=n) (hk:k * 32 + 32 ≤ n) (hx:x.length=32):(putAt L k x).length=n:=by
 unfold putAt;simp;omega
theorem secAt_len {L:List UInt8} {k:Nat} (hL:k * 32 + 32 ≤ L.length):(secAt L k).length=32:=by unfold secAt;simp;omega
theorem secAt_get (L:List UInt8) (k i:Nat):(secAt L k)[i]?=if i < 32 then L[k * 32 + i]? else none:=by
 unfold secAt
 rw [List.getElem?_take]
 split
 ·rw [List.getElem?_drop]
 ·rfl
theorem sec_put_same {L x:List UInt8} {k:Nat} (hl:L.length=1664) (hk:k < 52) (hx:x.length=32):secAt (putAt L k x) k=x:=by
 have hL:k * 32 + 32 ≤ L.length:=by omega
 apply List.ext_getElem?
 intro i
 rw [secAt_get]
 split
 ·rw [putAt_get hL hx,if_neg (by omega),if_pos (by omega)]
  congr 1
  omega
 ·rw [List.getElem?_eq_none (by omega)]
theorem sec_put_other {L x:List UInt8} {k j:Nat} (hl:L.length=1664) (hk:k < 52) (hx:x.length=32) (hne:j ≠ k):secAt (putAt L k x) j=secAt L j:=by
 have hL:k * 32 + 32 ≤ L.length:=by omega
 apply List.ext_getElem?
 intro i
 rw [secAt_get,secAt_get]
 split
 ·rw [putAt_get hL hx]
  by_cases c:j * 32 + i < k * 32
  ·rw [if_pos c]
  ·rw [if_neg c,if_neg (by omega)]
 ·rfl
theorem put_sec {L:List UInt8} {k:Nat}:putAt L k (secAt L k)=L:=by
 unfold putAt secAt
 rw [List.append_assoc,← List.drop_drop,List.take_append_drop,List.take_append_drop]
theorem sec_ext {L M:List UInt8} (hL:L.length=1664) (hM:M.length=1664) (h:∀ k,k < 52→secAt L k=secAt M k):L=M:=by
 apply List.ext_getElem?
 intro i
 by_cases hi:i < 1664
 ·have h1:=h (i / 32) (by omega)
  have h2:(secAt L (i / 32))[i % 32]?=(secAt M (i / 32))[i % 32]?:=by rw [h1]
  rw [secAt_get,secAt_get,if_pos (by omega),if_pos (by omega),show i / 32 * 32 + i % 32=i by omega] at h2
  exact h2
 ·rw [List.getElem?_eq_none (by omega),List.getElem?_eq_none (by omega)]
def nowOf (S:List UInt8) (ps:List (Nat × List UInt8)):List UInt8:=ps.foldl (fun L p=>putAt L p.1 p.2) S
def lastOf:List (Nat × List UInt8)→Nat→Option (List UInt8)
 | [],_=>none
 | p::ps,k=>match lastOf ps k with | some x=>some x | none=>if p.1=k then some p.2 else none
theorem lastOf_cons (p:Nat × List UInt8) (ps:List (Nat × List UInt8)) (k:Nat):lastOf (p::ps) k=match lastOf ps k with | some x=>some x | none=>if p.1=k then some p.2 else none:=rfl
def WOk (ps:List (Nat × List UInt8)):Prop:=∀ p ∈ ps,p.1 < 52∧p.2.length=32
theorem WOk.nil:WOk []:=fun _ h=>by cases h
theorem WOk.cons {p:Nat × List UInt8} {ps:List (Nat × List UInt8)} (h:WOk (p::ps)):WOk ps:=fun q hq=>h q (List.mem_cons_of_mem _ hq)
theorem WOk.snoc {ps:List (Nat × List UInt8)} (h:WOk ps) {k:Nat} {x:List UInt8} (hk:k < 52) (hx:x.length=32):WOk (ps ++ [(k,x)]):=fun q hq=>by
 rcases List.mem_append.1 hq with h1 | h1
 ·exact h q h1
 ·obtain rfl:=List.mem_singleton.1 h1;exact ⟨hk,hx⟩
theorem WOk.filter {ps:List (Nat × List UInt8)} (h:WOk ps) (f:Nat × List UInt8→Bool):WOk (ps.filter f):=fun q hq=>h q (List.mem_filter.1 hq).1
theorem nowOf_len:∀ {ps:List (Nat × List UInt8)} {S:List UInt8},S.length=1664→WOk ps→(nowOf S ps).length=1664
 | [],_,hS,_=>hS
 | p::ps,S,hS,h=>by
   have h1:=h p (List.mem_cons_self ..)
   show (nowOf (putAt S p.1 p.2) ps).length=1664
   exact nowOf_len (putAt_len hS (by omega) h1.2) h.cons
theorem nowOf_snoc (S:List UInt8) (ps:List (Nat × List UInt8)) (k:Nat) (x:List UInt8):nowOf S (ps ++ [(k,x)])=putAt (nowOf S ps) k x:=by
 unfold nowOf;rw [List.foldl_append];rfl
theorem nowOf_sec:∀ {ps:List (Nat × List UInt8)} {S:List UInt8},S.length=1664→WOk ps→∀ k,k < 52→secAt (nowOf S ps) k=(lastOf ps k).getD (secAt S k)
 | [],_,_,_,_,_=>rfl
 | p::ps,S,hS,h,k,hk=>by
   have h1:=h p (List.mem_cons_self ..)
   show secAt (nowOf (putAt S p.1 p.2) ps) k=_
   rw [nowOf_sec (putAt_len hS (by omega) h1.2) h.cons k hk]
   rw [lastOf_cons]
   cases lastOf ps k with
   | some x=>rfl
   | none =>
     by_cases e:p.1=k
     ·simp only [if_pos e,Option.getD]
      rw [← e]
      exact sec_put_same hS h1.1 h1.2
     ·simp only [if_neg e,Option.getD]
      exact sec_put_other hS h1.1 h1.2 (fun h=>e h.symm)
theorem lastOf_filter_same (ps:List (Nat × List UInt8)) (k:Nat):lastOf (ps.filter fun p=>decide (p.1 ≠ k)) k=none:=by
 induction ps with
 | nil=>rfl
 | cons p ps ih =>
   by_cases e:p.1=k
   ·rw [List.filter_cons_of_neg (by simp [e])];exact ih
   ·rw [List.filter_cons_of_pos (by simp [e])]
    rw [lastOf_cons,ih]
    simp [e]
theorem lastOf_filter_other (ps:List (Nat × List UInt8)) {k j:Nat} (hne:j ≠ k):lastOf (ps.filter fun p=>decide (p.1 ≠ k)) j=lastOf ps j:=by
 induction ps with
 | nil=>rfl
 | cons p ps ih =>
   by_cases e:p.1=k
   ·rw [List.filter_cons_of_neg (by simp [e]),ih]
    rw [lastOf_cons]
    cases lastOf ps j with
    | some x=>rfl
    | none=>simp only [if_neg (show ¬ p.1=j by omega)]
   ·rw [List.filter_cons_of_pos (by simp [e])]
    rw [lastOf_cons,lastOf_cons,ih]
theorem nowOf_damage {S x:List UInt8} {ps:List (Nat × List UInt8)} {k:Nat} (hS:S.length=1664) (h:WOk ps) (hk:k < 52) (hx:x.length=32):nowOf (putAt S k x) (ps.filter fun p=>decide (p.1 ≠ k))=putAt (nowOf S ps) k x:=by
 have hS':=putAt_len hS (show k * 32 + 32 ≤ 1664 by omega) hx
 have hN:=nowOf_len hS h
 have hf:=h.filter fun p=>decide (p.1 ≠ k)
 refine sec_ext (nowOf_len hS' hf) (putAt_len hN (by omega) hx) fun j hj=>?_
 rw [nowOf_sec hS' hf j hj]
 by_cases e:j=k
 ·subst e
  rw [lastOf_filter_same,sec_put_same hN hk hx]
  exact sec_put_same hS hk hx
 ·rw [lastOf_filter_other ps e,sec_put_other hS hk hx e,sec_put_other hN hk hx e,nowOf_sec hS h j hj]
def zeroS:List UInt8:=List.replicate 1664 0
theorem zeroS_len:zeroS.length=1664:=List.length_replicate ..
structure Dsk where
 S:List UInt8
 ps:List (Nat × List UInt8)
 f:Bool
namespace Dsk
def now (D:Dsk):List UInt8:=nowOf D.S D.ps
def new:Dsk:=⟨zeroS,[],false⟩
def failed:Dsk:=⟨zeroS,[],true⟩
def write (D:Dsk) (k:Nat) (x:List UInt8):Dsk:=⟨D.S,D.ps ++ [(k,x)],D.f⟩
def flush (D:Dsk):Dsk:=⟨D.now,[],D.f⟩
def damage (D:Dsk) (k:Nat) (x:List UInt8):Dsk:=⟨putAt D.S k x,D.ps.filter fun p=>decide (p.1 ≠ k),D.f⟩
structure Ok (D:Dsk):Prop where
 S:D.S.length=1664
 ps:WOk D.ps
theorem Ok.now {D:Dsk} (h:D.Ok):D.now.length=1664:=nowOf_len h.S h.ps
theorem new_ok:Dsk.new.Ok:=⟨zeroS_len,WOk.nil⟩
theorem failed_ok:Dsk.failed.Ok:=⟨zeroS_len,WOk.nil⟩
theorem Ok.write {D:Dsk} (h:D.Ok) {k:Nat} {x:List UInt8} (hk:k < 52) (hx:x.length=32):(D.write k x).Ok:=⟨h.S,h.ps.snoc hk hx⟩
theorem Ok.flush {D:Dsk} (h:D.Ok):D.flush.Ok:=⟨h.now,WOk.nil⟩
theorem Ok.damage {D:Dsk} (h:D.Ok) {k:Nat} {x:List UInt8} (hk:k < 52) (hx:x.length=32):(D.damage k x).Ok:=⟨putAt_len h.S (by omega) hx,h.ps.filter _⟩
theorem write_now (D:Dsk) (k:Nat) (x:List UInt8):(D.write k x).now=putAt D.now k x:=nowOf_snoc _ _ _ _
theorem damage_now {D:Dsk} (h:D.Ok) {k:Nat} {x:List UInt8} (hk:k < 52) (hx:x.length=32):(D.damage k x).now=putAt D.now k x:=nowOf_damage h.S h.ps hk hx
end Dsk
end Go.Proofs.YtldfoadildaljaaGreat
end
section
namespace Go.Proofs.YtldfoadildaljaaGreat
open Go.RowKit
theorem map_bv_one {bs:List UInt8}:∀ u ∈ bs.map bv,u.oneCell'=true:=fun u hu=>by
 obtain ⟨b,_,rfl⟩:=List.mem_map.1 hu
 rfl
def OwB (e:TypeId) (w:World) (B:Nat) (v:Value) (bs:List UInt8):Prop:=w.ownsRow B e 1 v bs.length (bs.map bv)∧bs.length ≤ 140737488355328
section
variable {e:TypeId} {w w':World} {B B':Nat} {v:Value} {bs:List UInt8}
theorem OwB.nil (e:TypeId) (w:World) (B:Nat):OwB e w B (.slice none 0 0) []:=⟨World.ownsRow_nil _ _ _ _,by simp⟩
theorem OwB.form (h:OwB e w B v bs):(v=.slice none 0 0∧bs=[])∨∃ g cap cur,v=.slice (some ⟨g,0,none⟩) bs.length cap∧B ≤ g∧w.heap[g]?=some (.cells cur e (0,0))∧bs.length ≤ cap∧cap ≤ maxLen∧cur.size=cap ∧
    (∀ k,k < bs.length→cur[k]?=some (.int .u8 ((bs.getD k 0).toNat:Int))):=by
 rcases h.1.2 with ⟨h1,h2⟩ | ⟨g,cap,cur,h1,h2,h3,h4,h5,h6,h7⟩
 ·exact .inl ⟨h1,List.eq_nil_of_length_eq_zero h2⟩
 ·refine .inr ⟨g,cap,cur,h1,h2,h3,h4,h5,by simpa using h6,fun k hk=>?_⟩
  have:(cur.toList.take (bs.length * 1))[k]?=(bs.map bv)[k]?:=by rw [h7]
  rw [List.getElem?_take,if_pos (by omega),Array.getElem?_toList] at this
  rw [this]
  simp [hk,bv]
theorem OwB.rd (h:OwB e w B v bs):∃ A cap,v=.slice A bs.length cap∧bs.length ≤ cap∧RdB w w.heap.size A bs:=by
 rcases h.form with ⟨rfl,rfl⟩ | ⟨g,cap,cur,rfl,_,hg,hc,_,_,hk⟩
 ·exact ⟨none,0,rfl,Nat.le_refl _,RdB.nil _ _ _⟩
 ·exact ⟨_,cap,rfl,hc,h.2,fun _=>⟨g,0,rfl,(Array.getElem?_eq_some_iff.1 hg).1,fun k hk'=>by rw [Nat.zero_add,cell_of_row w g k cur e (0,0) hg];exact hk k hk'⟩⟩
theorem OwB.rdS {A:Option Addr} {n c:Nat} (h:OwB e w B (.slice A n c) bs):RdB w w.heap.size A bs∧n=bs.length∧n ≤ c:=by
 obtain ⟨A',c',hv,hc,hr⟩:=h.rd
 injection hv with h1 h2 h3
 subst h1 h2 h3
 exact ⟨hr,rfl,hc⟩
theorem OwB.pos (h:OwB e w B v bs) (hp:0 < bs.length):∃ g cap,v=.slice (some ⟨g,0,none⟩) bs.length cap∧B ≤ g∧g < w.heap.size∧bs.length ≤ cap∧cap ≤ maxLen∧RdB w w.heap.size (some ⟨g,0,none⟩) bs:=by
 obtain ⟨A,c,hv,_,hr⟩:=h.rd
 rcases h.form with ⟨_,rfl⟩ | ⟨g,cap,cur,rfl,hB,hg,hc,hm,_,_⟩
 ·simp at hp
 ·injection hv with h1 _ _
  exact ⟨g,cap,rfl,hB,(Array.getElem?_eq_some_iff.1 hg).1,hc,hm,h1 ▸ hr⟩
theorem own_make (e:TypeId) (w:World) (n:Nat) (hn:n ≤ 140737488355328):OwB e (w.alloc (.cells (zcells n) e)) w.heap.size (.slice (some ⟨w.heap.size,0,none⟩) n n) (List.replicate n 0):=by
 refine ⟨?_,by simpa using hn⟩
 have h:=World.ownsRow_lit (base:=w.heap.size) (e:=e) (size:=1) w (zcells n) n (Nat.le_refl _) (by unfold maxLen;omega) (by rw [zcells_size];omega)
 unfold zcells at h ⊢
 rw [toList_madeCells_one] at h
 simpa [bv] using h
theorem OwB.grown {row:Option Nat} (h:OwB e w B v bs) (hg:w.grownBy w' row) (hne:v.ownBlock=none∨v.ownBlock ≠ row):OwB e w' B v bs:=⟨h.1.kept hg hne,h.2⟩
theorem grown_none {a b:World} (h:Below a.heap.size a b):a.grownBy b none:=⟨h.os,h.tape,h.output,h.size,fun k hk _=>h.block k hk⟩
theorem OwB.below (h:OwB e w B v bs) (hb:Below w.heap.size w w'):OwB e w' B v bs:=h.grown (grown_none hb) (by cases v.ownBlock <;> simp)
theorem OwB.lt (h:OwB e w B v bs):∀ k,v.ownBlock=some k→B ≤ k∧k < w.heap.size:=h.1.lt
theorem OwB.le (h:OwB e w B v bs) (hB:B' ≤ B):OwB e w B' v bs:=by
 refine ⟨⟨h.1.1,?_⟩,h.2⟩
 rcases h.1.2 with h1 | ⟨g,cap,cur,h1,h2,r⟩
 ·exact .inl h1
 ·exact .inr ⟨g,cap,cur,h1,by omega,r⟩
end
section
variable {e:TypeId} {w w':World} {B g n cap:Nat} {bs:List UInt8}
theorem OwB.cell (h:OwB e w B (.slice (some ⟨g,0,none⟩) n cap) bs) (hn:bs.length=n) (j:Nat) (hj:j < n):w.cell? ⟨g,j,none⟩=some (.int .u8 ((bs.getD j 0).toNat:Int))∧w.frozen? ⟨g,j,none⟩=false:=by
 subst hn
 refine ⟨?_,h.1.frozenAt j⟩
 rw [h.1.cellAt j (by omega)]
 simp [hj,bv]
theorem OwB.set (h:OwB e w B (.slice (some ⟨g,0,none⟩) n cap) bs) (hn:bs.length=n) (j:Nat) (b:UInt8) :
    OwB e (w.setCell ⟨g,j,none⟩ (.int .u8 (b.toNat:Int))) B (.slice (some ⟨g,0,none⟩) n cap) (bs.set j b)∧w.grownBy (w.setCell ⟨g,j,none⟩ (.int .u8 (b.toNat:Int))) (some g):=by
 subst hn
 obtain ⟨h1,h2⟩:=h.1.stored j (.int .u8 (b.toNat:Int))
 refine ⟨⟨?_,by simpa using h.2⟩,h2⟩
 rw [List.map_set,List.length_set]
 exact h1
end
section
variable {P:Program} (w:World)
theorem run_append_B (base:Nat) (t ty e:TypeId) (ht:P.underlying t=some (.slice e)) (hinfo:(P.info? e).map (fun i=>(i.zero,i.size,i.bytes))=some (some (.int .u8 0),1,1))
    (v:Value) (xs:List UInt8) (hown:OwB e w base v xs) (B:Nat) (A:Option Addr) (c:Nat) (bs:List UInt8) (hr:RdB w B A bs) (hn:xs.length + bs.length ≤ 140737488355328) (hbase:base ≤ w.heap.size) :
    ∃ v' w',(Builtin.append_ #[t,t] ty #[v,.slice A bs.length c]).run P w=.ok v' w'∧OwB e w' base v' (xs ++ bs)∧w.grownBy w' v.ownBlock∧(v'.ownBlock=v.ownBlock∨v'.ownBlock=some w.heap.size):=by
 obtain ⟨i,hi,hzz⟩:=Option.map_eq_some_iff.1 hinfo
 simp only [Prod.mk.injEq] at hzz
 obtain ⟨hz,hs,hb⟩:=hzz
 rcases A with _ | ad
 ·have hm:bs=[]:=by
    rcases bs with _ | ⟨b,r⟩
    ·rfl
    ·obtain ⟨_,_,h,_⟩:=hr.2 (by simp)
     cases h
  subst hm
  refine ⟨v,w,?_,by simpa using hown,World.grownBy.refl w _,.inl rfl⟩
  rcases hown.1.2 with ⟨rfl,_⟩ | ⟨g,cap,cur,rfl,_,_,hnc,_⟩
  ·simp [Builtin.append_,run_underlying ht,sizeOf,typeInfo,hi,Builtin.lenOf,Builtin.firstCells]
  ·simp [Builtin.append_,run_underlying ht,sizeOf,typeInfo,hi,Builtin.lenOf,Builtin.firstCells,hnc,storeCells]
 ·have hcells:∀ j u,(bs.map bv)[j]?=some u→w.cell? (ad.add j)=some u:=by
    intro j u hu
    simp only [List.getElem?_map,Option.map_eq_some_iff] at hu
    obtain ⟨b,hb1,rfl⟩:=hu
    obtain ⟨hj,rfl⟩:=List.getElem?_eq_some_iff.1 hb1
    obtain ⟨b2,off,h,_,hc⟩:=hr.2 (by omega)
    injection h with h
    subst h
    have e1:((⟨b2,off,none⟩:Addr).add j)=⟨b2,off + j,none⟩:=by unfold Addr.add;by_cases hk0:j=0 <;> simp [hk0]
    rw [e1,hc j hj]
    simp [bv,hj]
  obtain ⟨v',w',hrun,h2,h3,_,h5⟩:=run_append_own_at (P:=P) w base t ty e i _ 1 1 ht hi hz hs hb rfl (by omega) v xs.length (xs.map bv) hown.1 ad bs.length c (bs.map bv) (by simp) hcells map_bv_one (by unfold maxLen;omega) (by omega) hbase
  exact ⟨v',w',hrun,⟨by simpa using h2,by simpa using hn⟩,h3,h5⟩
theorem wpList_append_B {ops:Array Oper} {rest:List Oper} {o:Oper} {a:Act} {Q:Exit→Act→World→Prop} (hw:Region.wanted o (yielded ops a.tmps)=true) (s x:Operand) (t:TypeId)
    (ho:o.op=.call { callee:=.builtin .append,args:=#[s,x],argTypes:=#[t,t] })
    (base:Nat) (e:TypeId) (ht:P.underlying t=some (.slice e)) (hinfo:(P.info? e).map (fun i=>(i.zero,i.size,i.bytes))=some (some (.int .u8 0),1,1))
    (v:Value) (xs:List UInt8) (hs:a.eval s=v) (hown:OwB e w base v xs) (B:Nat) (A:Option Addr) (n c:Nat) (bs:List UInt8) (hx:a.eval x=.slice A n c) (hnl:n=bs.length) (hr:RdB w B A bs)
    (hn:xs.length + bs.length ≤ 140737488355328) (hbase:base ≤ w.heap.size)
    (h:∀ v' w',OwB e w' base v' (xs ++ bs)→w.grownBy w' v.ownBlock→(v'.ownBlock=v.ownBlock∨v'.ownBlock=some w.heap.size)→wpList P ops Q rest (a.put o.dst v') w'):wpList P ops Q (o::rest) a w:=by
 subst hnl
 refine BigFrame.wpList_want hw fun K hK=>?_
 obtain ⟨v',w',hrun,h2,h3,h4⟩:=run_append_B (P:=P) w base t o.type e ht hinfo v xs hown B A c bs hr hn hbase
 unfold Oper.wp execOp
 simp only [ho,resolve,invoke,builtin,Sem.run_bind,Sem.run_pure,Result.andThen_ok,List.map_toArray,List.map_cons,List.map_nil,hs,hx,hrun]
 exact hK _ _ (h v' w' h2 h3 h4)
def RdV (w:World) (B:Nat) (A:Option Addr) (xs:List Value):Prop :=
 0 < xs.length→∃ b off,A=some ⟨b,off,none⟩∧b < B∧∀ k,k < xs.length→w.cell? ⟨b,off + k,none⟩=xs[k]?
def RowsV (w:World) (B:Nat) (xs:List Value) (rs:List (List UInt8)):Prop :=
 xs.length=rs.length∧∀ k,k < rs.length→∃ A c,xs[k]?=some (.slice A (rs.getD k []).length c)∧RdB w B A (rs.getD k [])
theorem wpList_append_V {w:World} {ops:Array Oper} {rest:List Oper} {o:Oper} {a:Act} {Q:Exit→Act→World→Prop} (hw:Region.wanted o (yielded ops a.tmps)=true) (s x:Operand) (t:TypeId)
    (ho:o.op=.call { callee:=.builtin .append,args:=#[s,x],argTypes:=#[t,t] })
    (base:Nat) (e:TypeId) (z:Value) (bytes:Nat) (ht:P.underlying t=some (.slice e)) (hinfo:(P.info? e).map (fun i=>(i.zero,i.size,i.bytes))=some (some z,1,bytes)) (hz1:z.cells.size=1)
    (v:Value) (n:Nat) (xs:List Value) (hs:a.eval s=v) (hown:w.ownsRow base e 1 v n xs) (B:Nat) (A:Option Addr) (m c:Nat) (news:List Value) (hx:a.eval x=.slice A m c) (hm:m=news.length)
    (hr:RdV w B A news) (h1:∀ u ∈ news,u.oneCell'=true) (h63:n + m ≤ maxLen) (hbytes:(n + m) * bytes ≤ 140737488355328) (hbase:base ≤ w.heap.size)
    (h:∀ v' w',w'.ownsRow base e 1 v' (n + m) (xs ++ news)→w.grownBy w' v.ownBlock→(v'.ownBlock=v.ownBlock∨v'.ownBlock=some w.heap.size)→wpList P ops Q rest (a.put o.dst v') w'):wpList P ops Q (o::rest) a w:=by
 subst hm
 refine BigFrame.wpList_want hw fun K hK=>?_
 obtain ⟨i,hi,hzz⟩:=Option.map_eq_some_iff.1 hinfo
 simp only [Prod.mk.injEq] at hzz
 obtain ⟨hz,hsz,hb⟩:=hzz
 have hrun:∃ v' w',(Builtin.append_ #[t,t] o.type #[v,.slice A news.length c]).run P w=.ok v' w'∧w'.ownsRow base e 1 v' (n + news.length) (xs ++ news)∧w.grownBy w' v.ownBlock∧(v'.ownBlock=v.ownBlock∨v'.ownBlock=some w.heap.size):=by
  rcases A with _ | ad
  ·have hm:news=[]:=by
     rcases news with _ | ⟨b,r⟩
     ·rfl
     ·obtain ⟨_,_,h,_⟩:=hr (by simp)
      cases h
   subst hm
   refine ⟨v,w,?_,by simpa using hown,World.grownBy.refl w _,.inl rfl⟩
   rcases hown.2 with ⟨rfl,_⟩ | ⟨g,cap,cur,rfl,_,_,hnc,_⟩
   ·simp [Builtin.append_,run_underlying ht,sizeOf,typeInfo,hi,Builtin.lenOf,Builtin.firstCells]
   ·simp [Builtin.append_,run_underlying ht,sizeOf,typeInfo,hi,Builtin.lenOf,Builtin.firstCells,hnc,storeCells]
  ·have hcells:∀ j u,news[j]?=some u→w.cell? (ad.add j)=some u:=by
     intro j u hu
     obtain ⟨hj,_⟩:=List.getElem?_eq_some_iff.1 hu
     obtain ⟨b2,off,h,_,hc⟩:=hr (by omega)
     injection h with h
     subst h
     have e1:((⟨b2,off,none⟩:Addr).add j)=⟨b2,off + j,none⟩:=by unfold Addr.add;by_cases hk0:j=0 <;> simp [hk0]
     rw [e1,hc j hj,hu]
   obtain ⟨v',w',hrun,h2,h3,_,h5⟩:=run_append_own_at (P:=P) w base t o.type e i _ 1 bytes ht hi hz hsz hb hz1 (by omega) v n xs hown ad news.length c news (by simp) hcells h1 h63 hbytes hbase
   exact ⟨v',w',hrun,h2,h3,h5⟩
 obtain ⟨v',w',hrun,h2,h3,h4⟩:=hrun
 unfold Oper.wp execOp
 simp only [ho,resolve,invoke,builtin,Sem.run_bind,Sem.run_pure,Result.andThen_ok,List.map_toArray,List.map_cons,List.map_nil,hs,hx,hrun]
 exact hK _ _ (h v' w' h2 h3 h4)
theorem rdr_own {w:World} {B base:Nat} {e:TypeId} {v:Value} {n:Nat} {xs:List Value} {rs:List (List UInt8)} (h:w.ownsRow base e 1 v n xs) (hB:w.heap.size ≤ B) (hl:rs.length ≤ 140737488355328) (hx:RowsV w B xs rs) :
    ∃ A cap,v=.slice A rs.length cap∧RdR w B A rs:=by
 have hn:n=rs.length:=by have:=h.1;have:=hx.1;omega
 subst hn
 rcases h.2 with ⟨rfl,h0⟩ | ⟨g,cap,cur,rfl,_,hg,_,_,_,htk⟩
 ·exact ⟨none,0,by rw [h0],hl,fun h=>by omega⟩
 ·refine ⟨_,cap,rfl,rdr_cells hg (by have:=(Array.getElem?_eq_some_iff.1 hg).1;omega) hl fun k hk=>?_⟩
  obtain ⟨A,c,h1,h2⟩:=hx.2 k hk
  refine ⟨A,c,?_,h2⟩
  rw [← htk,List.getElem?_take,if_pos (by omega),Array.getElem?_toList] at h1
  exact h1
end
end Go.Proofs.YtldfoadildaljaaGreat
end
section
namespace Go.Proofs.YtldfoadildaljaaGreat
open Go.RowKit
section
variable {P:Program} {ops:Array Oper} {Q:Exit→Act→World→Prop} {md:Region.Mode} {S:World→Prop} {n:Nat}
def anyE (P:Program) (md:Region.Mode) (ops:Array Oper) (Q:Exit→Act→World→Prop) (S:World→Prop) (n:Nat):Nat→Array Bool→Act→World→Prop
 | 0,listed,a,w=>Region.ready md ops listed=[]∧Q .normal a w
 | f + 1,listed,a,w=>(Region.ready md ops listed=[]→Q .normal a w) ∧
   ∀ i ∈ Region.ready md ops listed,wpOp P ops Q i (fun a' w'=>(i < n→S w')∧anyE P md ops Q S n f (listed.setIfInBounds i true) a' w') a w
theorem any_of_E:∀ (f:Nat) (listed:Array Bool) (a:Act) (w:World),anyE P md ops Q S n f listed a w→wpAny P md ops Q f listed a w
 | 0,_,_,_,h=>h
 | f + 1,_,_,_,h=>⟨h.1,fun i hi=>wpOp_mono (fun a' w' h'=>any_of_E f _ a' w' h'.2) (h.2 i hi)⟩
theorem anyE_first {i:Nat} {oi:Oper} {v:Value} (hi:ops[i]?=some oi) (hsel:∀ (j:Nat) (o:Oper) cs b,ops[j]?=some o→o.op ≠ .select cs b) (hQ:∀ c a w,Q (.panic c) (a.put oi.dst v) w→Q (.panic c) a w)
    (hs:Region.sinkB md ops n=true) (hc:Region.chainB md ops n=true) (hn:n < ops.size) (hin:i < n) :
    ∀ (f:Nat) (listed:Array Bool) (a:Act) (w:World),HeadInv md ops n listed →
     (∀ j oj,ops[j]?=some oj→j ≠ i→listed.getD j true=false→(∀ e ∈ oj.after,Region.binds md e=true→e.on ≠ i)→oi.apart ops oj=true) →
     i ∈ Region.ready md ops listed→YieldsIf P ops S oi v a→S w →
     anyE P md ops Q S n f (listed.setIfInBounds i true) (a.put oi.dst v) w→anyE P md ops Q S n (f + 1) listed a w:=by
 intro f
 induction f with
 | zero =>
   intro listed a w _ _ hr hy hS H
   refine ⟨fun h=>(by rw [h] at hr;cases hr),fun j hj=>?_⟩
   by_cases hji:j=i
   ·subst hji;exact hy.wpOp hi hS ⟨fun _=>hS,H⟩
   ·have h1:=ready_mono (i:=i) hj hji
    rw [H.1] at h1
    cases h1
 | succ f ih =>
   intro listed a w inv hfree hr hy hS H
   have hun:=(mem_ready.1 hr).1
   refine ⟨fun h=>(by rw [h] at hr;cases hr),fun j hj=>?_⟩
   have hjn:j < n:=Nat.lt_of_not_le fun h=>tail_waits hs hc hn inv _ i rfl hin hun j h hj
   by_cases hji:j=i
   ·subst hji;exact hy.wpOp hi hS ⟨fun _=>hS,H⟩
   ·obtain ⟨hjun,oj,hoj,hall⟩:=mem_ready.1 hj
    have hnot:∀ e ∈ oj.after,Region.binds md e=true→e.on ≠ i:=fun e he hb heq=>by
     have h1:=hall e he hb
     rw [heq,getD_both hun] at h1
     cases h1
    have hap:=hfree j oj hoj hji hjun hnot
    have h2:=wpOp_putIf hoj hap (fun cs b=>hsel i oi cs b hi) (fun cs b=>hsel j oj cs b hoj) hQ hy (H.2 j (ready_mono hj hji))
    refine wpOp_mono (fun a' w' h3=>⟨h3.2.1,?_⟩) h2
    refine ih (listed.setIfInBounds j true) a' w' (inv.set hj hjn) (fun k ok hk hki hku hno=>hfree k ok hk hki ?_ hno) (ready_mono hr (Ne.symm hji)) h3.1 (h3.2.1 hjn) ?_
    ·by_cases hjk:j=k
     ·subst hjk;exact hjun
     ·rw [getD_set_ne true hjk] at hku;exact hku
    ·rw [Array.setIfInBounds_comm _ _ hji]
     exact h3.2.2
def takesE (P:Program) (ops:Array Oper) (S:World→Prop) (K:Act→Prop):List Oper→Act→Prop
 | [],a=>K a
 | o::rest,a=>∃ v,YieldsIf P ops S o v a∧takesE P ops S K rest (a.put o.dst v)
def opE (P:Program) (ops:Array Oper) (Q:Exit→Act→World→Prop) (o:Oper) (K:Act→World→Prop) (a:Act) (w:World):Prop :=
 if Region.wanted o (yielded ops a.tmps) then o.wp P a w K Q∨(o.asks P a w∧LetsOut Q) else K (a.put o.dst undef) w
def listE (P:Program) (ops:Array Oper) (Q:Exit→Act→World→Prop) (S:World→Prop):List Oper→Act→World→Prop
 | [],a,w=>Q .normal a w
 | o::rest,a,w=>opE P ops Q o (fun a' w'=>(rest ≠ []→S w')∧listE P ops Q S rest a' w') a w
theorem wpOp_of_opE {i:Nat} {o:Oper} {K:Act→World→Prop} {a:Act} {w:World} (hi:ops[i]?=some o) (h:opE P ops Q o K a w):wpOp P ops Q i K a w:=by
 unfold opE at h
 unfold wpOp
 simp only [hi]
 split at h
 ·rename_i hw;simp only [hw,if_true];exact h
 ·rename_i hw;simp only [hw];exact h
theorem anyE_of_list:∀ (l:List Oper) (k:Nat) (listed:Array Bool) (a:Act) (w:World),(∀ j,l[j]?=ops[k + j]?)→(l=[]∨k + l.length=n + 1) →
    Region.seqB md ops l.length k listed=true→listE P ops Q S l a w→anyE P md ops Q S n l.length listed a w
 | [],k,listed,a,w,_,_,hB,h=>⟨by simpa [Region.seqB] using hB,h⟩
 | o::l,k,listed,a,w,hl,hk,hB,h=>by
   have h0:ops[k]?=some o:=by simpa using (hl 0).symm
   have hk':k + (l.length + 1)=n + 1:=by
    rcases hk with h | h
    ·cases h
    ·simpa using h
   simp only [List.length_cons,Region.seqB,Bool.and_eq_true,decide_eq_true_eq] at hB
   refine ⟨fun h1=>(by rw [hB.1] at h1;cases h1),fun i hi=>?_⟩
   rw [hB.1] at hi
   obtain rfl:i=k:=by simpa using hi
   refine wpOp_mono (fun a' w' h'=>⟨fun hin=>h'.1 (by intro e;subst e;simp at hk';omega),?_⟩) (wpOp_of_opE h0 h)
   refine anyE_of_list l (i + 1) _ a' w' (fun j=>by have:=hl (j + 1);simpa [Nat.add_assoc,Nat.add_comm 1 j] using this) ?_ hB.2 h'.2
   by_cases he:l=[]
   ·exact .inl he
   ·exact .inr (by omega)
theorem anyE_of_takes {g k0:Nat} (hsel:∀ (j:Nat) (o:Oper) cs b,ops[j]?=some o→o.op ≠ .select cs b) (hQ:∀ c a d v w,Q (.panic c) (Act.put a d v) w→Q (.panic c) a w)
    (hs:Region.sinkB md ops n=true) (hc:Region.chainB md ops n=true) (hn:n < ops.size) (hkn:k0 ≤ n) {w:World} (hS:S w) {K:Act→Prop}
    (hK:∀ listed a,Region.seqB md ops g k0 listed=true→K a→anyE P md ops Q S n g listed a w) :
    ∀ (l:List Oper) (k:Nat) (listed:Array Bool) (a:Act),(∀ j,j < l.length→l[j]?=ops[k + j]?)→k + l.length=k0→HeadInv md ops n listed→Region.lexHead md ops g l.length k listed=true →
    takesE P ops S K l a→anyE P md ops Q S n (l.length + g) listed a w
 | [],k,listed,a,_,hk,_,hB,h=>by
   obtain rfl:k=k0:=by simpa using hk
   rw [List.length_nil,Nat.zero_add]
   exact hK listed a (by simpa [Region.lexHead] using hB) h
 | o::l,k,listed,a,hl,hk,inv,hB,h=>by
   have h0:ops[k]?=some o:=by simpa using (hl 0 (by simp)).symm
   simp only [List.length_cons,Region.lexHead,Bool.and_eq_true] at hB
   obtain ⟨⟨hr,hf⟩,hB'⟩:=hB
   have hkn':k < n:=by simp only [List.length_cons] at hk;omega
   have hr':k ∈ Region.ready md ops listed:=by simpa using hr
   obtain ⟨v,hy,hT⟩:=h
   have ih:=anyE_of_takes hsel hQ hs hc hn hkn hS hK l (k + 1) (listed.setIfInBounds k true) (a.put o.dst v) (fun j hj=>by have:=hl (j + 1) (by simp;omega);simpa [Nat.add_assoc,Nat.add_comm 1 j] using this)
    (by simp only [List.length_cons] at hk;omega) (inv.set hr' hkn') hB' hT
   rw [List.length_cons,show l.length + 1 + g=(l.length + g) + 1 by omega]
   exact anyE_first h0 hsel (fun c a w h=>hQ c a _ _ w h) hs hc hn hkn' _ listed a w inv (Region.free_spec h0 hf) hr' hy hS ih
def takeB (md:Region.Mode) (ops:Array Oper) (k:Nat):Bool :=
 Region.noSelect ops && decide (k < ops.size) && Region.sinkB md ops (ops.size - 1) && Region.chainB md ops (ops.size - 1) && Region.lexHead md ops (ops.size - k) k 0 (Array.replicate ops.size false)
theorem region_take {id:Nat} {a:Act} {w:World} {l:List Oper} (k:Nat) (S:World→Prop) (hm:P.follows .mixedOrders=true) (hB:takeB .any l.toArray k=true) (hQ:∀ c a d v w,Q (.panic c) (Act.put a d v) w→Q (.panic c) a w)
    (hS:S w.drew) (h:takesE P l.toArray S (fun a'=>listE P l.toArray Q S (l.drop k) a' w.drew) (l.take k) a):(Code.region id l.toArray true).wp P Q a w:=by
 simp only [takeB,Bool.and_eq_true,decide_eq_true_eq] at hB
 obtain ⟨⟨⟨⟨hsel,hk⟩,hs⟩,hc⟩,hlex⟩:=hB
 have hk':k < l.length:=by simpa using hk
 have hsz:l.toArray.size=l.length:=by simp
 have htl:(l.take k).length=k:=by simp;omega
 have hdl:(l.drop k).length=l.toArray.size - k:=by simp
 have inv0:HeadInv .any l.toArray (l.toArray.size - 1) (Array.replicate l.toArray.size false) :=
  ⟨by simp,fun j oj _ hl=>(by rw [getD_replicate_false] at hl;cases hl),fun t _ ht=>getD_in (by simpa using ht) (getD_replicate_false _ _)⟩
 refine wp_region_any hm (any_of_E (S:=S) (n:=l.toArray.size - 1) _ _ _ _ ?_)
 have:=anyE_of_takes (md:=.any) (P:=P) (Q:=Q) (S:=S) (n:=l.toArray.size - 1) (g:=l.toArray.size - k) (k0:=k) (Region.noSelect_spec hsel) hQ hs hc (by omega) (by omega) (w:=w.drew) hS
  (K:=fun a'=>listE P l.toArray Q S (l.drop k) a' w.drew) (fun listed a' hseq hK=>by
   have:=anyE_of_list (md:=.any) (P:=P) (Q:=Q) (S:=S) (n:=l.toArray.size - 1) (l.drop k) k listed a' w.drew (fun j=>by simp [List.getElem?_drop]) (.inr (by rw [hdl];omega)) (by rw [hdl];exact hseq) hK
   rwa [hdl] at this) (l.take k) 0 _ a (fun j hj=>by
   have hj':j < k:=by rw [htl] at hj;exact hj
   simp [hj']) (by simpa using htl) inv0 (by rw [htl];exact hlex) h
 rw [htl,show k + (l.toArray.size - k)=l.toArray.size by omega] at this
 exact this
theorem take_of {o:Oper} {rest:List Oper} {K:Act→Prop} {a:Act} {v:Value} (hw:Region.wanted o (yielded ops a.tmps)=true) (hv:∀ w,S w→(execOp a.eval o).run P w=.ok (.value v) w) (h:takesE P ops S K rest (a.put o.dst v)):takesE P ops S K (o::rest) a :=
 ⟨v,.inl ⟨hw,hv⟩,h⟩
theorem take_mid {op:Oper} {rest:List Oper} {K:Act→Prop} {a:Act} (hw:Region.wanted op (yielded ops a.tmps)=true) (ty:TypeId) (x:Operand) (ho:op.op=.load ty x) (b o:Nat) (hx:a.eval x=.pointer (some ⟨b,o,none⟩)) (cs:List Value) (d:TypeDesc)
    (hS:∀ w,S w→w.rangeAt b o cs) (hu:P.underlying ty=some d) (hd:d.isRow=true) (hi:(P.info? ty).map (·.size)=some cs.length) (h:takesE P ops S K rest (a.put op.dst (.agg cs.toArray))):takesE P ops S K (op::rest) a :=
 ⟨_,yieldsIf_load_mid hw ty x ho b o hx cs d hS hu hd hi,h⟩
theorem listE_last {o:Oper} {a:Act} {w:World} (h:wpList P ops Q [o] a w):listE P ops Q S [o] a w:=by
 unfold listE opE
 have h':(if Region.wanted o (yielded ops a.tmps) then o.wp P a w (wpList P ops Q []) Q∨(o.asks P a w∧LetsOut Q) else wpList P ops Q [] (a.put o.dst undef) w):=h
 split at h'
 ·rename_i hw;rw [if_pos hw];exact h'.imp (Oper.wp_mono fun a w h=>⟨fun e=>absurd rfl e,h⟩) id
 ·rename_i hw;rw [if_neg hw];exact ⟨fun e=>absurd rfl e,h'⟩
theorem listE_step {o o2:Oper} {rest:List Oper} {a:Act} {w:World} (h:∀ K:Act→World→Prop,(∀ a' w',S w'→listE P ops Q S (o2::rest) a' w'→K a' w')→if Region.wanted o (yielded ops a.tmps)=true then o.wp P a w K Q else K (a.put o.dst undef) w):listE P ops Q S (o::o2::rest) a w:=by
 have h':=h (fun a' w'=>(o2::rest ≠ []→S w')∧listE P ops Q S (o2::rest) a' w') fun a' w' h1 h2=>⟨fun _=>h1,h2⟩
 rw [listE,opE]
 split at h'
 ·rename_i hw;rw [if_pos hw];exact .inl h'
 ·rename_i hw;rw [if_neg hw];exact h'
end
end Go.Proofs.YtldfoadildaljaaGreat
end
section
namespace Go.Proofs.YtldfoadildaljaaGreat
open Go.RowKit
def RdO (w:World) (B:Nat) (A:Option Addr) (ks:List Bool):Prop :=
 ks.length ≤ 9223372036854775807∧(0 < ks.length→∃ b off,A=some ⟨b,off,none⟩∧b < B∧∀ k,k < ks.length→w.cell? ⟨b,off + k,none⟩=some (.bool (ks.getD k false)))
theorem RdO.keep {w w':World} {B B':Nat} {A:Option Addr} {ks:List Bool} (h:RdO w B A ks) (hB:B ≤ B') (hk:∀ p:Addr,p.block < B→w'.cell? p=w.cell? p):RdO w' B' A ks :=
 ⟨h.1,fun hn=>by
  obtain ⟨b,off,e,hb,hc⟩:=h.2 hn
  exact ⟨b,off,e,by omega,fun k hk'=>(hk ⟨b,off + k,none⟩ hb).trans (hc k hk')⟩⟩
theorem RdO.below {w w':World} {B B':Nat} {A:Option Addr} {ks:List Bool} (h:RdO w B A ks) (hb:Below B' w w') (hB:B ≤ B'):RdO w' B A ks:=h.keep (Nat.le_refl _) fun p hp=>hb.cell (by omega)
def RdZ (w:World) (B:Nat) (A:Option Addr) (zs:List Int):Prop :=
 zs.length ≤ 9223372036854775807∧(∀ z ∈ zs,-9223372036854775808 ≤ z∧z ≤ 9223372036854775807)∧(0 < zs.length→∃ b off,A=some ⟨b,off,none⟩∧b < B∧∀ k,k < zs.length→w.cell? ⟨b,off + k,none⟩=some (.int .i64 (zs.getD k 0)))
theorem RdZ.nil (w:World) (B:Nat) (A:Option Addr):RdZ w B A []:=⟨by simp,fun z hz=>by simp at hz,fun h=>by simp at h⟩
theorem RdZ.keep {w w':World} {B B':Nat} {A:Option Addr} {zs:List Int} (h:RdZ w B A zs) (hB:B ≤ B') (hk:∀ p:Addr,p.block < B→w'.cell? p=w.cell? p):RdZ w' B' A zs :=
 ⟨h.1,h.2.1,fun hn=>by
  obtain ⟨b,off,e,hb,hc⟩:=h.2.2 hn
  exact ⟨b,off,e,by omega,fun k hk'=>(hk ⟨b,off + k,none⟩ hb).trans (hc k hk')⟩⟩
theorem RdZ.below {w w':World} {B B':Nat} {A:Option Addr} {zs:List Int} (h:RdZ w B A zs) (hb:Below B' w w') (hB:B ≤ B'):RdZ w' B A zs:=h.keep (Nat.le_refl _) fun p hp=>hb.cell (by omega)
theorem RdZ.bd {w:World} {B:Nat} {A:Option Addr} {zs:List Int} (h:RdZ w B A zs) (k:Nat):-9223372036854775808 ≤ zs.getD k 0∧zs.getD k 0 ≤ 9223372036854775807:=by
 by_cases hk:k < zs.length
 ·exact h.2.1 _ (by simp [hk])
 ·rw [List.getD_eq_getElem?_getD,List.getElem?_eq_none (by omega)];simp
end Go.Proofs.YtldfoadildaljaaGreat
end
section
namespace Go.Proofs.YtldfoadildaljaaGreat
open Go.RowKit
def withinI (v n:Int):Int:=if n < 1 then 0 else v % n
theorem withinI_bd (v n:Int) (hn:1 ≤ n):0 ≤ withinI v n∧withinI v n < n:=by
 unfold withinI
 rw [if_neg (by omega)]
 exact ⟨Int.emod_nonneg _ (by omega),Int.emod_lt_of_pos _ (by omega)⟩
theorem tmod_within (v n:Int) (hn:1 ≤ n):withinI v n=if v.tmod n < 0 then v.tmod n + n else v.tmod n:=by
 have h0:=Int.emod_nonneg v (show n ≠ 0 by omega)
 have h1:=Int.emod_lt_of_pos v (show 0 < n by omega)
 unfold withinI
 rw [if_neg (by omega),Int.tmod_eq_emod]
 split <;> split <;> omega
theorem within_any (v n:Int) (w:World) (hv:-9223372036854775808 ≤ v∧v ≤ 9223372036854775807) (hn:1 ≤ n∧n ≤ 140737488355329) :
    Calls Tryz.prog 8 #[.int .i64 v,.int .i64 n] w fun e w'=>e=.returned (.int .i64 (withinI v n))∧w'=w:=by
 obtain ⟨h1,h2⟩:=hn
 obtain ⟨h3,h4⟩:=hv
 have Ht:=Lib.hid (tmod_within v n h1)
 have hlo:-n < v.tmod n:=Int.lt_tmod_of_pos _ (by omega)
 have hhi:v.tmod n < n:=Int.tmod_lt_of_pos _ (by omega)
 by_cases hneg:v.tmod n < 0
 ·go_enter Tryz.func8,Tryz.ntmps8
  go_wp2
  go_ret
  exact ⟨by rw [Ht.out,if_pos hneg];rfl,rfl⟩
 ·go_enter Tryz.func8,Tryz.ntmps8
  go_wp2
  go_ret
  exact ⟨by rw [Ht.out,if_neg (by omega)];rfl,rfl⟩
end Go.Proofs.YtldfoadildaljaaGreat
end
section
namespace Go.Proofs.YtldfoadildaljaaGreat
open Go.RowKit
theorem and128:∀ a,a < 256→a &&& 128=if a < 128 then 0 else 128:=by decide +kernel
theorem ret_int {k:IntKind} {a b:Int} (h:a=b):Ending.returned (.int k a)=.returned (.int k b):=by rw [h]
theorem double_any (a:Nat) (ha:a < 256) (w:World):Calls Tryz.prog 111 #[.int .u8 (a:Int)] w fun e w'=>e=.returned (.int .u8 ((dbl a:Nat):Int))∧w'=w:=by
 have e0:=u8_and_nat a 128 ha (by decide)
 rw [show ((128:Nat):Int)=128 from rfl,and128 a ha] at e0
 by_cases h:a < 128
 ·rw [if_pos h] at e0
  have Hd:Hid (dbl a=2 * a):=if_pos h
  go_enter Tryz.func111,Tryz.ntmps111
  go_wp2
  go_ret
  exact ⟨ret_int (by rw [Hd.out];omega),rfl⟩
 ·rw [if_neg h] at e0
  have Hd:Hid (dbl a=(2 * a - 256) ^^^ 29):=if_neg h
  have e1:=u8_xor_nat (2 * a - 256) 29 (by omega) (by decide)
  have e2:((2 * a - 256:Nat):Int)=(a:Int) * 2 % 256:=by omega
  rw [e2,show ((29:Nat):Int)=29 from rfl] at e1
  clear e2
  go_enter Tryz.func111,Tryz.ntmps111
  go_wp2
  go_ret
  exact ⟨by rw [Hd.out];rfl,rfl⟩
theorem mulF_step (f s x y:Nat):mulF (f + 1) s x y=mulF f (if y % 2=1 then s ^^^ x else s) (dbl x) (y / 2):=rfl
set_option maxHeartbeats 400000 in
theorem mul_any (a b:Nat) (ha:a < 256) (hb:b < 256) (w:World):Calls Tryz.prog 106 #[.int .u8 (a:Int),.int .u8 (b:Int)] w fun e w'=>e=.returned (.int .u8 ((gmul a b:Nat):Int))∧w'=w:=by
 go_enter Tryz.func106,Tryz.ntmps106
 go_wp2
 go_loop [0,1,5] (fun vx vy vs=>∃ f s x y:Nat,y < 2 ^ f∧s < 256∧x < 256∧y < 256∧vx=.int .u8 (x:Int)∧vy=.int .u8 (y:Int)∧vs=.int .u8 (s:Int)∧Hid (mulF f s x y=gmul a b)) (fun _ vy _=>(intOf vy).toNat)
 case atStart=>exact ⟨8,0,a,b,by omega,by decide,ha,hb,rfl,rfl,rfl,rfl⟩
 case round =>
  obtain ⟨f,s,x,y,hyf,hs,hx,hy,rfl,rfl,rfl,Hm⟩:=hrel
  by_cases h0:y=0
  ·have Hr:Hid (s=gmul a b):=by subst h0;rw [← Hm.out];exact (mulF_zero_right f s x).symm
   have hne:((y:Int) != 0)=false:=by simp;omega
   clear h0 Hm
   go_wp2
   go_ret
   exact ⟨ret_int (congrArg Nat.cast Hr.out),rfl⟩
  ·obtain ⟨g,rfl⟩:∃ g,f=g + 1:=⟨f - 1,by cases f with | zero=>simp at hyf;omega | succ n=>rfl⟩
   have hyg:y / 2 < 2 ^ g:=by rw [Nat.pow_succ] at hyf;omega
   clear hyf
   have Hst:Hid (mulF g (if y % 2=1 then s ^^^ x else s) (dbl x) (y / 2)=gmul a b):=Hm.out
   clear Hm
   have hdx:=dbl_lt x hx
   have hne:((y:Int) != 0)=true:=by simp;omega
   have e0:=u8_and_nat y 1 hy (by decide)
   rw [nat_mask1] at e0
   have hxl:=xor_lt8 hs hx
   have ex:=u8_xor_nat s x hs hx
   by_cases hbit:y % 2=1
   ·rw [hbit] at e0
    rw [show ((1:Nat):Int)=1 from rfl] at e0
    have Hst2:Hid (mulF g (s ^^^ x) (dbl x) (y / 2)=gmul a b):=by have:=Hst.out;rw [if_pos hbit] at this;exact this
    clear Hst hbit
    go_wp2_with (go_at_call 111;refine (double_any x hx _).mono ?_;rintro e w' ⟨rfl,rfl⟩)
    go_round
    case rel=>exact ⟨g,s ^^^ x,dbl x,y / 2,hyg,hxl,hdx,by omega,rfl,by go_num,rfl,Hst2⟩
    case measure=>simp [intOf];omega
   ·have hbit0:y % 2=0:=by omega
    rw [hbit0] at e0
    rw [show ((1:Nat):Int)=1 from rfl] at e0
    have Hst2:Hid (mulF g s (dbl x) (y / 2)=gmul a b):=by have:=Hst.out;rw [if_neg hbit] at this;exact this
    clear Hst hbit hbit0
    go_wp2_with (go_at_call 111;refine (double_any x hx _).mono ?_;rintro e w' ⟨rfl,rfl⟩)
    go_round
    case rel=>exact ⟨g,s,dbl x,y / 2,hyg,hs,hdx,by omega,rfl,by go_num,rfl,Hst2⟩
    case measure=>simp [intOf];omega
theorem i64_and1:∀ n:Nat,n < 256→bits .and .i64 (n:Int) 1=((n % 2:Nat):Int):=by decide +kernel
theorem power_any (a n:Nat) (ha:a < 256) (hn:n < 256) (w:World):Calls Tryz.prog 110 #[.int .u8 (a:Int),.int .i64 (n:Int)] w fun e w'=>e=.returned (.int .u8 ((gpw a n:Nat):Int))∧w'=w:=by
 go_enter Tryz.func110,Tryz.ntmps110
 go_wp2
 go_loop [0,1,5] (fun va vn vx=>∃ b m x:Nat,b < 256∧m < 256∧x < 256∧va=.int .u8 (b:Int)∧vn=.int .i64 (m:Int)∧vx=.int .u8 (x:Int)∧Hid (gmul x (gpw b m)=gpw a n)) (fun _ vn _=>(intOf vn).toNat)
 case atStart=>exact ⟨a,n,1,ha,hn,by decide,rfl,rfl,rfl,gmul_one_left _ (gpw_lt ha n)⟩
 case round =>
  obtain ⟨b,m,x,hb,hm,hx,rfl,rfl,rfl,Hm⟩:=hrel
  have hbb:gmul b b < 256:=gmul_lt hb
  have hxb:gmul x b < 256:=gmul_lt hx
  by_cases h0:m=0
  ·have Hr:Hid (x=gpw a n):=by subst h0;rw [← Hm.out];exact (gmul_one_right hx).symm
   have hne:¬ (0:Int) < (m:Int):=by omega
   clear h0 Hm
   go_wp2
   go_ret
   exact ⟨ret_int (congrArg Nat.cast Hr.out),rfl⟩
  ·have hne:(0:Int) < (m:Int):=by omega
   have e0:=i64_and1 m hm
   have Hh:=Lib.hid (gpw_half hx hb m)
   by_cases hbit:m % 2=1
   ·rw [hbit,show ((1:Nat):Int)=1 from rfl] at e0
    have Hr:Hid (gmul (gmul x b) (gpw (gmul b b) (m / 2))=gpw a n):=by have:=Hh.out;rw [if_pos hbit] at this;exact this.trans Hm.out
    clear Hh Hm hbit
    go_wp2_with (go_at_call 106;refine (mul_any _ _ (by assumption) (by assumption) _).mono ?_;rintro e w' ⟨rfl,rfl⟩)
    go_round
    case rel=>exact ⟨gmul b b,m / 2,gmul x b,hbb,by omega,hxb,rfl,by go_num,rfl,Hr⟩
    case measure=>simp [intOf];omega
   ·rw [show m % 2=0 from by omega,show ((0:Nat):Int)=0 from rfl] at e0
    have Hr:Hid (gmul x (gpw (gmul b b) (m / 2))=gpw a n):=by have:=Hh.out;rw [if_neg hbit] at this;exact this.trans Hm.out
    clear Hh Hm hbit
    go_wp2_with (go_at_call 106;refine (mul_any _ _ (by assumption) (by assumption) _).mono ?_;rintro e w' ⟨rfl,rfl⟩)
    go_round
    case rel=>exact ⟨gmul b b,m / 2,x,hbb,by omega,hx,rfl,by go_num,rfl,Hr⟩
    case measure=>simp [intOf];omega
theorem tmod255 (n:Int):n % 255=if n.tmod 255 < 0 then n.tmod 255 + 255 else n.tmod 255:=by
 have h0:=Int.emod_nonneg n (show (255:Int) ≠ 0 by omega)
 have h1:=Int.emod_lt_of_pos n (show (0:Int) < 255 by omega)
 rw [Int.tmod_eq_emod]
 split <;> split <;> omega
theorem pow_any (n:Int) (hn:-9223372036854775808 ≤ n∧n ≤ 9223372036854775807) (w:World):Calls Tryz.prog 105 #[.int .i64 n] w fun e w'=>e=.returned (.int .u8 ((gpow n:Nat):Int))∧w'=w:=by
 obtain ⟨hn1,hn2⟩:=hn
 have Ht:=tmod255 n
 have h0:=Int.emod_nonneg n (show (255:Int) ≠ 0 by omega)
 have h1:=Int.emod_lt_of_pos n (show (0:Int) < 255 by omega)
 have hlo:-255 < n.tmod 255:=Int.lt_tmod_of_pos _ (by omega)
 have hhi:n.tmod 255 < 255:=Int.tmod_lt_of_pos _ (by omega)
 obtain ⟨k,hk⟩:=Int.eq_ofNat_of_zero_le h0
 have H:Hid (gpw 2 k=gpow n):=by unfold gpow;rw [gpw_two_n,hk];exact congrArg gE rfl
 rw [hk] at h1 Ht
 clear hk h0
 by_cases hneg:n.tmod 255 < 0
 ·rw [if_pos hneg] at Ht
  have Ht:=Lib.hid Ht.symm
  rename_i h;clear h
  go_enter Tryz.func105,Tryz.ntmps105
  go_wp2_with (rw [Ht.out];go_at_call 110;refine (power_any 2 k (by decide) (by omega) _).mono ?_;rintro e w' ⟨rfl,rfl⟩)
  go_ret
  exact ⟨ret_int (congrArg Nat.cast H.out),rfl⟩
 ·rw [if_neg hneg] at Ht
  have Ht:=Lib.hid Ht.symm
  go_enter Tryz.func105,Tryz.ntmps105
  go_wp2_with (rw [Ht.out];go_at_call 110;refine (power_any 2 k (by decide) (by omega) _).mono ?_;rintro e w' ⟨rfl,rfl⟩)
  go_ret
  exact ⟨ret_int (congrArg Nat.cast H.out),rfl⟩
end Go.Proofs.YtldfoadildaljaaGreat
end
section
namespace Go.Proofs.YtldfoadildaljaaGreat
open Go.ChangeShapes Go.WideShapes Go.ChangeAt Go.RowKit
section
variable {H:Type} {enc:TypeId × Value→H} {P:Program}
theorem args_again (hl:laidOutB P=true) {W W':World} (hb:Below W.heap.size W W') :
    ∀ {ts:List TypeId} {vs:List Value} {ds:List (DataW H)} {p:List MemPlace},(∀ t ∈ ts,P.readableRec t=true∧t < P.types.size) →
     DataW.TrodAll enc P W 0 (fun _=>true) true ts vs ds p→(∀ x ∈ p,x.block < W.heap.size)→DataW.TrodAll enc P W' 0 (fun b=>decide (b < W.heap.size)) true ts vs ds p
 | [],_,_,_,_,h,_=>by
   obtain ⟨rfl,rfl,rfl⟩:=trodAll_nil h
   exact trodAll_mk0
 | t::ts,_,_,_,hts,h,hlt=>by
   obtain ⟨v,vs1,d,ds1,a,b,rfl,rfl,rfl,h1,h2⟩:=trodAll_cons h
   have ht:=hts t (by simp)
   exact trodAll_cons_mk (Below.trod hl ht.1 ht.2 h1 hb fun x hx=>hlt x (by simp [hx])) (args_again hl hb (fun t' ht'=>hts t' (by simp [ht'])) h2 fun x hx=>hlt x (by simp [hx]))
theorem law_post {f:Func} {s:ChangeSpec} {W W':World} {args:Array Value} {ds gs:List (DataW H)} {before:List MemPlace} {tb:TypeId} (hl:laidOutB P=true)
    (hts0:(f.params.toList.all fun t=>P.readableRec t && decide (t < P.types.size))=true) (hv:s.vars=[]) (hr:f.resultTypes=#[tb]) (htb:P.underlying tb=some .bool)
    (hfn:∀ l:List (DataW H),l.length=f.params.size→(s.fn H l).results=[.lit (.bool true)]∧(s.fn H l).args=l∧(s.fn H l).vars=[])
    (hW:DataW.Whole enc P f.params.toList s.vars false W args.toList ds gs before) (hb:Below W.heap.size W W') :
    ∃ v,Ending.returned (.bool true)=.returned v∧s.post enc P f false true false false W args v W':=by
 have hts:∀ t ∈ f.params.toList,P.readableRec t=true∧t < P.types.size:=fun t ht=>by simpa using List.all_eq_true.1 hts0 t ht
 have hW':=hW
 obtain ⟨p,q,hA,hV,rfl,hfz,hnd⟩:=hW
 rw [hv] at hV
 obtain ⟨rfl,rfl⟩:=trodVars_none hV
 have hlen:ds.length=f.params.size:=by
  have:∀ {ts:List TypeId} {vs:List Value} {ds:List (DataW H)} {p:List MemPlace},DataW.TrodAll enc P W 0 (fun _=>true) true ts vs ds p→ds.length=ts.length:=by
   intro ts
   induction ts with
   | nil=>intro vs ds p h;obtain ⟨rfl,rfl,rfl⟩:=trodAll_nil h;rfl
   | cons t ts ih=>intro vs ds p h;obtain ⟨v,vs1,d,ds1,a,b,rfl,rfl,rfl,h1,h2⟩:=trodAll_cons h;simp [ih h2]
  simpa using this hA
 obtain ⟨e1,e2,e3⟩:=hfn ds hlen
 have hlt:∀ x ∈ p ++ [],x.block < W.heap.size:=fun x hx=>by simpa using hW'.lt x hx
 refine ⟨_,rfl,_,_,_,[],p,[],hW',?_,?_,?_,hb.frame _,fun h=>by cases h⟩
 ·rw [List.append_nil,e1,hr]
  exact trodAll_mk1 (shut_bool htb _)
 ·rw [List.append_nil,e2]
  exact args_again hl hb hts hA (by simpa using hlt)
 ·rw [List.append_nil,e3,hv]
  rfl
end
end Go.Proofs.YtldfoadildaljaaGreat
end
section
namespace Go.Proofs.YtldfoadildaljaaGreat
open Go.RowKit
theorem gret_int {k:IntKind} {a b:Int} (h:a=b):Ending.returned (.int k a)=.returned (.int k b):=by rw [h]
theorem leveled_any (l d c:Int) (w:World) (hl:-9223372036854775808 ≤ l∧l ≤ 9223372036854775807) (hd:-9223372036854775808 ≤ d∧d ≤ 9223372036854775807) (_:-9223372036854775808 ≤ c∧c ≤ 9223372036854775807) :
    Calls Tryz.prog 101 #[.agg #[.int .i64 l,.int .i64 d,.int .i64 c]] w fun e w'=>e=.returned (.bool (lvB l d))∧Below w.heap.size w w':=by
 by_cases h8:8 < d
 ·have H:Hid (lvB l d=false):=lvB_no (by omega)
  go_enter Tryz.func101,Tryz.ntmps101
  go_wp2
  go_ret
  exact ⟨by rw [H.out];rfl,below1 _ _⟩
 ·by_cases h5:l=5
  ·subst h5
   have H:Hid (lvB 5 d=decide (3 ≤ d)):=lvB_5 (by omega)
   go_enter Tryz.func101,Tryz.ntmps101
   go_wp2
   go_ret
   exact ⟨by rw [H.out];rfl,below1 _ _⟩
  ·have e5:(l == 5)=false:=by simpa using h5
   by_cases h6:l=6
   ·subst h6
    have H:Hid (lvB 6 d=decide (4 ≤ d)):=lvB_6 (by omega)
    go_enter Tryz.func101,Tryz.ntmps101
    go_wp2
    go_ret
    exact ⟨by rw [H.out];rfl,below1 _ _⟩
   ·have e6:(l == 6)=false:=by simpa using h6
    have H:Hid (lvB l d=false):=lvB_no (by omega)
    go_enter Tryz.func101,Tryz.ntmps101
    go_wp2
    go_ret
    exact ⟨by rw [H.out];rfl,below1 _ _⟩
theorem chunked_any (l d c:Int) (w:World) (_:-9223372036854775808 ≤ l∧l ≤ 9223372036854775807) (_:-9223372036854775808 ≤ d∧d ≤ 9223372036854775807) (_:-9223372036854775808 ≤ c∧c ≤ 9223372036854775807) :
    Calls Tryz.prog 102 #[.agg #[.int .i64 l,.int .i64 d,.int .i64 c]] w fun e w'=>e=.returned (.bool (chB c))∧Below w.heap.size w w':=by
 by_cases h1:c=1
 ·subst h1
  have H:Hid (chB 1=true):=chB_yes (by omega)
  go_enter Tryz.func102,Tryz.ntmps102
  go_wp2
  go_ret
  exact ⟨by rw [H.out];rfl,below1 _ _⟩
 ·have e1:(c == 1)=false:=by simpa using h1
  by_cases h2:c=2
  ·subst h2
   have H:Hid (chB 2=true):=chB_yes (by omega)
   go_enter Tryz.func102,Tryz.ntmps102
   go_wp2
   go_ret
   exact ⟨by rw [H.out];rfl,below1 _ _⟩
  ·have e2:(c == 2)=false:=by simpa using h2
   by_cases h4:c=4
   ·subst h4
    have H:Hid (chB 4=true):=chB_yes (by omega)
    go_enter Tryz.func102,Tryz.ntmps102
    go_wp2
    go_ret
    exact ⟨by rw [H.out];rfl,below1 _ _⟩
   ·have e4:(c == 4)=false:=by simpa using h4
    have H:Hid (chB c=false):=chB_no (by omega)
    go_enter Tryz.func102,Tryz.ntmps102
    go_wp2
    go_ret
    exact ⟨by rw [H.out];rfl,below1 _ _⟩
def GAt (w:World) (b:Nat) (l d c:Int):Prop:=w.cell? ⟨b,0,none⟩=some (.int .i64 l)∧w.cell? ⟨b,1,none⟩=some (.int .i64 d)∧w.cell? ⟨b,2,none⟩=some (.int .i64 c)
theorem gat_new (w:World) (l d c:Int) (t:TypeId) (f:Nat × Nat):GAt (w.alloc (.cells #[.int .i64 l,.int .i64 d,.int .i64 c] t f)) w.heap.size l d c :=
 ⟨cell_of_row _ _ 0 _ _ _ (heap_alloc_new w _),cell_of_row _ _ 1 _ _ _ (heap_alloc_new w _),cell_of_row _ _ 2 _ _ _ (heap_alloc_new w _)⟩
theorem GAt.below {w w':World} {b B:Nat} {l d c:Int} (h:GAt w b l d c) (hb:Below B w w') (hB:b < B):GAt w' b l d c :=
 ⟨(hb.cell (p:=⟨b,0,none⟩) hB).trans h.1,(hb.cell (p:=⟨b,1,none⟩) hB).trans h.2.1,(hb.cell (p:=⟨b,2,none⟩) hB).trans h.2.2⟩
abbrev GS (w0:World) (B b:Nat) (l d c:Int) (W:World):Prop:=W.cell? ⟨b,0,none⟩=some (.int .i64 l)∧W.cell? ⟨b,1,none⟩=some (.int .i64 d)∧W.cell? ⟨b,2,none⟩=some (.int .i64 c)∧Below B w0 W
theorem GS.drew {w0 W:World} {B b:Nat} {l d c:Int} (h:GS w0 B b l d c W):GS w0 B b l d c W.drew:=⟨h.1,h.2.1,h.2.2.1,h.2.2.2.drew⟩
theorem GS.later {w0 W W':World} {B b:Nat} {l d c:Int} (h:GS w0 B b l d c W) (hb:Below W.heap.size W W') (hB:B ≤ w0.heap.size:=by exact Nat.le_refl _):GS w0 B b l d c W':=by
 obtain ⟨h1,h2,h3,F⟩:=h
 have hl:=World.block_lt_of_cell? _ _ h1
 obtain ⟨a1,a2,a3⟩:=GAt.below ⟨h1,h2,h3⟩ hb hl
 exact ⟨a1,a2,a3,F.trans (hb.mono (Nat.le_trans hB F.size))⟩
theorem check_any (l d c:Int) (w:World) (hl:-9223372036854775808 ≤ l∧l ≤ 9223372036854775807) (hd:-9223372036854775808 ≤ d∧d ≤ 9223372036854775807) (hc:-9223372036854775808 ≤ c∧c ≤ 9223372036854775807) :
    Calls Tryz.prog 82 #[.agg #[.int .i64 l,.int .i64 d,.int .i64 c]] w fun e w'=>e=.returned (.int .i64 (gErr l d c))∧Below w.heap.size w w':=by
 cases hL:lvB l d
 ·have H:Hid (gOk l d c=false):=by unfold gOk;rw [hL];rfl
  have HL:=Lib.hid hL
  clear hL
  go_enter Tryz.func82,Tryz.ntmps82
  go_wp2_with fail
  (with_reducible refine (leveled_any l d c _ hl hd hc).mono ?_);rintro e w1 ⟨rfl,hb⟩
  rw [HL.out]
  have F:=(below1 w _).trans (hb.mono (by simp))
  clear hb
  go_wp2_with fail
  go_ret
  exact ⟨by rw [gErr_no H.out];rfl,F⟩
 ·have H:Hid (gOk l d c=chB c):=by unfold gOk;rw [hL];rfl
  have HL:=Lib.hid hL
  clear hL
  have G:=gat_new w l d c 25 (0,0)
  go_enter Tryz.func82,Tryz.ntmps82
  go_wp2_with fail
  (with_reducible refine (leveled_any l d c _ hl hd hc).mono ?_);rintro e w1 ⟨rfl,hb⟩
  rw [HL.out]
  have F:=(below1 w _).trans (hb.mono (by simp))
  obtain ⟨g1,g2,g3⟩:=G.below hb (by simp)
  clear hb
  go_wp2_with fail
  (with_reducible refine (chunked_any l d c _ hl hd hc).mono ?_);rintro e w2 ⟨rfl,hb⟩
  rw [← H.out]
  have F2:=F.trans (hb.mono F.size)
  clear hb F
  cases hG:gOk l d c
  all_goals
   have HG:=Lib.hid hG
   clear hG
   go_wp2_with fail
   go_ret
   exact ⟨by first | (rw [gErr_no HG.out];rfl) | (rw [gErr_yes HG.out];rfl),F2⟩
theorem check_yes (l d c:Int) (w:World) (h:Hid (gOk l d c=true)) (hl:-9223372036854775808 ≤ l∧l ≤ 9223372036854775807) (hd:-9223372036854775808 ≤ d∧d ≤ 9223372036854775807) (hc:-9223372036854775808 ≤ c∧c ≤ 9223372036854775807) :
    Calls Tryz.prog 82 #[.agg #[.int .i64 l,.int .i64 d,.int .i64 c]] w fun e w'=>e=.returned (.int .i64 0)∧Below w.heap.size w w':=by
 have:=check_any l d c w hl hd hc
 rwa [gErr_yes h.out] at this
theorem check_no (l d c:Int) (w:World) (h:Hid (gOk l d c=false)) (hl:-9223372036854775808 ≤ l∧l ≤ 9223372036854775807) (hd:-9223372036854775808 ≤ d∧d ≤ 9223372036854775807) (hc:-9223372036854775808 ≤ c∧c ≤ 9223372036854775807) :
    Calls Tryz.prog 82 #[.agg #[.int .i64 l,.int .i64 d,.int .i64 c]] w fun e w'=>e=.returned (.int .i64 1)∧Below w.heap.size w w':=by
 have:=check_any l d c w hl hd hc
 rwa [gErr_no h.out] at this
theorem budget_any (l d c:Int) (w:World) (hl:-9223372036854775808 ≤ l∧l ≤ 9223372036854775807) (hd:-9223372036854775808 ≤ d∧d ≤ 9223372036854775807) (hc:-9223372036854775808 ≤ c∧c ≤ 9223372036854775807) :
    Calls Tryz.prog 99 #[.agg #[.int .i64 l,.int .i64 d,.int .i64 c]] w fun e w'=>e=.returned (.int .i64 (gBud l d c))∧Below w.heap.size w w':=by
 have G:=gat_new w l d c 25 (0,0)
 cases hG:gOk l d c
 ·have HG:=Lib.hid hG
  clear hG
  go_enter Tryz.func99,Tryz.ntmps99
  go_wp2_with fail
  (with_reducible refine (check_no l d c _ HG hl hd hc).mono ?_);rintro e w1 ⟨rfl,hb⟩
  have F:=(below1 w _).trans (hb.mono (by simp))
  clear hb
  go_wp2_with fail
  go_ret
  exact ⟨by rw [gBud_no HG.out];rfl,F⟩
 ·have HG:=Lib.hid hG
  clear hG
  by_cases h6:l=6
  ·subst h6
   go_enter Tryz.func99,Tryz.ntmps99
   go_wp2_with fail
   (with_reducible refine (check_yes 6 d c _ HG hl hd hc).mono ?_);rintro e w1 ⟨rfl,hb⟩
   have F:=(below1 w _).trans (hb.mono (by simp))
   obtain ⟨g1,g2,g3⟩:=G.below hb (by simp)
   clear hb
   go_wp2_with fail
   go_ret
   exact ⟨by rw [gBud_yes HG.out];rfl,F⟩
  ·obtain rfl:l=5:=by have:=gOk_yes HG.out;omega
   clear h6
   go_enter Tryz.func99,Tryz.ntmps99
   go_wp2_with fail
   (with_reducible refine (check_yes 5 d c _ HG hl hd hc).mono ?_);rintro e w1 ⟨rfl,hb⟩
   have F:=(below1 w _).trans (hb.mono (by simp))
   obtain ⟨g1,g2,g3⟩:=G.below hb (by simp)
   clear hb
   go_wp2_with fail
   go_ret
   exact ⟨by rw [gBud_yes HG.out];rfl,F⟩
theorem width_any (l d c:Int) (w:World) (hl:-9223372036854775808 ≤ l∧l ≤ 9223372036854775807) (hd:-9223372036854775808 ≤ d∧d ≤ 9223372036854775807) (hc:-9223372036854775808 ≤ c∧c ≤ 9223372036854775807) :
    Calls Tryz.prog 78 #[.agg #[.int .i64 l,.int .i64 d,.int .i64 c]] w fun e w'=>e=.returned (.int .i64 (gWid l d c))∧Below w.heap.size w w':=by
 have G:=gat_new w l d c 25 (0,0)
 cases hG:gOk l d c
 ·have HG:=Lib.hid hG
  clear hG
  go_enter Tryz.func78,Tryz.ntmps78
  go_wp2_with fail
  (with_reducible refine (check_no l d c _ HG hl hd hc).mono ?_);rintro e w1 ⟨rfl,hb⟩
  have F:=(below1 w _).trans (hb.mono (by simp))
  clear hb
  go_wp2_with fail
  go_ret
  exact ⟨by rw [gWid_no HG.out];rfl,F⟩
 ·have HG:=Lib.hid hG
  clear hG
  have HW:Hid (gWid l d c=d - gBud l d c):=by rw [gWid_yes HG.out,gBud_yes HG.out];rfl
  have hB:=gBud_bd l d c
  have hd3:=gOk_bd HG.out
  go_enter Tryz.func78,Tryz.ntmps78
  go_wp2_with fail
  (with_reducible refine (check_yes l d c _ HG hl hd hc).mono ?_);rintro e w1 ⟨rfl,hb⟩
  have F:=(below1 w _).trans (hb.mono (by simp))
  have G1:=G.below hb (by simp)
  have z1:w.heap.size < w1.heap.size:=by have:=hb.size;simp at this;omega
  clear hb G
  have HB:Hid (∀ W,Calls Tryz.prog 99 #[.agg #[.int .i64 l,.int .i64 d,.int .i64 c]] W fun e w'=>e=.returned (.int .i64 (gBud l d c))∧Below W.heap.size W w'):=Lib.hid fun W=>budget_any l d c W hl hd hc
  generalize gBud l d c=bd at hB HW HB
  obtain ⟨g1,g2,g3⟩:=G1
  go_wp2_with fail
  have S0:GS w w.heap.size w.heap.size l d c w1:=⟨g1,g2,g3,F⟩
  clear g1 g2 g3 F z1
  go_region_held3 (GS w w.heap.size w.heap.size l d c)
   (first | assumption | exact GS.drew ‹_›)
   ((go_at_call 99;(with_reducible refine (HB.out _).mono ?_);rintro e w2 ⟨rfl,hb⟩;have S2:=(GS.drew S0).later hb))
  go_wp2
  go_ret
  exact ⟨by rw [HW.out];exact gret_int (IntWalk.i64_in _ (by omega)),S2.2.2.2⟩
abbrev GS2 (w0:World) (B b b':Nat) (l d c l' d' c':Int) (W:World):Prop:=W.cell? ⟨b,0,none⟩=some (.int .i64 l)∧W.cell? ⟨b,1,none⟩=some (.int .i64 d)∧W.cell? ⟨b,2,none⟩=some (.int .i64 c)∧W.cell? ⟨b',0,none⟩=some (.int .i64 l')∧W.cell? ⟨b',1,none⟩=some (.int .i64 d')∧W.cell? ⟨b',2,none⟩=some (.int .i64 c')∧Below B w0 W
theorem GS2.drew {w0 W:World} {B b b':Nat} {l d c l' d' c':Int} (h:GS2 w0 B b b' l d c l' d' c' W):GS2 w0 B b b' l d c l' d' c' W.drew:=⟨h.1,h.2.1,h.2.2.1,h.2.2.2.1,h.2.2.2.2.1,h.2.2.2.2.2.1,h.2.2.2.2.2.2.drew⟩
theorem GS2.later {w0 W W':World} {B b b':Nat} {l d c l' d' c':Int} (h:GS2 w0 B b b' l d c l' d' c' W) (hb:Below W.heap.size W W') (hB:B ≤ w0.heap.size:=by exact Nat.le_refl _):GS2 w0 B b b' l d c l' d' c' W':=by
 obtain ⟨h1,h2,h3,k1,k2,k3,F⟩:=h
 have hl:=World.block_lt_of_cell? _ _ h1
 have kl:=World.block_lt_of_cell? _ _ k1
 obtain ⟨a1,a2,a3⟩:=GAt.below ⟨h1,h2,h3⟩ hb hl
 obtain ⟨b1,b2,b3⟩:=GAt.below ⟨k1,k2,k3⟩ hb kl
 exact ⟨a1,a2,a3,b1,b2,b3,F.trans (hb.mono (Nat.le_trans hB F.size))⟩
theorem gs2_start (w:World) (l d c l' d' c':Int) (t t':TypeId) (f f':Nat × Nat) :
    GS2 w w.heap.size w.heap.size (w.heap.size + 1) l d c l' d' c' ((w.alloc (.cells #[.int .i64 l,.int .i64 d,.int .i64 c] t f)).alloc (.cells #[.int .i64 l',.int .i64 d',.int .i64 c'] t' f')):=by
 have G:=gat_new w l d c t f
 have G':=G.below (below1 _ (.cells #[.int .i64 l',.int .i64 d',.int .i64 c'] t' f')) (by simp)
 have K:=gat_new (w.alloc (.cells #[.int .i64 l,.int .i64 d,.int .i64 c] t f)) l' d' c' t' f'
 rw [show (w.alloc (.cells #[.int .i64 l,.int .i64 d,.int .i64 c] t f)).heap.size=w.heap.size + 1 by simp] at K
 exact ⟨G'.1,G'.2.1,G'.2.2,K.1,K.2.1,K.2.2,below2 _ _ _⟩
end Go.Proofs.YtldfoadildaljaaGreat
end
section
namespace Go.Proofs.YtldfoadildaljaaGreat
open Go.RowKit
def sub:List Nat→Code→Code
 | [],c=>c
 | 0::p,.seq a _=>sub p a
 | _::p,.seq _ b=>sub p b
 | _::p,.block _ c=>sub p c
 | _::p,.loop c=>sub p c
 | _::p,.scope c=>sub p c
 | 0::p,.cond _ a _=>sub p a
 | _::p,.cond _ _ b=>sub p b
 | _,c=>c
end Go.Proofs.YtldfoadildaljaaGreat
end
section
namespace Go.Proofs.YtldfoadildaljaaGreat
def nibs:List Nat:=[0,274646895,549293790,820201905,1098587580,1361435347,1640403810,1905808397,2197175160,2460548119,2722870694,2987750089,3280807620,3553878443,3811616794,4084100981]
def half (x:Nat):Nat:=(x / 16) ^^^ nibs.getD (x % 16) 0
end Go.Proofs.YtldfoadildaljaaGreat
end
section
namespace Go.Proofs.YtldfoadildaljaaGreat
end Go.Proofs.YtldfoadildaljaaGreat
end
section
namespace Go.Proofs.YtldfoadildaljaaGreat
open Go.RowKit
end Go.Proofs.YtldfoadildaljaaGreat
end
