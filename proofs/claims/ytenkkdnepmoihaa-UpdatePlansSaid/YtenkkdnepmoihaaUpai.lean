/- Texts put together: RefSolveM, PlaceOf, PlaceNums, RefOf. -/
import Derived.Test.YtenkkdnepmoihaaUpac
import Derived.Test.YtenkkdnepmoihaaUpaf
import Derived.Test.YtenkkdnepmoihaaUpae
import Derived.Test.YtenkkdnepmoihaaUpab
section
set_option linter.unusedVariables false
set_option linter.unusedSimpArgs false
namespace Go.Proofs.Ytenkkdnepmoihaa

def sumX (g : Nat → UInt8) : Nat → UInt8
  | 0 => 0
  | k + 1 => sumX g k ^^^ g k
theorem sumX_congr {f g : Nat → UInt8} : ∀ n, (∀ k, k < n → f k = g k) → sumX f n = sumX g n
  | 0, _ => rfl
  | n + 1, h => by rw [sumX, sumX, sumX_congr n fun k hk => h k (by omega), h n (by omega)]
theorem xor4 (a b c d : UInt8) : (a ^^^ b) ^^^ (c ^^^ d) = (a ^^^ c) ^^^ (b ^^^ d) := by
  rw [UInt8.xor_assoc, UInt8.xor_assoc, ← UInt8.xor_assoc b c d, UInt8.xor_comm b c, UInt8.xor_assoc c b d]
theorem sumX_xor (f g : Nat → UInt8) : ∀ n, sumX f n ^^^ sumX g n = sumX (fun k => f k ^^^ g k) n
  | 0 => by simp [sumX]
  | n + 1 => by rw [sumX, sumX, sumX, xor4, sumX_xor f g n]
theorem foldG_get {g : Nat → List UInt8 → List UInt8} (hg : ∀ k r, (g k r).length = r.length) {fs : List (List UInt8)} {N i : Nat} (hi : i < N) (hall : ∀ k, k < fs.length → (fs.getD k []).length = N) : ∀ k, k ≤ fs.length → (foldG g 0 (zeroL N) (fs.take k)).getD i 0 = sumX (fun j => (g j (fs.getD j [])).getD i 0) k
  | 0, _ => by simp [foldG, sumX, zeroL, hi]
  | k + 1, hk => by
    have hl := foldG_take_len hg (z := zeroL N) (fun k hk => (hall k hk).trans (by simp [zeroL])) k
    rw [foldG_snoc g (zeroL N) fs k (by omega), xorL_get (by rw [hl]; simp [zeroL]; omega) (by rw [hg, hall k (by omega)]; exact hi), foldG_get hg hi hall k (by omega), sumX]
theorem sumG_get {g : Nat → List UInt8 → List UInt8} (hg : ∀ k r, (g k r).length = r.length) {fs : List (List UInt8)} {N i : Nat} (h0 : 0 < fs.length) (hi : i < N) (hall : ∀ r ∈ fs, r.length = N) : (sumG g fs).getD i 0 = sumX (fun j => (g j (fs.getD j [])).getD i 0) fs.length := by
  obtain ⟨h1, h2⟩ := alikeB_of h0 hall
  unfold sumG
  rw [if_pos h1, h2]
  have := foldG_get hg hi (fs := fs) (fun k hk => hall _ (by simp [hk])) fs.length (Nat.le_refl _)
  rwa [List.take_length] at this
theorem pB_get {fs : List (List UInt8)} {N i : Nat} (h0 : 0 < fs.length) (hi : i < N) (hall : ∀ r ∈ fs, r.length = N) : (pB fs).getD i 0 = sumX (fun j => (fs.getD j []).getD i 0) fs.length := sumG_get (g := gP) gP_len h0 hi hall
theorem qB_get {fs : List (List UInt8)} {N i : Nat} (h0 : 0 < fs.length) (hi : i < N) (hall : ∀ r ∈ fs, r.length = N) : (qB fs).getD i 0 = sumX (fun j => mulU ((fs.getD j []).getD i 0) (gpow (j : Int))) fs.length := (sumG_get (g := gQ) gQ_len h0 hi hall).trans (sumX_congr _ fun k _ => scaleL_get _ _ _)
/-- The sum of some. -/
def sumM (f : Nat → UInt8) (ms : List Nat) : UInt8 := ms.foldl (fun a j => a ^^^ f j) 0
theorem sumM_snoc (f : Nat → UInt8) (ms : List Nat) (k : Nat) : sumM f (ms ++ [k]) = sumM f ms ^^^ f k := by simp [sumM]
theorem sumX_miss (f : Nat → UInt8) (rs : List (List UInt8)) : ∀ n, sumX (fun k => if (rs.getD k []).length = 0 then f k else 0) n = sumM f (missTo rs n)
  | 0 => rfl
  | n + 1 => by
    rw [sumX, sumX_miss f rs n, missTo_succ]
    by_cases h : (rs.getD n []).length = 0
    · rw [if_pos h, if_pos h, sumM_snoc]
    · rw [if_neg h, if_neg h, UInt8.xor_zero]
/-- Rows, of which those that lack are told up to byte i. -/
def rowT (fs rs : List (List UInt8)) (N i k : Nat) : List UInt8 := if (rs.getD k []).length = 0 then (fs.getD k []).take i ++ zeroL (N - i) else fs.getD k []
def rowsT (fs rs : List (List UInt8)) (N i : Nat) : List (List UInt8) := (List.range fs.length).map (rowT fs rs N i)
theorem rowsT_len (fs rs : List (List UInt8)) (N i : Nat) : (rowsT fs rs N i).length = fs.length := by simp [rowsT]
theorem rowsT_get {fs rs : List (List UInt8)} {N i k : Nat} (hk : k < fs.length) : (rowsT fs rs N i).getD k [] = rowT fs rs N i k := by simp [rowsT, hk]
theorem takeZ_at {r : List UInt8} {N i : Nat} (hr : r.length = N) (hi : i < N) : (r.take i ++ zeroL (N - i)).getD i 0 = 0 := by
  have hl : (r.take i).length = i := by rw [List.length_take, hr]; omega
  rw [List.getD_eq_getElem?_getD, List.getElem?_append_right (by omega), hl, Nat.sub_self]
  simp [zeroL, show 0 < N - i by omega]
theorem takeZ_next {r : List UInt8} {N i : Nat} (hr : r.length = N) (hi : i < N) : (r.take i ++ zeroL (N - i)).set i (r.getD i 0) = r.take (i + 1) ++ zeroL (N - (i + 1)) := by
  have hl : (r.take i).length = i := by rw [List.length_take, hr]; omega
  rw [List.set_append_right _ _ (by omega), hl, Nat.sub_self, show N - i = (N - (i + 1)) + 1 by omega]
  unfold zeroL
  rw [List.replicate_succ, List.set_cons_zero, List.take_succ_eq_append_getElem (by omega), List.append_assoc]
  simp [show i < r.length by omega]
section
variable {N : Nat} {fs rs : List (List UInt8)} (h : Lacks N fs rs)
include h
theorem rowT_at {i k : Nat} (hk : k < fs.length) (hi : i < N) : (rowT fs rs N i k).getD i 0 = if (rs.getD k []).length = 0 then 0 else (fs.getD k []).getD i 0 := by
  unfold rowT
  by_cases e : (rs.getD k []).length = 0
  · rw [if_pos e, if_pos e]
    exact takeZ_at (h.full hk) hi
  · rw [if_neg e, if_neg e]
theorem rowT_next {i k : Nat} (hk : k < fs.length) (hi : i < N) : (rowT fs rs N i k).set i ((fs.getD k []).getD i 0) = rowT fs rs N (i + 1) k := by
  unfold rowT
  have hf := h.full hk
  by_cases e : (rs.getD k []).length = 0
  · rw [if_pos e, if_pos e]; exact takeZ_next hf hi
  · rw [if_neg e, if_neg e]
    generalize fs.getD k [] = r at hf
    refine List.ext_getElem (by simp) fun j h1 h2 => ?_
    rw [List.getElem_set]
    by_cases hj : i = j
    · subst hj; simp [hf, hi]
    · rw [if_neg hj]
theorem rowT_all {k : Nat} (hk : k < fs.length) : rowT fs rs N N k = fs.getD k [] := by
  unfold rowT
  by_cases e : (rs.getD k []).length = 0
  · have := h.full hk
    rw [if_pos e, Nat.sub_self]
    generalize fs.getD k [] = r at this
    subst this
    simp [zeroL]
  · rw [if_neg e]
theorem rowsT_all : rowsT fs rs N N = fs := ext_getD (rowsT_len _ _ _ _) fun k hk => by rw [rowsT_len] at hk; rw [rowsT_get hk, rowT_all h hk]
omit h in
theorem rowT_same {i k : Nat} (hm : ¬ (rs.getD k []).length = 0) : rowT fs rs N i k = rowT fs rs N (i + 1) k := by unfold rowT; rw [if_neg hm, if_neg hm]
theorem rowsT_none (hm : missB rs = []) {i : Nat} : rowsT fs rs N i = rowsT fs rs N (i + 1) := ext_getD (by rw [rowsT_len, rowsT_len]) fun k hk => by
  rw [rowsT_len] at hk
  rw [rowsT_get hk, rowsT_get hk]
  exact rowT_same fun e => by
    have : k ∈ missB rs := missTo_mem.2 ⟨by rw [h.len]; exact hk, e⟩
    rw [hm] at this; simp at this
theorem rowsT_one {a : Nat} (hm : missB rs = [a]) {i : Nat} (hi : i < N) : a < fs.length ∧ (rowsT fs rs N i).set a (((rowsT fs rs N i).getD a []).set i ((fs.getD a []).getD i 0)) = rowsT fs rs N (i + 1) := by
  have ha : a < fs.length := by
    have : a ∈ missB rs := by rw [hm]; simp
    have := (missTo_mem.1 this).1
    rw [h.len] at this; exact this
  refine ⟨ha, ext_getD (by rw [List.length_set, rowsT_len, rowsT_len]) fun k hk => ?_⟩
  rw [List.length_set, rowsT_len] at hk
  by_cases e : a = k
  · subst e
    rw [getD_set_same (by rw [rowsT_len]; exact ha), rowsT_get ha, rowsT_get ha, rowT_next h ha hi]
  · rw [getD_set_other e, rowsT_get hk, rowsT_get hk]
    exact rowT_same fun e2 => by
      have : k ∈ missB rs := missTo_mem.2 ⟨by rw [h.len]; exact hk, e2⟩
      rw [hm] at this; simp at this; exact e this.symm
theorem rowsT_two {a b : Nat} (hm : missB rs = [a, b]) {i : Nat} (hi : i < N) : a < fs.length ∧ b < fs.length ∧ a ≠ b ∧
    ((rowsT fs rs N i).set a (((rowsT fs rs N i).getD a []).set i ((fs.getD a []).getD i 0))).set b ((((rowsT fs rs N i).set a (((rowsT fs rs N i).getD a []).set i ((fs.getD a []).getD i 0))).getD b []).set i ((fs.getD b []).getD i 0)) = rowsT fs rs N (i + 1) := by
  have lt : ∀ x, x ∈ missB rs → x < fs.length := fun x hx => by have := (missTo_mem.1 hx).1; rw [h.len] at this; exact this
  have ha := lt a (by rw [hm]; simp)
  have hb := lt b (by rw [hm]; simp)
  have hs := missTo_sorted rs rs.length
  rw [show missTo rs rs.length = [a, b] from hm] at hs
  have hab : a ≠ b := by simp at hs; omega
  refine ⟨ha, hb, hab, ?_⟩
  rw [getD_set_other hab]
  refine ext_getD (by rw [List.length_set, List.length_set, rowsT_len, rowsT_len]) fun k hk => ?_
  rw [List.length_set, List.length_set, rowsT_len] at hk
  by_cases e : b = k
  · subst e
    rw [getD_set_same (by rw [List.length_set, rowsT_len]; exact hb), rowsT_get hb, rowsT_get hb, rowT_next h hb hi]
  · rw [getD_set_other e]
    by_cases e2 : a = k
    · subst e2
      rw [getD_set_same (by rw [rowsT_len]; exact ha), rowsT_get ha, rowsT_get ha, rowT_next h ha hi]
    · rw [getD_set_other e2, rowsT_get hk, rowsT_get hk]
      exact rowT_same fun e3 => by
        have : k ∈ missB rs := missTo_mem.2 ⟨by rw [h.len]; exact hk, e3⟩
        rw [hm] at this; simp at this
        rcases this with q | q
        · exact e2 q.symm
        · exact e q.symm
/-- What the missing ones add up to. -/
theorem sum_p (h0 : 0 < fs.length) {i : Nat} (hi : i < N) : (pB fs).getD i 0 ^^^ sumX (fun k => ((rowsT fs rs N i).getD k []).getD i 0) fs.length = sumM (fun k => (fs.getD k []).getD i 0) (missB rs) := by
  rw [pB_get h0 hi h.alike, sumX_xor, show missB rs = missTo rs fs.length by rw [← h.len]; rfl, ← sumX_miss]
  refine sumX_congr _ fun k hk => ?_
  rw [rowsT_get hk, rowT_at h hk hi]
  by_cases e : (rs.getD k []).length = 0
  · rw [if_pos e, if_pos e, UInt8.xor_zero]
  · rw [if_neg e, if_neg e, UInt8.xor_self]
theorem sum_q (h0 : 0 < fs.length) {i : Nat} (hi : i < N) : (qB fs).getD i 0 ^^^ sumX (fun k => mulU (((rowsT fs rs N i).getD k []).getD i 0) (gpow (k : Int))) fs.length = sumM (fun k => mulU ((fs.getD k []).getD i 0) (gpow (k : Int))) (missB rs) := by
  rw [qB_get h0 hi h.alike, sumX_xor, show missB rs = missTo rs fs.length by rw [← h.len]; rfl, ← sumX_miss]
  refine sumX_congr _ fun k hk => ?_
  rw [rowsT_get hk, rowT_at h hk hi]
  by_cases e : (rs.getD k []).length = 0
  · rw [if_pos e, if_pos e, mulU_zero, UInt8.xor_zero]
  · rw [if_neg e, if_neg e, UInt8.xor_self]
end
theorem mulU_inv (x : UInt8) {f : Nat} (hf : f < 256) (h0 : f ≠ 0) : mulU (mulU x f) (ginv f) = x := by
  rw [mulU_mulU x hf (ginv_lt f), gmul_inv hf h0, mulU_one]
theorem one_q (x : UInt8) (a : Nat) : mulU (0 ^^^ mulU x (gpow (a : Int))) (ginv (gpow (a : Int))) = x := by
  rw [UInt8.zero_xor, mulU_inv x (gpow_lt _) (gpow_ne _)]
theorem two_x (x y : UInt8) {a b : Nat} (ha : a < 255) (hb : b < 255) (hab : a ≠ b) :
    mulU ((0 ^^^ mulU x (gpow (a : Int)) ^^^ mulU y (gpow (b : Int))) ^^^ mulU (0 ^^^ x ^^^ y) (gpow (b : Int))) (ginv (gpow (a : Int) ^^^ gpow (b : Int))) = x := by
  have e : (0 ^^^ mulU x (gpow (a : Int)) ^^^ mulU y (gpow (b : Int))) ^^^ mulU (0 ^^^ x ^^^ y) (gpow (b : Int)) = mulU x (gpow (a : Int) ^^^ gpow (b : Int)) := by
    rw [UInt8.zero_xor, UInt8.zero_xor, mulU_xor, mulU_xor_right x (gpow_lt _) (gpow_lt _), UInt8.xor_assoc, UInt8.xor_comm (mulU x (gpow (b : Int))), ← UInt8.xor_assoc (mulU y (gpow (b : Int))), UInt8.xor_self, UInt8.zero_xor]
  rw [e, mulU_inv x (Nat.xor_lt_two_pow (n := 8) (gpow_lt _) (gpow_lt _)) (gpow_dif ha hb hab)]
end Go.Proofs.Ytenkkdnepmoihaa
end
section
set_option linter.unusedVariables false
set_option linter.unusedSimpArgs false
namespace Go.Proofs.Ytenkkdnepmoihaa
open Go.RowKit

theorem of_any (l d c n : Int) (w : World) (hl : (-9223372036854775808 ≤ l ∧ l ≤ 9223372036854775807)) (hd : (-9223372036854775808 ≤ d ∧ d ≤ 9223372036854775807)) (hc : (-9223372036854775808 ≤ c ∧ c ≤ 9223372036854775807)) (hn : (-9223372036854775808 ≤ n ∧ n ≤ 9223372036854775807)) :
    Calls Try.prog 26 #[.agg #[.int .i64 l, .int .i64 d, .int .i64 c], .int .i64 n] w fun e w' => e = .returned (.tuple #[.int .i64 (plOfD l d c n), .int .i64 (plOfR l d c n), .bool (plOfOk l d c n)]) ∧ Below w.heap.size w w' := by
  have G := gat_new w l d c 24 (0, 0)
  have HD : Hid (∀ b, plOfOk l d c n = b → plOfD l d c n = if b = true then plD l d c (plRow l d c n) (n / c % (d - (l - 4))) else 0) := Lib.hid (fun b h => by subst h; rfl)
  have HR : Hid (∀ b, plOfOk l d c n = b → plOfR l d c n = if b = true then plRow l d c n else 0) := Lib.hid (fun b h => by subst h; rfl)
  have HC := Lib.hid (fun W => capacity_any l d c W hl hd hc)
  have hb7 := gCap_bd l d c
  by_cases h0 : n < 0
  · have H := Lib.hid (plOfOk_no (l := l) (d := d) (c := c) (n := n) (by omega))
    have H1 := Lib.hid ((HD.out false H.out).trans (if_neg (by decide)))
    have H2 := Lib.hid ((HR.out false H.out).trans (if_neg (by decide)))
    have e0 : decide (n < 0) = true := decide_eq_true h0
    go_enter Try.func26, Try.ntmps26
    go_wp2_with fail
    go_ret3
    exact ⟨by rw [H.out, H1.out, H2.out]; rfl, below1 _ _⟩
  · have e0 : decide (n < 0) = false := decide_eq_false h0
    by_cases h1 : gCap l d c ≤ n
    · have H := Lib.hid (plOfOk_no (l := l) (d := d) (c := c) (n := n) (by omega))
      have H1 := Lib.hid ((HD.out false H.out).trans (if_neg (by decide)))
      have H2 := Lib.hid ((HR.out false H.out).trans (if_neg (by decide)))
      clear HD HR
      generalize gCap l d c = cp at HC h1 hb7
      have e1 : decide (cp ≤ n) = true := decide_eq_true h1
      go_enter Try.func26, Try.ntmps26
      go_wp2_with fail
      (with_reducible refine (HC.out _).mono ?_); rintro e w1 ⟨rfl, hb⟩
      have F := (below1 w _).trans (hb.mono (by simp))
      clear hb
      go_wp2_with fail
      go_ret3
      exact ⟨by rw [H.out, H1.out, H2.out]; rfl, F⟩
    · have hok : plOfOk l d c n = true := decide_eq_true (by omega)
      have H := Lib.hid hok
      have hg := plOfOk_ok hok
      have hb6 := gOk_bd hg
      have hcp := gCap_yes hg
      have hgw := gWid_yes hg
      have H1 := Lib.hid ((HD.out true hok).trans (if_pos rfl))
      have H2 := Lib.hid ((HR.out true hok).trans (if_pos rfl))
      have HW := Lib.hid (fun W => width_any l d c W hl hd hc)
      have hw := gWid_bd l d c
      rw [← hgw] at H1
      have H3 : Hid (plRow l d c n = n / c / gWid l d c * c + n % c) := by rw [hgw]; rfl
      generalize plRow l d c n = row at H1 H2 H3
      have hcw : gCap l d c = gWid l d c * 16 := rfl
      generalize gWid l d c = wd at HW hw H1 H3 hgw hcw
      rw [hcw] at HC h1 hb7
      have hch := quo_bd 112 (show 0 ≤ n by omega) (show n < 112 by omega) (show 1 ≤ c by omega)
      have e1 : decide (wd * 16 ≤ n) = false := decide_eq_false h1
      generalize hqq : n / c = ch at H1 H3 hch
      have hst := quo_bd 112 hch.1 hch.2 (show 1 ≤ wd by omega)
      have hk := rem_bd ch (show 1 ≤ wd by omega)
      have hm := rem_bd n (show 1 ≤ c by omega)
      have t1 : n.tdiv c = ch := by rw [Int.tdiv_eq_ediv_of_nonneg (by omega)]; exact hqq
      have hx : 0 ≤ ch / wd * c ∧ ch / wd * c ≤ 112 * 4 := ⟨Int.mul_nonneg hst.1 (by omega), Int.mul_le_mul (by omega) (by omega) (by omega) (by omega)⟩
      have hrow : 0 ≤ row ∧ row ≤ 1000 := by rw [H3.out]; omega
      have HK := Lib.hid (fun W => disk_any l d c row (ch % wd) W hl hd hc (by omega) (by omega))
      have n1 : ¬ c = 0 := by omega
      have n2 : ¬ wd = 0 := by omega
      have i0 : 0 ≤ n := by omega
      have z0 : IntKind.i64.wrap ch = ch := IntWalk.i64_in _ (by omega)
      clear hqq HD HR hok hg hcp h0 h1 hgw hcw
      go_enter Try.func26, Try.ntmps26
      go_wp2_with fail
      (with_reducible refine (HC.out _).mono ?_); rintro e w1 ⟨rfl, hb⟩
      have S1 := GS.later (w0 := w) (B := w.heap.size) ⟨G.1, G.2.1, G.2.2, below1 w _⟩ hb
      clear hb G
      obtain ⟨g1, g2, g3, F⟩ := S1
      go_wp2_with fail
      have S0 : GS w w.heap.size w.heap.size l d c w1 := ⟨g1, g2, g3, F⟩
      clear g1 g2 g3 F
      go_region_held3 (GS w w.heap.size w.heap.size l d c)
        (first | assumption | exact GS.drew ‹_›)
        ((go_at_call 45; (with_reducible refine (HW.out _).mono ?_); rintro e w2 ⟨rfl, hb⟩; have S2 := (GS.drew S0).later hb))
      obtain ⟨g1, g2, g3, F⟩ := S2
      clear S0 hb
      go_wp2_with fail
      go_quiet (fail)
      go_wp2_with fail
      rw [← H3.out]
      have S0 : GS w w.heap.size w.heap.size l d c (w2.drewN nq) := ⟨g1, g2, g3, F.trans (belowN _ _ _)⟩
      have t2 : ch.tmod wd = ch % wd := Int.tmod_eq_emod_of_nonneg hch.1
      clear g1 g2 g3 F
      generalize w2.drewN nq = w4 at S0 ⊢
      clear H3
      go_region_held3 (GS w w.heap.size w.heap.size l d c)
        (first | assumption | exact GS.drew ‹_›)
        ((go_at_call 46; (with_reducible refine (HK.out _).mono ?_); rintro e w3 ⟨rfl, hb⟩; have S3 := (GS.drew S0).later hb))
      go_wp2
      go_ret3
      exact ⟨by rw [H.out, H1.out, H2.out]; rfl, S3.2.2.2⟩
end Go.Proofs.Ytenkkdnepmoihaa
end
section
set_option linter.unusedVariables false
set_option linter.unusedSimpArgs false
namespace Go.Proofs.Ytenkkdnepmoihaa
open Go.RowKit

/-- The first k numbers are there, the others are zeros yet. -/
def plNumsTo (l d c r : Int) (n k : Nat) : List Int := (List.range k).map (fun j : Nat => plN l d c r (j : Int)) ++ List.replicate (n - k) 0
theorem plNumsTo_len (l d c r : Int) {n k : Nat} (h : k ≤ n) : (plNumsTo l d c r n k).length = n := by simp [plNumsTo]; omega
theorem plNumsTo_zero (l d c r : Int) (n : Nat) : plNumsTo l d c r n 0 = List.replicate n 0 := by simp [plNumsTo]
theorem plNumsTo_succ (l d c r : Int) {n k : Nat} (h : k < n) : (plNumsTo l d c r n k).set k (plN l d c r (k : Int)) = plNumsTo l d c r n (k + 1) := by
  unfold plNumsTo
  rw [List.set_append_right _ _ (by simp), show n - k = (n - (k + 1)) + 1 by omega, List.replicate_succ, List.length_map, List.length_range, Nat.sub_self, List.set_cons_zero, List.range_succ, List.map_append, List.append_assoc]
  rfl
theorem plNumsTo_all {l d c r : Int} {n : Nat} (h : plOk l d c r = true) (hn : gWid l d c = n) : plNumsTo l d c r n n = plNums l d c r := by
  have hg := (plOk_yes h).1
  rw [gWid_yes hg] at hn
  unfold plNums plNumsTo
  rw [if_pos h, hn]
  simp
theorem plNums_no {l d c r : Int} (h : plOk l d c r = false) : plNums l d c r = [] := if_neg (by rw [h]; decide)
theorem plNums_len {l d c r : Int} (h : plOk l d c r = true) : (plNums l d c r).length = (gWid l d c).toNat := by
  have hg := (plOk_yes h).1
  rw [gWid_yes hg]
  unfold plNums
  rw [if_pos h]
  simp
theorem plNums_get {l d c r : Int} (h : plOk l d c r = true) {k : Nat} (hk : (k : Int) < gWid l d c) : (plNums l d c r).getD k 0 = plN l d c r (k : Int) := by
  have hg := (plOk_yes h).1
  rw [gWid_yes hg] at hk
  unfold plNums
  rw [if_pos h]
  have : k < (d - (l - 4)).toNat := by omega
  simp [this]
theorem GS.set {w0 W : World} {B b : Nat} {l d c : Int} (h : GS w0 B b l d c W) {p : Addr} (hp : B ≤ p.block) (hne : p.block ≠ b) (u : Value) : GS w0 B b l d c (W.setCell p u) :=
  ⟨(World.cell?_setCell_far _ _ _ _ hne).trans h.1, (World.cell?_setCell_far _ _ _ _ hne).trans h.2.1, (World.cell?_setCell_far _ _ _ _ hne).trans h.2.2.1, h.2.2.2.setCell hp u⟩
set_option maxHeartbeats 800000 in
theorem numbers_own (l d c r : Int) (w : World) (HT : Hid (plOk l d c r = true)) (hl : (-9223372036854775808 ≤ l ∧ l ≤ 9223372036854775807)) (hd : (-9223372036854775808 ≤ d ∧ d ≤ 9223372036854775807)) (hc : (-9223372036854775808 ≤ c ∧ c ≤ 9223372036854775807)) (hr : (-9223372036854775808 ≤ r ∧ r ≤ 9223372036854775807)) :
    Calls Try.prog 29 #[.agg #[.int .i64 l, .int .i64 d, .int .i64 c], .int .i64 r] w fun e w' => ∃ v, e = .returned v ∧ OwJ w' w.heap.size v (plNums l d c r) ∧ Below w.heap.size w w' := by
  have G := gat_new w l d c 24 (0, 0)
  obtain ⟨hg, h0, h1⟩ := plOk_yes HT.out
  have HW := Lib.hid (fun W => width_any l d c W hl hd hc)
  have hw := gWid_bd l d c
  obtain ⟨n, hn⟩ : ∃ n : Nat, gWid l d c = n := ⟨(gWid l d c).toNat, by omega⟩
  have Hall := Lib.hid (plNumsTo_all HT.out hn)
  have HN : Hid (∀ (k : Nat) W, k < n → Calls Try.prog 51 #[.agg #[.int .i64 l, .int .i64 d, .int .i64 c], .int .i64 r, .int .i64 (k : Int)] W fun e w' => e = .returned (.int .i64 (plN l d c r (k : Int))) ∧ Below W.heap.size W w') :=
    Lib.hid (fun k W hk => number_any l d c r (k : Int) W HT (by omega) hl hd hc hr)
  rw [hn] at HW hw
  have hn8 : n ≤ 1000000 := by omega
  have km := make_ints n hn8
  clear hn hg
  go_enter Try.func29, Try.ntmps29
  go_wp2_with fail
  (with_reducible refine (there_yes l d c r _ HT hl hd hc hr).mono ?_); rintro e w1 ⟨rfl, hb⟩
  have S1 := GS.later (w0 := w) (B := w.heap.size) ⟨G.1, G.2.1, G.2.2, below1 w _⟩ hb
  clear hb G
  obtain ⟨g1, g2, g3, F⟩ := S1
  go_wp2_with fail
  (with_reducible refine (HW.out _).mono ?_); rintro e w2 ⟨rfl, hb⟩
  have S2 := GS.later (w0 := w) (B := w.heap.size) ⟨g1, g2, g3, F⟩ hb
  clear hb g1 g2 g3 F
  have own0 := ownJ_make w2 n hn8
  have S3 := S2.later (below1 w2 (.cells (madeCells #[.int .i64 0] n) 3))
  have z2 := S2.2.2.2.size
  have b2 := World.block_lt_of_cell? _ _ S2.1
  clear S2
  rw [← plNumsTo_zero l d c r n] at own0
  go_wp2_with fail
  generalize w2.heap.size = g at own0 S3 z2 b2 ⊢
  generalize w2.alloc (.cells (madeCells #[.int .i64 0] n) 3) = w3 at own0 S3 ⊢
  go_loopw [16] (fun i wr => ∃ k : Nat, k ≤ n ∧ i = .int .i64 k ∧ OwJ wr g (.slice (some ⟨g, 0, none⟩) n n) (plNumsTo l d c r n k) ∧ GS w w.heap.size w.heap.size l d c wr) (fun i _ => n - (intOf i).toNat)
  case atStart => exact ⟨0, Nat.zero_le _, rfl, own0, S3⟩
  case round =>
    obtain ⟨k, hk, rfl, hown, hS⟩ := hrel
    by_cases hlt : k < n
    · have i0 : (0 : Int) ≤ (k : Int) := by omega
      have i1 : (k : Int) < (n : Int) := by omega
      obtain ⟨g1, g2, g3, F⟩ := hS
      go_wp2_with fail
      (with_reducible refine (HN.out k _ hlt).mono ?_); rintro e w4 ⟨rfl, hb⟩
      have S4 := GS.later (w0 := w) (B := w.heap.size) ⟨g1, g2, g3, F⟩ hb
      have hown4 := hown.below hb
      obtain ⟨c4, f4⟩ := hown4.cellF (plNumsTo_len l d c r hk).symm k hlt
      have hown5 := hown4.set (plNumsTo_len l d c r hk).symm k (plN l d c r (k : Int))
      rw [plNumsTo_succ l d c r hlt] at hown5
      have S5 := S4.set (p := ⟨g, k, none⟩) (by show w.heap.size ≤ g; omega) (by show g ≠ w.heap.size; omega) (.int .i64 (plN l d c r (k : Int)))
      clear hb g1 g2 g3 F hown S4 hown4
      go_wp2
      go_roundw
      case rel => exact ⟨k + 1, by omega, by go_num, hown5, S5⟩
      case measure => simp [intOf]; omega
    · obtain rfl : k = n := by omega
      rw [Hall.out] at hown
      go_wp2
      go_ret
      exact ⟨_, rfl, hown.le (by omega), hS.2.2.2⟩
theorem numbers_any (l d c r : Int) (w : World) (hl : (-9223372036854775808 ≤ l ∧ l ≤ 9223372036854775807)) (hd : (-9223372036854775808 ≤ d ∧ d ≤ 9223372036854775807)) (hc : (-9223372036854775808 ≤ c ∧ c ≤ 9223372036854775807)) (hr : (-9223372036854775808 ≤ r ∧ r ≤ 9223372036854775807)) :
    Calls Try.prog 29 #[.agg #[.int .i64 l, .int .i64 d, .int .i64 c], .int .i64 r] w fun e w' => ∃ A cp, e = .returned (.slice A (plNums l d c r).length cp) ∧ RdJ w' w'.heap.size A (plNums l d c r) ∧ Below w.heap.size w w' := by
  cases hT : plOk l d c r
  · have H := Lib.hid (plNums_no hT)
    have HT := Lib.hid hT
    clear hT
    go_enter Try.func29, Try.ntmps29
    go_wp2_with fail
    (with_reducible refine (there_no l d c r _ HT hl hd hc hr).mono ?_); rintro e w1 ⟨rfl, hb⟩
    have F := (below1 w _).trans (hb.mono (by simp))
    clear hb
    go_wp2_with fail
    go_ret
    exact ⟨none, 0, by rw [H.out]; rfl, by rw [H.out]; exact RdJ.nil _ _ _, F⟩
  · refine (numbers_own l d c r w (Lib.hid hT) hl hd hc hr).mono ?_
    rintro e w' ⟨v, rfl, ho, hb⟩
    have hw := gWid_bd l d c
    obtain ⟨A, cp, rfl, hr⟩ := ho.rd (by rw [plNums_len hT]; omega)
    exact ⟨A, cp, rfl, hr, hb⟩
end Go.Proofs.Ytenkkdnepmoihaa
end
section
set_option linter.unusedVariables false
set_option linter.unusedSimpArgs false
namespace Go.Proofs.Ytenkkdnepmoihaa
open Go.RowKit

theorem refOf_any (l d c n : Int) (w : World) (hl : (-9223372036854775808 ≤ l ∧ l ≤ 9223372036854775807)) (hd : (-9223372036854775808 ≤ d ∧ d ≤ 9223372036854775807)) (hc : (-9223372036854775808 ≤ c ∧ c ≤ 9223372036854775807)) (hn : (-9223372036854775808 ≤ n ∧ n ≤ 9223372036854775807)) :
    Calls Try.prog 11 #[.agg #[.int .i64 l, .int .i64 d, .int .i64 c], .int .i64 n] w fun e w' => e = .returned (.tuple #[.int .i64 (plOfD l d c n), .int .i64 (plOfR l d c n), .bool (plOfOk l d c n)]) ∧ Below w.heap.size w w' := by
  have G := gat_new w l d c 24 (0, 0)
  have HD : Hid (∀ b, plOfOk l d c n = b → plOfD l d c n = if b = true then plD l d c (plRow l d c n) (n / c % (d - (l - 4))) else 0) := Lib.hid (fun b h => by subst h; rfl)
  have HR : Hid (∀ b, plOfOk l d c n = b → plOfR l d c n = if b = true then plRow l d c n else 0) := Lib.hid (fun b h => by subst h; rfl)
  have HC := Lib.hid (fun W => refCapacity_any l d c W hl hd hc)
  have hb7 := gCap_bd l d c
  cases hG : gOk l d c
  · have H := Lib.hid (plOfOk_no (l := l) (d := d) (c := c) (n := n) (by rw [gCap_no hG]; omega))
    have H1 := Lib.hid ((HD.out false H.out).trans (if_neg (by decide)))
    have H2 := Lib.hid ((HR.out false H.out).trans (if_neg (by decide)))
    have HG := Lib.hid hG
    clear hG
    go_enter Try.func11, Try.ntmps11
    go_wp2_with fail
    (with_reducible refine (refCheck_no l d c _ HG hl hd hc).mono ?_); rintro e w1 ⟨rfl, hb⟩
    have F := (below1 w _).trans (hb.mono (by simp))
    clear hb
    go_wp2_with fail
    go_ret3
    exact ⟨by rw [H.out, H1.out, H2.out]; rfl, F⟩
  · have HG := Lib.hid hG
    clear hG
    by_cases h0 : n < 0
    · have H := Lib.hid (plOfOk_no (l := l) (d := d) (c := c) (n := n) (by omega))
      have H1 := Lib.hid ((HD.out false H.out).trans (if_neg (by decide)))
      have H2 := Lib.hid ((HR.out false H.out).trans (if_neg (by decide)))
      have e0 : decide (n < 0) = true := decide_eq_true h0
      go_enter Try.func11, Try.ntmps11
      go_wp2_with fail
      (with_reducible refine (refCheck_yes l d c _ HG hl hd hc).mono ?_); rintro e w1 ⟨rfl, hb⟩
      have F := (below1 w _).trans (hb.mono (by simp))
      clear hb
      go_wp2_with fail
      go_ret3
      exact ⟨by rw [H.out, H1.out, H2.out]; rfl, F⟩
    · have e0 : decide (n < 0) = false := decide_eq_false h0
      by_cases h1 : gCap l d c ≤ n
      · have H := Lib.hid (plOfOk_no (l := l) (d := d) (c := c) (n := n) (by omega))
        have H1 := Lib.hid ((HD.out false H.out).trans (if_neg (by decide)))
        have H2 := Lib.hid ((HR.out false H.out).trans (if_neg (by decide)))
        clear HD HR
        generalize gCap l d c = cp at HC h1 hb7
        have e1 : decide (cp ≤ n) = true := decide_eq_true h1
        go_enter Try.func11, Try.ntmps11
        go_wp2_with fail
        (with_reducible refine (refCheck_yes l d c _ HG hl hd hc).mono ?_); rintro e w1 ⟨rfl, hb⟩
        have S1 := GS.later (w0 := w) (B := w.heap.size) ⟨G.1, G.2.1, G.2.2, below1 w _⟩ hb
        clear hb G
        obtain ⟨g1, g2, g3, F⟩ := S1
        go_wp2_with fail
        (with_reducible refine (HC.out _).mono ?_); rintro e w2 ⟨rfl, hb⟩
        have S2 := GS.later (w0 := w) (B := w.heap.size) ⟨g1, g2, g3, F⟩ hb
        clear hb g1 g2 g3 F
        go_wp2_with fail
        go_ret3
        exact ⟨by rw [H.out, H1.out, H2.out]; rfl, S2.2.2.2⟩
      · have hok : plOfOk l d c n = true := decide_eq_true (by omega)
        have H := Lib.hid hok
        have hg := plOfOk_ok hok
        have hb6 := gOk_bd hg
        have hcp := gCap_yes hg
        have hgw := gWid_yes hg
        have H1 := Lib.hid ((HD.out true hok).trans (if_pos rfl))
        have H2 := Lib.hid ((HR.out true hok).trans (if_pos rfl))
        have HW := Lib.hid (fun W => refWidth_any l d c W hl hd hc)
        have hw := gWid_bd l d c
        rw [← hgw] at H1
        have H3 : Hid (plRow l d c n = n / c / gWid l d c * c + n % c) := by rw [hgw]; rfl
        generalize plRow l d c n = row at H1 H2 H3
        have hcw : gCap l d c = gWid l d c * 16 := rfl
        generalize gWid l d c = wd at HW hw H1 H3 hgw hcw
        rw [hcw] at HC h1 hb7
        have hch := quo_bd 112 (show 0 ≤ n by omega) (show n < 112 by omega) (show 1 ≤ c by omega)
        have e1 : decide (wd * 16 ≤ n) = false := decide_eq_false h1
        generalize hqq : n / c = ch at H1 H3 hch
        have hst := quo_bd 112 hch.1 hch.2 (show 1 ≤ wd by omega)
        have hk := rem_bd ch (show 1 ≤ wd by omega)
        have hm := rem_bd n (show 1 ≤ c by omega)
        have hx : 0 ≤ ch / wd * c ∧ ch / wd * c ≤ 112 * 4 := ⟨Int.mul_nonneg hst.1 (by omega), Int.mul_le_mul (by omega) (by omega) (by omega) (by omega)⟩
        have hrow : 0 ≤ row ∧ row ≤ 1000 := by rw [H3.out]; omega
        have HK := Lib.hid (fun W => refDisk_any l d c row (ch % wd) W hl hd hc (by omega) (by omega))
        have t1 : n.tdiv c = ch := by rw [Int.tdiv_eq_ediv_of_nonneg (by omega)]; exact hqq
        have t3 : n.tmod c = n % c := Int.tmod_eq_emod_of_nonneg (by omega)
        have t4 : ch.tdiv wd = ch / wd := Int.tdiv_eq_ediv_of_nonneg hch.1
        have n1 : ¬ c = 0 := by omega
        have n2 : ¬ wd = 0 := by omega
        have i0 : 0 ≤ n := by omega
        have z0 : IntKind.i64.wrap ch = ch := IntWalk.i64_in _ (by omega)
        have z1 : IntKind.i64.wrap (ch / wd) = ch / wd := IntWalk.i64_in _ (by omega)
        have z2 : IntKind.i64.wrap (ch / wd * c) = ch / wd * c := IntWalk.i64_in _ (by omega)
        have z3 : IntKind.i64.wrap (ch / wd * c + n % c) = row := by rw [← H3.out]; exact IntWalk.i64_in _ (by omega)
        have t2 : ch.tmod wd = ch % wd := Int.tmod_eq_emod_of_nonneg hch.1
        have Q1 := Lib.hid hqq
        clear HD HR hok hg hcp h0 h1 hgw hcw hqq
        go_enter Try.func11, Try.ntmps11
        go_wp2_with fail
        (with_reducible refine (refCheck_yes l d c _ HG hl hd hc).mono ?_); rintro e w1 ⟨rfl, hb⟩
        have S1 := GS.later (w0 := w) (B := w.heap.size) ⟨G.1, G.2.1, G.2.2, below1 w _⟩ hb
        clear hb G
        obtain ⟨g1, g2, g3, F⟩ := S1
        go_wp2_with fail
        (with_reducible refine (HC.out _).mono ?_); rintro e w2 ⟨rfl, hb⟩
        have S2 := GS.later (w0 := w) (B := w.heap.size) ⟨g1, g2, g3, F⟩ hb
        clear hb g1 g2 g3 F
        obtain ⟨g1, g2, g3, F⟩ := S2
        go_wp2_with fail
        try rw [Q1.out]
        have S0 : GS w w.heap.size w.heap.size l d c w2 := ⟨g1, g2, g3, F⟩
        clear g1 g2 g3 F
        go_region_held3 (GS w w.heap.size w.heap.size l d c)
          (first | assumption | exact GS.drew ‹_›)
          ((go_at_call 24; (with_reducible refine (HW.out _).mono ?_); rintro e w3 ⟨rfl, hb⟩; have S3 := (GS.drew S0).later hb))
        clear S0 hb
        obtain ⟨g1, g2, g3, F⟩ := S3
        go_wp2_with fail
        have S0 : GS w w.heap.size w.heap.size l d c w3 := ⟨g1, g2, g3, F⟩
        clear g1 g2 g3 F H3
        go_region_held3 (GS w w.heap.size w.heap.size l d c)
          (first | assumption | exact GS.drew ‹_›)
          (first
            | (go_at_call 24; (with_reducible refine (HW.out _).mono ?_); rintro e w4 ⟨rfl, hb⟩; have S4 := (GS.drew S0).later hb; clear hb)
            | (go_at_call 33; (with_reducible refine (HK.out _).mono ?_); rintro e w5 ⟨rfl, hb⟩; have S5 := S4.later hb))
        go_wp2
        go_ret3
        exact ⟨by rw [H.out, H1.out, H2.out]; rfl, S5.2.2.2⟩
end Go.Proofs.Ytenkkdnepmoihaa
end
