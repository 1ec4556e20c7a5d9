/- Texts put together: SupPut, SupPutG, KeepCut, SyndQ, Parts, PlayGood, SupEq. -/
import Derived.Test.YtiipdhmfdgbmiaaDoorTbaf
import Derived.Test.YtiipdhmfdgbmiaaDoorTbaa
import Derived.Test.YtiipdhmfdgbmiaaDoorTbab
import Derived.Test.YtiipdhmfdgbmiaaDoorTbah
import Derived.Test.YtiipdhmfdgbmiaaDoorTbag
import Derived.Test.YtiipdhmfdgbmiaaDoorTbac
section
set_option linter.unusedVariables false
set_option linter.unusedSimpArgs false
namespace Go.Proofs.YtiipdhmfdgbmiaaDoor
open Go.RowKit

/-- Bytes off .. off + len - 1 set to the lowest k bytes of n, from the last one on. -/
def putK (bs : List UInt8) (off len : Nat) (n : Int) (k : Nat) : List UInt8 := (List.range k).foldl (fun l i => l.set (off + (len - 1 - i)) (byN n i)) bs
theorem putK_succ (bs : List UInt8) (off len : Nat) (n : Int) (k : Nat) : putK bs off len n (k + 1) = (putK bs off len n k).set (off + (len - 1 - k)) (byN n k) := by
  unfold putK; rw [List.range_succ, List.foldl_append]; rfl
theorem putK_len (bs : List UInt8) (off len : Nat) (n : Int) (k : Nat) : (putK bs off len n k).length = bs.length := by
  induction k with
  | zero => rfl
  | succ k ih => rw [putK_succ, List.length_set, ih]
theorem byN_wrap (n : Int) (hn : 0 ≤ n) (k : Nat) (hk : k < 4) : n / 2 ^ (8 * k) % 256 = ((byN n k).toNat : Int) := by
  obtain ⟨m, rfl⟩ := Int.eq_ofNat_of_zero_le hn
  match k, hk with
  | 0, _ => simp only [byN, UInt8.toNat_ofNat']; omega
  | 1, _ => simp only [byN, UInt8.toNat_ofNat']; omega
  | 2, _ => simp only [byN, UInt8.toNat_ofNat']; omega
  | 3, _ => simp only [byN, UInt8.toNat_ofNat']; omega
set_option maxHeartbeats 1000000 in
theorem suPut_any (g off len cap cap0 B : Nat) (n : Int) (bs : List UInt8) (w : World) (hn : 0 ≤ n ∧ n ≤ 2147483647) (h : OwB 5 w B (.slice (some ⟨g, 0, none⟩) 32 cap0) bs) (hbs : bs.length = 32) (hl : off + len ≤ 32) (h4 : len ≤ 4) (hc : len ≤ cap) :
    Calls Tryd.prog 59 #[.slice (some ⟨g, off, none⟩) len cap, .int .i64 n] w fun e w' => e = .returned (.tuple #[]) ∧ OwB 5 w' B (.slice (some ⟨g, 0, none⟩) 32 cap0) (putK bs off len n len) ∧ w.grownBy w' (some g) := by
  go_enter Tryd.func59, Tryd.ntmps59
  go_wp2
  go_loopw [7] (fun i wr => ∃ k : Nat, k ≤ len ∧ i = .int .i64 k ∧ OwB 5 wr B (.slice (some ⟨g, 0, none⟩) 32 cap0) (putK bs off len n k) ∧ w.grownBy wr (some g)) (fun i _ => len - (intOf i).toNat)
  case atStart => exact ⟨0, by omega, rfl, h, World.grownBy.refl w _⟩
  case round =>
    obtain ⟨k, hk, rfl, hown, hgr⟩ := hrel
    by_cases hlt : k < len
    · obtain ⟨hc1, hf⟩ := hown.cell ((putK_len bs off len n k).trans hbs) (off + (len - 1 - k)) (by omega)
      have Hset := Lib.hid (hown.set ((putK_len bs off len n k).trans hbs) (off + (len - 1 - k)) (byN n k))
      rw [← putK_succ] at Hset
      have Hb := byN_wrap n hn.1 k (by omega)
      go_wp2
      go_roundw
      case rel => exact ⟨k + 1, by omega, by go_num, Hset.out.1, hgr.trans Hset.out.2⟩
      case measure => simp [intOf]; omega
    · obtain rfl : k = len := by omega
      go_wp2
      go_end0
      exact ⟨rfl, hown, hgr⟩
end Go.Proofs.YtiipdhmfdgbmiaaDoor
end
section
set_option linter.unusedVariables false
set_option linter.unusedSimpArgs false
namespace Go.Proofs.YtiipdhmfdgbmiaaDoor
open Go.RowKit

theorem OwB.drew {e : TypeId} {w : World} {B : Nat} {v : Value} {bs : List UInt8} (h : OwB e w B v bs) : OwB e w.drew B v bs := h.below (Below.refl _ _).drew
/-- What stays while bytes of block g are set: a box of a geometry. -/
abbrev GO (w0 : World) (g b : Nat) (l d c : Int) (W : World) : Prop := W.cell? ⟨b, 0, none⟩ = some (.int .i64 l) ∧ W.cell? ⟨b, 1, none⟩ = some (.int .i64 d) ∧ W.cell? ⟨b, 2, none⟩ = some (.int .i64 c) ∧ w0.grownBy W (some g)
theorem GO.drew {w0 W : World} {g b : Nat} {l d c : Int} (h : GO w0 g b l d c W) : GO w0 g b l d c W.drew := ⟨h.1, h.2.1, h.2.2.1, grown_drewN h.2.2.2 1⟩
theorem GO.later {w0 W W' : World} {g b : Nat} {l d c : Int} (h : GO w0 g b l d c W) (hg : W.grownBy W' (some g)) (hne : b ≠ g) : GO w0 g b l d c W' := by
  obtain ⟨h1, h2, h3, F⟩ := h
  have hn : ∀ k, some (⟨b, k, none⟩ : Addr).block ≠ some g := fun k e => hne (by injection e)
  exact ⟨hg.cell h1 (hn 0), hg.cell h2 (hn 1), hg.cell h3 (hn 2), F.trans hg⟩
set_option maxHeartbeats 2000000 in
theorem suPutG_any (g off cap B : Nat) (l d c : Int) (bs : List UInt8) (w : World) (hl : 0 ≤ l ∧ l ≤ 255) (hd : 0 ≤ d ∧ d ≤ 255) (hc : 0 ≤ c ∧ c ≤ 255) (h : OwB 5 w B (.slice (some ⟨g, 0, none⟩) 32 32) bs) (hbs : bs.length = 32)
    (hoc : (off = 8 ∧ cap = 24) ∨ (off = 11 ∧ cap = 21)) :
    Calls Tryd.prog 60 #[.slice (some ⟨g, off, none⟩) 3 cap, .agg #[.int .i64 l, .int .i64 d, .int .i64 c]] w fun e w' => e = .returned (.tuple #[]) ∧ OwB 5 w' B (.slice (some ⟨g, 0, none⟩) 32 32) (putK (putK (putK bs off 1 l 1) (off + 1) 1 d 1) (off + 2) 1 c 1) ∧ w.grownBy w' (some g) := by
  have P : Hid (∀ (W : World) (xs : List UInt8) (o cp : Nat) (n : Int), OwB 5 W B (.slice (some ⟨g, 0, none⟩) 32 32) xs → xs.length = 32 → o ≤ 30 → 1 ≤ cp → (0 ≤ n ∧ n ≤ 255) →
      Calls Tryd.prog 59 #[.slice (some ⟨g, o, none⟩) 1 cp, .int .i64 n] W fun e w' => e = .returned (.tuple #[]) ∧ OwB 5 w' B (.slice (some ⟨g, 0, none⟩) 32 32) (putK xs o 1 n 1) ∧ W.grownBy w' (some g)) :=
    Lib.hid fun W xs o cp n ho hx h1 h2 h3 => suPut_any g o 1 cp 32 B n xs W (by omega) ho hx (by omega) (by omega) h2
  have hgl : g < w.heap.size := (h.lt g rfl).2
  have hne : w.heap.size ≠ g := by omega
  have O0 := h.below (below1 w (.cells #[.int .i64 l, .int .i64 d, .int .i64 c] 30))
  have S0 : GO w g w.heap.size l d c (w.alloc (.cells #[.int .i64 l, .int .i64 d, .int .i64 c] 30)) := by
    obtain ⟨a1, a2, a3⟩ := gat_new w l d c 30 (0, 0)
    exact ⟨a1, a2, a3, World.grownBy_alloc _ _ _⟩
  clear h
  generalize hW0 : w.alloc (.cells #[.int .i64 l, .int .i64 d, .int .i64 c] 30) = W0 at O0 S0
  rcases hoc with ⟨rfl, rfl⟩ | ⟨rfl, rfl⟩
  all_goals
    go_enter Tryd.func60, Tryd.ntmps60
    go_wp2
    clear hW0
    go_region_held3 (GO w g w.heap.size l d c)
      (first | assumption | exact GO.drew ‹_›)
      (first
      | (go_at_call 59
         (with_reducible refine (P.out _ bs _ _ _ (OwB.drew O0) hbs (by omega) (by omega) hl).mono ?_)
         rintro e w1 ⟨rfl, O1, g1⟩
         have S1 := (GO.drew S0).later g1 hne
         dsimp only))
    clear S0 O0 g1
    go_wp2
    go_region_held3 (GO w g w.heap.size l d c)
      (first | assumption | exact GO.drew ‹_›)
      (first
      | (go_at_call 59
         (with_reducible refine (P.out _ _ _ _ _ (OwB.drew O1) ((putK_len _ _ _ _ _).trans hbs) (by omega) (by omega) hd).mono ?_)
         rintro e w2 ⟨rfl, O2, g2⟩
         have S2 := (GO.drew S1).later g2 hne
         dsimp only))
    clear S1 O1 g2
    go_wp2
    go_region_held3 (GO w g w.heap.size l d c)
      (first | assumption | exact GO.drew ‹_›)
      (first
      | (go_at_call 59
         (with_reducible refine (P.out _ _ _ _ _ (OwB.drew O2) ((putK_len _ _ _ _ _).trans ((putK_len _ _ _ _ _).trans hbs)) (by omega) (by omega) hc).mono ?_)
         rintro e w3 ⟨rfl, O3, g3⟩
         have S3 := (GO.drew S2).later g3 hne
         dsimp only))
    go_wp2
    go_end0
    exact ⟨rfl, O3, S3.2.2.2⟩
end Go.Proofs.YtiipdhmfdgbmiaaDoor
end
section
namespace Go.Proofs.YtiipdhmfdgbmiaaDoor
open Go.RowKit

end Go.Proofs.YtiipdhmfdgbmiaaDoor
end
section
set_option maxRecDepth 20000
namespace Go.Proofs.YtiipdhmfdgbmiaaDoor
open Go.RowKit

theorem OwB.drewI {e : TypeId} {w : World} {B : Nat} {v : Value} {bs : List UInt8} (h : OwB e w B v bs) : OwB e w.drew B v bs := h
/-- a times f, its first j bytes so far. -/
def scTo (a : List UInt8) (f j : Nat) : List UInt8 := scaleL (a.take j) f ++ zeroL (a.length - j)
theorem scTo_len (a : List UInt8) (f : Nat) {j : Nat} (hj : j ≤ a.length) : (scTo a f j).length = a.length := by
  simp [scTo, scaleL_len, zeroL_len]; omega
theorem scTo_zero (a : List UInt8) (f : Nat) : scTo a f 0 = List.replicate a.length 0 := by simp [scTo, scaleL, zeroL]
theorem scTo_all (a : List UInt8) (f : Nat) : scTo a f a.length = scaleL a f := by simp [scTo, zeroL]
theorem scTo_succ (a : List UInt8) (f : Nat) {j : Nat} (hj : j < a.length) : (scTo a f j).set j (mulU (a.getD j 0) f) = scTo a f (j + 1) := by
  have hl : (scaleL (a.take j) f).length = j := by rw [scaleL_len]; simp; omega
  unfold scTo
  rw [List.set_append_right _ _ (by omega), hl, Nat.sub_self]
  rw [show a.length - j = (a.length - (j + 1)) + 1 from by omega]
  unfold zeroL
  rw [List.replicate_succ, List.set_cons_zero, List.take_succ_eq_append_getElem hj]
  unfold scaleL
  rw [List.map_append, List.append_assoc]
  simp [hj]
end Go.Proofs.YtiipdhmfdgbmiaaDoor
end
section
namespace Go.Proofs.YtiipdhmfdgbmiaaDoor
open Go.RowKit

theorem info_row : (Tryd.prog.info? 38).map (fun i => (i.zero, i.size, i.bytes)) = some (some (.slice none 0 0), 1, 24) := by kernel_rfl
/-- One part of numbers. -/
def partB (n : Int) (b : List UInt8) : List UInt8 := if n.tmod 5 = 4 then b.take 9 else (b.take 9 ++ List.replicate 9 0).take (1 + (withinI n 8).toNat)
def partsR (rs : List (List UInt8)) (n : Int) : List (List UInt8) := (rs.take 7).map (partB n)
theorem partB_le (n : Int) (b : List UInt8) : (partB n b).length ≤ 18 := by
  unfold partB
  split <;> simp <;> omega
theorem partsR_len (rs : List (List UInt8)) (n : Int) : (partsR rs n).length = min 7 rs.length := by simp [partsR]
theorem partsR_mem_le {rs : List (List UInt8)} {n : Int} : ∀ r ∈ partsR rs n, r.length ≤ 18 := fun r hr => by
  unfold partsR at hr
  obtain ⟨b, _, rfl⟩ := List.mem_map.1 hr
  exact partB_le n b
/-- With a number that is a multiple of five all parts are as long. -/
theorem partsR_alike {rs : List (List UInt8)} {n : Int} (h : n.tmod 5 = 0) : ∀ r ∈ partsR rs n, r.length = 1 + (withinI n 8).toNat := fun r hr => by
  unfold partsR at hr
  obtain ⟨b, _, rfl⟩ := List.mem_map.1 hr
  unfold partB
  rw [if_neg (by omega)]
  have := withinI_bd n 8 (by omega)
  simp
  omega
theorem partsR_snoc (rs : List (List UInt8)) (n : Int) (k : Nat) (h : k < rs.length) : (rs.take (k + 1)).map (partB n) = (rs.take k).map (partB n) ++ [partB n (rs.getD k [])] := by
  rw [List.take_succ_eq_append_getElem h, List.map_append]
  simp [h]
theorem ownsRow_ob {w : World} {base : Nat} {e : TypeId} {size : Nat} {v : Value} {n : Nat} {xs : List Value} (h : w.ownsRow base e size v n xs) : ∀ j, v.ownBlock = some j → base ≤ j ∧ j < w.heap.size := h.lt
theorem OwB.addr_ob {e : TypeId} {w : World} {B : Nat} {A : Option Addr} {n c : Nat} {bs : List UInt8} (h : OwB e w B (.slice A n c) bs) (hp : 0 < bs.length) : ∀ a, A = some a → B ≤ a.block := fun a ha => by
  obtain ⟨g, cap, hv, hB, _⟩ := h.pos hp
  injection hv with h1 _ _
  rw [ha] at h1
  injection h1 with h1
  subst h1
  exact hB
end Go.Proofs.YtiipdhmfdgbmiaaDoor
end
section
set_option linter.unusedVariables false
set_option linter.unusedSimpArgs false
namespace Go.Proofs.YtiipdhmfdgbmiaaDoor
open Go.RowKit

def pgO (n : Int) : Bool := gOk (pgL n) (pgD n) (pgC n)
def goL (n : Int) : Int := if pgO n = true then pgL n else 5
def goD (n : Int) : Int := if pgO n = true then pgD n else 3
def goC (n : Int) : Int := if pgO n = true then pgC n else 1
theorem go_ok (n : Int) : gOk (goL n) (goD n) (goC n) = true := by
  unfold goL goD goC
  cases h : pgO n
  · rfl
  · simp; exact h
theorem below_cells {W w1 : World} (hb : Below W.heap.size W w1) : (∀ b o, b < W.heap.size → w1.cell? ⟨b, o, none⟩ = W.cell? ⟨b, o, none⟩) ∧ (∀ b o, b < W.heap.size → w1.frozen? ⟨b, o, none⟩ = W.frozen? ⟨b, o, none⟩) :=
  ⟨fun b o h => hb.cell (p := ⟨b, o, none⟩) h, fun b o h => hb.frozen (p := ⟨b, o, none⟩) h⟩
set_option maxHeartbeats 1000000 in
theorem playGood_any (n : Int) (w : World) (hn : -9223372036854775808 ≤ n ∧ n ≤ 9223372036854775807) :
    Calls Tryd.prog 35 #[.int .i64 n] w fun e w' => e = .returned (.agg #[.int .i64 (goL n), .int .i64 (goD n), .int .i64 (goC n)]) ∧ Below w.heap.size w w' := by
  have HP := Lib.hid (fun W => playGeom_any n W hn)
  have b := pg_bd n
  have HC := Lib.hid (fun W => refCheck_any (pgL n) (pgD n) (pgC n) W (by omega) (by omega) (by omega))
  obtain ⟨L, hL⟩ : ∃ L, L = goL n := ⟨_, rfl⟩
  obtain ⟨D, hD⟩ : ∃ D, D = goD n := ⟨_, rfl⟩
  obtain ⟨C, hC⟩ : ∃ C, C = goC n := ⟨_, rfl⟩
  have HL := Lib.hid (hL.trans (show goL n = if gOk (pgL n) (pgD n) (pgC n) = true then pgL n else 5 from rfl))
  have HD := Lib.hid (hD.trans (show goD n = if gOk (pgL n) (pgD n) (pgC n) = true then pgD n else 3 from rfl))
  have HK := Lib.hid (hC.trans (show goC n = if gOk (pgL n) (pgD n) (pgC n) = true then pgC n else 1 from rfl))
  rw [← hL, ← hD, ← hC]
  clear hL hD hC
  generalize pgL n = l at b HP HC HL HD HK
  generalize pgD n = d at b HP HC HL HD HK
  generalize pgC n = c at b HP HC HL HD HK
  generalize gOk l d c = ok at HC HL HD HK
  have G := gat_new w 0 0 0 30 (0, 0)
  go_enter Tryd.func35, Tryd.ntmps35
  go_wp2_with fail
  (with_reducible refine (HP.out _).mono ?_); rintro e w1 ⟨rfl, hb⟩
  obtain ⟨hc1, hf1⟩ := below_cells hb
  have G1 := (G.below hb (by simp)).below (below1 w1 (.cells #[.int .i64 l, .int .i64 d, .int .i64 c] 30)) (by have := hb.size; simp at this; omega)
  have hz1 : w.heap.size < w1.heap.size := by have := hb.size; simp at this; omega
  have F1 := (below1 w _).trans (hb.mono (by simp))
  clear hb
  go_wp2_with fail
  (with_reducible refine (HC.out _).mono ?_); rintro e w2 ⟨rfl, hb⟩
  obtain ⟨hc2, hf2⟩ := below_cells hb
  obtain ⟨g1, g2, g3⟩ := G1.below hb (by simp; omega)
  have hz2 : w1.heap.size < w2.heap.size := by have := hb.size; simp at this; omega
  have F2 := F1.trans (((below1 w1 _).trans (hb.mono (by simp))).mono F1.size)
  clear hb F1
  cases ok
  · go_wp2_with fail
    refine bodyPost_ret (v := .agg #[.int .i64 5, .int .i64 3, .int .i64 1]) (by simp [results, Tryd.results35, go_sem, g1, g2, g3]) rfl ⟨?_, ?_⟩
    · rw [HL.out, HD.out, HK.out]; rfl
    · exact ((F2.setCell (Nat.le_refl _) _).setCell (Nat.le_refl _) _).setCell (Nat.le_refl _) _
  · go_wp2_with fail
    refine bodyPost_ret (v := .agg #[.int .i64 l, .int .i64 d, .int .i64 c]) (by simp [results, Tryd.results35, go_sem, g1, g2, g3]) rfl ⟨?_, ?_⟩
    · rw [HL.out, HD.out, HK.out]; rfl
    · exact ((F2.setCell (Nat.le_refl _) _).setCell (Nat.le_refl _) _).setCell (Nat.le_refl _) _
end Go.Proofs.YtiipdhmfdgbmiaaDoor
end
section
set_option linter.unusedVariables false
set_option linter.unusedSimpArgs false
namespace Go.Proofs.YtiipdhmfdgbmiaaDoor
open Go.RowKit

theorem su_eql (s t : Su) (w : World) : (binOp .eql 32 (.agg #[.int .i64 s.g, .int .i64 s.al, .int .i64 s.ad, .int .i64 s.ac, .int .i64 s.bl, .int .i64 s.bd, .int .i64 s.bc, .bool s.r, .int .i64 s.wi, .int .i64 s.ep, .int .i64 s.ou]) (.agg #[.int .i64 t.g, .int .i64 t.al, .int .i64 t.ad, .int .i64 t.ac, .int .i64 t.bl, .int .i64 t.bd, .int .i64 t.bc, .bool t.r, .int .i64 t.wi, .int .i64 t.ep, .int .i64 t.ou])).run Tryd.prog w = .ok (.bool (suEq s t)) w := by
  obtain ⟨a1, a2, a3, a4, a5, a6, a7, a8, a9, a10, a11⟩ := s
  obtain ⟨b1, b2, b3, b4, b5, b6, b7, b8, b9, b10, b11⟩ := t
  unfold suEq
  dsimp only
  by_cases h1 : a1 = b1
  · by_cases h2 : a2 = b2
    · by_cases h3 : a3 = b3
      · by_cases h4 : a4 = b4
        · by_cases h5 : a5 = b5
          · by_cases h6 : a6 = b6
            · by_cases h7 : a7 = b7
              · by_cases h8 : a8 = b8
                · by_cases h9 : a9 = b9
                  · by_cases h10 : a10 = b10
                    · by_cases h11 : a11 = b11
                      · subst h1 h2 h3 h4 h5 h6 h7 h8 h9 h10 h11
                        rw [decide_eq_true ⟨rfl, rfl, rfl, rfl, rfl, rfl, rfl, rfl, rfl, rfl, rfl⟩]
                        go_simp
                      · subst h1 h2 h3 h4 h5 h6 h7 h8 h9 h10
                        have n11 : (a11 == b11) = false := by simpa using h11
                        rw [decide_eq_false (fun h => h11 h.2.2.2.2.2.2.2.2.2.2)]
                        go_simp
                    · have n10 : (a10 == b10) = false := by simpa using h10
                      rw [decide_eq_false (fun h => h10 h.2.2.2.2.2.2.2.2.2.1)]
                      subst h1 h2 h3 h4 h5 h6 h7 h8 h9
                      go_simp
                  · have n9 : (a9 == b9) = false := by simpa using h9
                    rw [decide_eq_false (fun h => h9 h.2.2.2.2.2.2.2.2.1)]
                    subst h1 h2 h3 h4 h5 h6 h7 h8
                    go_simp
                · have n8 : (a8 == b8) = false := by simpa using h8
                  rw [decide_eq_false (fun h => h8 h.2.2.2.2.2.2.2.1)]
                  subst h1 h2 h3 h4 h5 h6 h7
                  go_simp
              · have n7 : (a7 == b7) = false := by simpa using h7
                rw [decide_eq_false (fun h => h7 h.2.2.2.2.2.2.1)]
                subst h1 h2 h3 h4 h5 h6
                go_simp
            · have n6 : (a6 == b6) = false := by simpa using h6
              rw [decide_eq_false (fun h => h6 h.2.2.2.2.2.1)]
              subst h1 h2 h3 h4 h5
              go_simp
          · have n5 : (a5 == b5) = false := by simpa using h5
            rw [decide_eq_false (fun h => h5 h.2.2.2.2.1)]
            subst h1 h2 h3 h4
            go_simp
        · have n4 : (a4 == b4) = false := by simpa using h4
          rw [decide_eq_false (fun h => h4 h.2.2.2.1)]
          subst h1 h2 h3
          go_simp
      · have n3 : (a3 == b3) = false := by simpa using h3
        rw [decide_eq_false (fun h => h3 h.2.2.1)]
        subst h1 h2
        go_simp
    · have n2 : (a2 == b2) = false := by simpa using h2
      rw [decide_eq_false (fun h => h2 h.2.1)]
      subst h1
      go_simp
  · have n1 : (a1 == b1) = false := by simpa using h1
    rw [decide_eq_false (fun h => h1 h.1)]
    go_simp
theorem su_neq (s t : Su) (w : World) : (binOp .neq 32 (.agg #[.int .i64 s.g, .int .i64 s.al, .int .i64 s.ad, .int .i64 s.ac, .int .i64 s.bl, .int .i64 s.bd, .int .i64 s.bc, .bool s.r, .int .i64 s.wi, .int .i64 s.ep, .int .i64 s.ou]) (.agg #[.int .i64 t.g, .int .i64 t.al, .int .i64 t.ad, .int .i64 t.ac, .int .i64 t.bl, .int .i64 t.bd, .int .i64 t.bc, .bool t.r, .int .i64 t.wi, .int .i64 t.ep, .int .i64 t.ou])).run Tryd.prog w = .ok (.bool (!suEq s t)) w := by
  have h := su_eql s t w
  rw [run_eql_struct] at h
  rw [run_neq_struct]
  generalize (Op.equalIn 10000 32 (.agg #[.int .i64 s.g, .int .i64 s.al, .int .i64 s.ad, .int .i64 s.ac, .int .i64 s.bl, .int .i64 s.bd, .int .i64 s.bc, .bool s.r, .int .i64 s.wi, .int .i64 s.ep, .int .i64 s.ou]) (.agg #[.int .i64 t.g, .int .i64 t.al, .int .i64 t.ad, .int .i64 t.ac, .int .i64 t.bl, .int .i64 t.bd, .int .i64 t.bc, .bool t.r, .int .i64 t.wi, .int .i64 t.ep, .int .i64 t.ou])).run Tryd.prog w = X at h ⊢
  cases X with
  | ok b w' =>
    simp only [Result.andThen] at h ⊢
    injection h with h1 h2
    injection h1 with h1
    subst h1 h2
    rfl
  | _ => simp [Result.andThen] at h
end Go.Proofs.YtiipdhmfdgbmiaaDoor
end
