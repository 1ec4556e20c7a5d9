/- What Solve tells: the one way there is. No program here. -/
import Derived.Test.YtfbfodcjfcnfoaaEraseMath
namespace Go.Proofs.Ytfbfodcjfcnfoaa

theorem ext_getD {a b : List (List UInt8)} (h : a.length = b.length) (hk : ∀ k, k < a.length → a.getD k [] = b.getD k []) : a = b := by
  apply List.ext_getElem h
  intro k h1 h2
  have := hk k h1
  simpa [h1, h2] using this
theorem two_sorted {ms : List Nat} {i j : Nat} (hs : ms.Pairwise (· < ·)) (hij : i < j) (hm : ∀ k, k ∈ ms ↔ k = i ∨ k = j) : ms = [i, j] := by
  have mi := (hm i).2 (.inl rfl)
  have mj := (hm j).2 (.inr rfl)
  rcases ms with _ | ⟨c, _ | ⟨d, _ | ⟨e, r⟩⟩⟩
  · simp at mi
  · simp at mi mj; omega
  · have h1 := (hm c).1 (by simp)
    have h2 := (hm d).1 (by simp)
    simp at hs
    have : c = i ∧ d = j := by omega
    rw [this.1, this.2]
  · have h1 := (hm c).1 (by simp)
    have h2 := (hm d).1 (by simp)
    have h3 := (hm e).1 (by simp)
    simp at hs
    omega
theorem missB_two (p q : List UInt8) : missB [p, q] = (if p.length = 0 then [0] else []) ++ (if q.length = 0 then [1] else []) := by
  show missTo [p, q] (0 + 1 + 1) = _
  rw [missTo_succ, missTo_succ]
  show (if q.length = 0 then (if p.length = 0 then missTo [p, q] 0 ++ [0] else missTo [p, q] 0) ++ [0 + 1] else if p.length = 0 then missTo [p, q] 0 ++ [0] else missTo [p, q] 0) = _
  have e : missTo [p, q] 0 = [] := rfl
  rw [e]
  by_cases h1 : p.length = 0 <;> by_cases h2 : q.length = 0 <;> simp [h1, h2]
theorem getD_set_other {rs : List (List UInt8)} {i k : Nat} {r : List UInt8} (h : i ≠ k) : (rs.set i r).getD k [] = rs.getD k [] := by
  simp [List.getElem?_set_ne h]
theorem getD_set_same {rs : List (List UInt8)} {i : Nat} {r : List UInt8} (h : i < rs.length) : (rs.set i r).getD i [] = r := by
  simp [h]

section
variable {N : Nat} {fs rs : List (List UInt8)}
/-- Rows, some of them taken away. -/
structure Lacks (N : Nat) (fs rs : List (List UInt8)) : Prop where
  pos : 1 ≤ N
  alike : ∀ r ∈ fs, r.length = N
  len : rs.length = fs.length
  row : ∀ k, k < fs.length → (rs.getD k []).length = 0 ∨ rs.getD k [] = fs.getD k []
theorem Lacks.full (h : Lacks N fs rs) {k : Nat} (hk : k < fs.length) : (fs.getD k []).length = N := h.alike _ (by simp [hk])
theorem Lacks.sized (h : Lacks N fs rs) : sizedB N rs = true := sizedB_iff.2 fun k hk => by
  rcases h.row k (by rw [← h.len]; exact hk) with h1 | h1
  · exact .inl h1
  · exact .inr (by rw [h1]; exact h.full (by rw [← h.len]; exact hk))
theorem Lacks.filled_zero (h : Lacks N fs rs) {k : Nat} (hk : k ∈ missB rs) : Holed N (filledB N rs) k := by
  obtain ⟨h1, h2⟩ := missTo_mem.1 hk
  refine ⟨by rw [filledB_len]; exact h1, ?_, filledB_mem h.sized⟩
  rw [filledB_get N rs h1]
  unfold fillR
  rw [if_pos h2]
theorem Lacks.filled_there (h : Lacks N fs rs) {k : Nat} (hf : k < fs.length) (hk : k ∉ missB rs) : (filledB N rs).getD k [] = fs.getD k [] := by
  have hl : k < rs.length := by rw [h.len]; exact hf
  have h2 : ¬ (rs.getD k []).length = 0 := fun e => hk (missTo_mem.2 ⟨hl, e⟩)
  rw [filledB_get N rs hl]
  unfold fillR
  rw [if_neg h2]
  rcases h.row k hf with h3 | h3
  · exact absurd h3 h2
  · exact h3
theorem Lacks.ask (h : Lacks N fs rs) {p q : List UInt8} (hp : p.length = 0 ∨ p.length = N) (hq : q.length = 0 ∨ q.length = N) : askB N p q rs = true := by
  have h1 : sizedB N [p, q] = true := sizedB_iff.2 fun k hk => by
    match k, hk with
    | 0, _ => exact hp
    | 1, _ => exact hq
  unfold askB
  rw [h1, h.sized, decide_eq_true h.pos]
  rfl
theorem Lacks.can (h : Lacks N fs rs) {p q : List UInt8} (h0 : 0 < fs.length) (h8 : fs.length ≤ 8) (hm : (missB rs).length ≤ 2 - (missB [p, q]).length) : canB p q rs = true := by
  unfold canB
  rw [decide_eq_true hm, decide_eq_true (show 0 < rs.length by rw [h.len]; exact h0), decide_eq_true (show rs.length ≤ 8 by rw [h.len]; exact h8)]
  rfl
/-- What some had is told by P and Q. -/
theorem solveB_back (h : Lacks N fs rs) (h0 : 0 < fs.length) (h8 : fs.length ≤ 8) {p q : List UInt8} (hp : p.length = 0 ∨ p = pB fs) (hq : q.length = 0 ∨ q = qB fs) (hm : (missB rs).length ≤ 2 - (missB [p, q]).length) : solveB N p q rs = some fs := by
  have lp : p.length = 0 ∨ p.length = N := hp.imp id fun e => by rw [e]; exact pB_len h0 h.alike
  have lq : q.length = 0 ∨ q.length = N := hq.imp id fun e => by rw [e]; exact qB_len h0 h.alike
  unfold solveB
  rw [h.ask lp lq, h.can h0 h8 hm]
  show some (toldB p q (filledB N rs) (missB rs)) = some fs
  congr 1
  have hfl : (filledB N rs).length = fs.length := by rw [filledB_len]; exact h.len
  have hz := fun k hk => h.filled_zero (k := k) hk
  have ht := fun k hf hk => h.filled_there (k := k) hf hk
  have hs := missTo_sorted rs rs.length
  rw [show missTo rs rs.length = missB rs from rfl] at hs
  rw [missB_two] at hm
  generalize filledB N rs = all at hfl hz ht
  generalize missB rs = ms at hm hz ht hs
  rcases ms with _ | ⟨i, _ | ⟨j, r⟩⟩
  · show all = fs
    exact ext_getD hfl fun k hk => ht k (by omega) (by simp)
  · have hi := hz i (by simp)
    have hif : i < fs.length := by rw [← hfl]; exact hi.lt
    have e : all.set i (fs.getD i []) = fs := ext_getD (by rw [List.length_set]; exact hfl) fun k hk => by
      rw [List.length_set] at hk
      by_cases hik : i = k
      · subst hik; exact getD_set_same hk
      · rw [getD_set_other hik]
        exact ht k (by omega) (by simpa using fun e => hik e.symm)
    show all.set i (if p.length ≠ 0 then byPB p all else byQB q all i) = fs
    by_cases hp0 : p.length = 0
    · rw [if_neg (fun f => f hp0)]
      have hq0 : ¬ q.length = 0 := fun hq0 => by
        rw [if_pos hp0, if_pos hq0] at hm
        simp at hm
      rcases hq with hq1 | hq1
      · exact absurd hq1 hq0
      · rw [hq1]
        have := byQB_only hi (h.full hif)
        rw [e] at this
        rw [this, e]
    · rw [if_pos hp0]
      rcases hp with hp1 | hp1
      · exact absurd hp1 hp0
      · rw [hp1]
        have := byPB_only hi (h.full hif)
        rw [e] at this
        rw [this, e]
  · have hi := hz i (by simp)
    have hj := hz j (by simp)
    have hif : i < fs.length := by rw [← hfl]; exact hi.lt
    have hjf : j < fs.length := by rw [← hfl]; exact hj.lt
    have hij : i < j := by
      rw [List.pairwise_cons] at hs
      exact hs.1 j (by simp)
    have hp0 : ¬ p.length = 0 := fun hp0 => by
      rw [if_pos hp0] at hm
      simp at hm
      omega
    have hq0 : ¬ q.length = 0 := fun hq0 => by
      rw [if_neg hp0, if_pos hq0] at hm
      simp at hm
    rw [if_neg hp0, if_neg hq0] at hm
    have hr : r = [] := by
      simp at hm
      exact hm
    subst hr
    have hp1 := hp.resolve_left hp0
    have hq1 := hq.resolve_left hq0
    have e : (all.set i (fs.getD i [])).set j (fs.getD j []) = fs := ext_getD (by rw [List.length_set, List.length_set]; exact hfl) fun k hk => by
      rw [List.length_set, List.length_set] at hk
      by_cases hjk : j = k
      · subst hjk; exact getD_set_same (by rw [List.length_set]; exact hk)
      · rw [getD_set_other hjk]
        by_cases hik : i = k
        · subst hik; exact getD_set_same hk
        · rw [getD_set_other hik]
          exact ht k (by omega) (by simpa using ⟨fun e => hik e.symm, fun e => hjk e.symm⟩)
    have := both_only hi hj (by omega) (by omega) (by omega) (h.full hif) (h.full hjf)
    rw [e] at this
    show (all.set i (bothA p q all i j)).set j (bothB p q all i j) = fs
    rw [hp1, hq1, this.1, this.2, e]
/-- Any two, of any P and Q. -/
theorem solve_two {x : List (List UInt8)} {a b : Nat} {p q : List UInt8} (hN : 1 ≤ N) (hx : ∀ r ∈ x, r.length = N) (h8 : x.length ≤ 8) (ha : a < x.length) (hb : b < x.length) (hab : a ≠ b) (hp : p.length = N) (hq : q.length = N) :
    ∃ y, solveB N p q ((x.set a []).set b []) = some y ∧ y.length = x.length ∧ (∀ r ∈ y, r.length = N) ∧ (∀ k, k < x.length → k ≠ a → k ≠ b → y.getD k [] = x.getD k []) ∧ pB y = p ∧ qB y = q := by
  have hrow : ∀ k, k < x.length → k ≠ a → k ≠ b → ((x.set a []).set b []).getD k [] = x.getD k [] := fun k hk h1 h2 => by
    rw [getD_set_other (Ne.symm h2), getD_set_other (Ne.symm h1)]
  have hgone : ∀ k, k = a ∨ k = b → ((x.set a []).set b []).getD k [] = [] := fun k hk => by
    by_cases hkb : b = k
    · subst hkb; exact getD_set_same (by rw [List.length_set]; exact hb)
    · rw [getD_set_other hkb]
      rcases hk with rfl | rfl
      · exact getD_set_same ha
      · exact absurd rfl hkb
  have h : Lacks N x ((x.set a []).set b []) := ⟨hN, hx, by rw [List.length_set, List.length_set], fun k hk => by
    by_cases h1 : k = a
    · exact .inl (by rw [hgone k (.inl h1)]; rfl)
    · by_cases h2 : k = b
      · exact .inl (by rw [hgone k (.inr h2)]; rfl)
      · exact .inr (hrow k hk h1 h2)⟩
  have hmem : ∀ k, k ∈ missB ((x.set a []).set b []) ↔ k = a ∨ k = b := fun k => by
    constructor
    · intro hk
      obtain ⟨h1, h2⟩ := missTo_mem.1 hk
      rw [List.length_set, List.length_set] at h1
      by_cases ha' : k = a
      · exact .inl ha'
      · by_cases hb' : k = b
        · exact .inr hb'
        · rw [hrow k h1 ha' hb', h.full h1] at h2
          omega
    · intro hk
      refine missTo_mem.2 ⟨?_, by rw [hgone k hk]; rfl⟩
      rw [List.length_set, List.length_set]
      rcases hk with rfl | rfl <;> assumption
  obtain ⟨i, j, hij, hms, hset⟩ : ∃ i j, i < j ∧ missB ((x.set a []).set b []) = [i, j] ∧ (∀ k, k = i ∨ k = j ↔ k = a ∨ k = b) := by
    by_cases hlt : a < b
    · exact ⟨a, b, hlt, two_sorted (missTo_sorted _ _) hlt hmem, fun k => Iff.rfl⟩
    · exact ⟨b, a, by omega, two_sorted (missTo_sorted _ _) (by omega) fun k => (hmem k).trans or_comm, fun k => or_comm⟩
  have h1 : missB [p, q] = [] := by rw [missB_two, if_neg (by omega), if_neg (by omega)]; rfl
  have hi := h.filled_zero (k := i) (by rw [hms]; simp)
  have hj := h.filled_zero (k := j) (by rw [hms]; simp)
  have hfl : (filledB N ((x.set a []).set b [])).length = x.length := by rw [filledB_len]; exact h.len
  have ht := fun k hf hk => h.filled_there (k := k) hf hk
  have hsv : solveB N p q ((x.set a []).set b []) = some (toldB p q (filledB N ((x.set a []).set b [])) [i, j]) := by
    unfold solveB
    rw [h.ask (.inr hp) (.inr hq), h.can (by omega) h8 (by rw [hms, h1]; simp), hms]
    rfl
  rw [hms] at ht
  refine ⟨_, hsv, ?_⟩
  generalize filledB N ((x.set a []).set b []) = all at hi hj hfl ht
  obtain ⟨_, lb, _, la⟩ := both_shape (j := j) hi hp hq
  have hlen := hi.lt
  have hlen2 := hj.lt
  refine ⟨?_, ?_, ?_, both_p hi hj (by omega) hp hq, both_q hi hj (by omega) (by omega) (by omega) hp hq⟩
  · show ((all.set i _).set j _).length = _
    rw [List.length_set, List.length_set]; exact hfl
  · exact set_alike (set_alike hi.all la) lb
  · intro k hk h1 h2
    have hki : ¬ (k = i ∨ k = j) := fun e => ((hset k).1 e).elim h1 h2
    show ((all.set i _).set j _).getD k [] = _
    rw [getD_set_other (fun e => hki (.inr e.symm)), getD_set_other (fun e => hki (.inl e.symm))]
    exact ht k hk (by simpa using ⟨fun e => hki (.inl e), fun e => hki (.inr e)⟩)
end
end Go.Proofs.Ytfbfodcjfcnfoaa
