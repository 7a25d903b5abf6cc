/-
  Forms in plain data: what is put is taken, in one way. No conditions; nothing of the program.
-/
import Derived.Test.YtgdlidjjogoiaaaGreatDoorFdQ
namespace Go.Proofs.YtgdlidjjogoiaaaGreatDoor.Fdd
set_option linter.unusedVariables false
theorem may_form {f : Fm} (h : f.may = true) : ∃ k s c : Nat, f = ⟨(k : Int), (s : Int), (c : Int)⟩ ∧ (1 ≤ k ∧ k ≤ 5) ∧ (1 ≤ c ∧ c ≤ 3) ∧ (1 ≤ s ∧ s ≤ 64) := by
  obtain ⟨k, s, c⟩ := f
  simp only [Fm.may, Bool.and_eq_true, decide_eq_true_eq] at h
  obtain ⟨h1, h2, h3⟩ := h
  refine ⟨k.toNat, s.toNat, c.toNat, ?_, by omega, by omega, by omega⟩
  rw [Int.toNat_of_nonneg (by omega), Int.toNat_of_nonneg (by omega), Int.toNat_of_nonneg (by omega)]
def gmB (p : Pt) : Bool := decide p.chars.Nodup && decide p.stands.Nodup && (!decide (p.stands = []) || (decide (p.chars[0]? = some 48) && decide (p.chars.length ≤ 16))) && (decide (p.stands = []) || decide (p.stands.length = p.chars.length))
theorem gm_of {p : Pt} (h : gmB p = true) : GM p := by
  unfold gmB at h
  simp only [Bool.and_eq_true, Bool.or_eq_true, decide_eq_true_eq, Bool.not_eq_true', decide_eq_false_iff_not] at h
  obtain ⟨⟨⟨h1, h2⟩, h3⟩, h4⟩ := h
  exact ⟨h1, h2, fun e => h3.resolve_left fun h => h e, fun e => h4.resolve_left e⟩
theorem gm_n {n m : Nat} {ch st : List UInt8} (h : gmB ⟨m, ch, st⟩ = true) : GM ⟨n, ch, st⟩ := gm_of h
theorem pts_gm {k : Int} {c n : Nat} (hc : 1 ≤ c ∧ c ≤ 3) : ∀ p ∈ ptsOf k (c : Int) n, GM p := by
  have hcc : c = 1 ∨ c = 2 ∨ c = 3 := by omega
  intro p hp
  unfold ptsOf at hp
  rw [Int.toNat_natCast] at hp
  split at hp
  · simp only [List.mem_singleton] at hp
    subst hp
    rcases hcc with rfl | rfl | rfl <;> exact gm_n (m := 0) (by decide)
  · split at hp
    · simp only [List.mem_singleton] at hp
      subst hp
      rcases hcc with rfl | rfl | rfl <;> exact gm_n (m := 0) (by decide)
    · split at hp
      · simp only [List.mem_cons, List.not_mem_nil, or_false] at hp
        rcases hp with rfl | rfl
        · rcases hcc with rfl | rfl | rfl <;> exact gm_n (m := 0) (by decide)
        · rcases hcc with rfl | rfl | rfl <;> exact gm_n (m := 0) (by decide)
      · simp only [List.mem_singleton] at hp
        subst hp
        rcases hcc with rfl | rfl | rfl <;> exact gm_n (m := 0) (by decide)
theorem two_len (n : Nat) : (two n).length = 2 := rfl
theorem two_ok {n : Nat} (h : n ≤ 99) : val (two n) = n ∧ onlyOf (two n) dec = true := by
  have key : ∀ n : Fin 100, val (two n.val) = n.val ∧ onlyOf (two n.val) dec = true := by decide +kernel
  exact key ⟨n, by omega⟩
theorem two_of {t : List UInt8} (hl : t.length = 2) (h : onlyOf t dec = true) : two (val t) = t ∧ val t ≤ 99 := by
  match t, hl with
  | [a, b], _ =>
    have ha := onlyOf_mem h (List.mem_cons_self ..)
    have hb := onlyOf_mem h (List.mem_cons_of_mem _ (List.mem_cons_self ..))
    have key : ∀ a ∈ dec, ∀ b ∈ dec, two (val [a, b]) = [a, b] ∧ val [a, b] ≤ 99 := by decide +kernel
    exact key a ha b hb
theorem num_right (c : Int) (t : List UInt8) : rightAll (ptsOf 1 c 2) t = true ↔ t.length = 2 ∧ onlyOf t dec = true := by
  have e : ptsOf 1 c 2 = [⟨2, dec, (rws c.toNat).d⟩] := rfl
  rw [e]
  unfold rightAll rightAll
  simp only [Bool.and_eq_true, decide_eq_true_eq, beq_iff_eq, List.drop_eq_nil_iff]
  constructor
  · rintro ⟨h1, h2, h3⟩
    rw [List.take_of_length_le h3] at h2
    exact ⟨by omega, h2⟩
  · rintro ⟨h1, h2⟩
    rw [List.take_of_length_le (by omega)]
    exact ⟨by omega, h2, by omega⟩
theorem right_len : ∀ (ps : List Pt) (t : List UInt8), rightAll ps t = true → t.length = (ps.map (·.n)).sum
  | [], t, h => by
    have : t = [] := by simpa [rightAll] using h
    subst this
    rfl
  | p :: r, t, h => by
    have h' : p.n ≤ t.length ∧ onlyOf (t.take p.n) p.chars = true ∧ rightAll r (t.drop p.n) = true := by simpa [rightAll] using h
    have ih := right_len r (t.drop p.n) h'.2.2
    rw [List.length_drop] at ih
    simp only [List.map_cons, List.sum_cons]
    omega
section
variable {k s c : Nat} {t b rest : List UInt8}
/-- a form in natural numbers -/
def nf (k s c : Nat) : Fm := ⟨(k : Int), (s : Int), (c : Int)⟩
theorem may_nf (hk : 1 ≤ k ∧ k ≤ 5) (hc : 1 ≤ c ∧ c ≤ 3) (hs : 1 ≤ s ∧ s ≤ 64) : (nf k s c).may = true := by
  show (decide (1 ≤ (k : Int) ∧ (k : Int) ≤ 5) && (decide (1 ≤ (c : Int) ∧ (c : Int) ≤ 3) && decide (1 ≤ (s : Int) ∧ (s : Int) ≤ 64))) = true
  rw [decide_eq_true (by omega), decide_eq_true (by omega), decide_eq_true (by omega)]
  rfl
theorem right_ll : (nf 2 s c).right t = (decide (1 ≤ t.length ∧ (t.length : Int) ≤ (s : Int)) && rightAll (ptsOf 2 (c : Int) t.length) t) := rfl
theorem right_nl (hk : k ≠ 2) : (nf k s c).right t = rightAll (ptsOf (k : Int) (c : Int) s) t := by
  unfold Fm.right nf
  rw [if_neg (by simp; omega)]
  rfl
theorem put_ll : (nf 2 s c).put t = encAll (ptsOf 1 (c : Int) 2) (two t.length) ++ encAll (ptsOf 2 (c : Int) t.length) t := rfl
theorem put_nl (hk : k ≠ 2) : (nf k s c).put t = encAll (ptsOf (k : Int) (c : Int) s) t := by
  unfold Fm.put nf
  rw [if_neg (by simp; omega)]
  rfl
theorem take_nl (hk : k ≠ 2) (hm : (nf k s c).may = true) : (nf k s c).take b = takeAll (ptsOf (k : Int) (c : Int) s) b := by
  unfold Fm.take
  rw [if_pos hm]
  unfold nf
  rw [if_neg (by simp; omega)]
  rfl
theorem take_ll (hm : (nf 2 s c).may = true) : (nf 2 s c).take b = match takeAll (ptsOf 1 (c : Int) 2) b with
      | .error e => .error e
      | .ok (t, r) => if 1 ≤ val t ∧ (val t : Int) ≤ (s : Int) then takeAll (ptsOf 2 (c : Int) (val t)) r else .error 42 := by
  unfold Fm.take
  rw [if_pos hm]
  rfl
theorem ll_right (h : (nf 2 s c).right t = true) : (1 ≤ t.length ∧ t.length ≤ s) ∧ rightAll (ptsOf 2 (c : Int) t.length) t = true := by
  rw [right_ll, Bool.and_eq_true, decide_eq_true_eq] at h
  exact ⟨⟨h.1.1, by omega⟩, h.2⟩
theorem fm_back (hk : 1 ≤ k ∧ k ≤ 5) (hc : 1 ≤ c ∧ c ≤ 3) (hs : 1 ≤ s ∧ s ≤ 64) (hr : (nf k s c).right t = true) : (nf k s c).take ((nf k s c).put t ++ rest) = .ok (t, rest) := by
  have hm := may_nf hk hc hs
  by_cases h2 : k = 2
  · subst h2
    obtain ⟨hl, hr2⟩ := ll_right hr
    have h2k := two_ok (n := t.length) (by omega)
    rw [take_ll hm, put_ll, List.append_assoc, take_ok (pts_gm hc) ((num_right _ _).2 ⟨rfl, h2k.2⟩)]
    simp only []
    rw [h2k.1, if_pos ⟨hl.1, by omega⟩]
    exact take_ok (pts_gm hc) hr2
  · rw [right_nl h2] at hr
    rw [take_nl h2 hm, put_nl h2]
    exact take_ok (pts_gm hc) hr
theorem fm_one (hk : 1 ≤ k ∧ k ≤ 5) (hc : 1 ≤ c ∧ c ≤ 3) (hs : 1 ≤ s ∧ s ≤ 64) (h : (nf k s c).take b = .ok (t, rest)) : (nf k s c).right t = true ∧ (nf k s c).put t ++ rest = b := by
  have hm := may_nf hk hc hs
  by_cases h2 : k = 2
  · subst h2
    rw [take_ll hm] at h
    split at h
    · cases h
    · rename_i t1 r1 h1
      split at h
      · rename_i hv
        obtain ⟨e1, e2⟩ := ok_take (pts_gm hc) h1
        obtain ⟨e3, e4⟩ := ok_take (pts_gm hc) h
        obtain ⟨l1, l2⟩ := (num_right _ _).1 e1
        obtain ⟨l3, l4⟩ := two_of l1 l2
        have hlen : t.length = val t1 := by
          have := right_len _ _ e3
          simpa [ptsOf] using this
        refine ⟨?_, ?_⟩
        · rw [right_ll, hlen, decide_eq_true hv, e3]
          rfl
        · rw [put_ll, hlen, l3, List.append_assoc, e4, e2]
      · cases h
  · rw [take_nl h2 hm] at h
    obtain ⟨e1, e2⟩ := ok_take (pts_gm hc) h
    rw [right_nl h2, put_nl h2]
    exact ⟨e1, e2⟩
theorem fm_len (hc : 1 ≤ c ∧ c ≤ 3) (hs : 1 ≤ s ∧ s ≤ 64) (hr : (nf k s c).right t = true) : ((nf k s c).put t).length = if k = 2 then sizeAll (ptsOf 1 (c : Int) 2) + sizeAll (ptsOf 2 (c : Int) t.length) else sizeAll (ptsOf (k : Int) (c : Int) s) := by
  by_cases h2 : k = 2
  · subst h2
    obtain ⟨hl, hr2⟩ := ll_right hr
    have h2k := two_ok (n := t.length) (by omega)
    rw [if_pos rfl, put_ll, List.length_append, (enc_all _ _ [] (pts_gm hc) ((num_right _ _).2 ⟨rfl, h2k.2⟩)).1, (enc_all _ _ [] (pts_gm hc) hr2).1]
  · rw [right_nl h2] at hr
    rw [if_neg h2, put_nl h2, (enc_all _ _ [] (pts_gm hc) hr).1]
theorem fm_short (hk : 1 ≤ k ∧ k ≤ 5) (hc : 1 ≤ c ∧ c ≤ 3) (hs : 1 ≤ s ∧ s ≤ 64) (hr : (nf k s c).right t = true) {i : Nat} (hi : i < ((nf k s c).put t).length) : (nf k s c).take (((nf k s c).put t).take i) = .error 43 := by
  have hm := may_nf hk hc hs
  have hlen := fm_len (t := t) hc hs hr
  by_cases h2 : k = 2
  · subst h2
    obtain ⟨hl, hr2⟩ := ll_right hr
    have h2k := two_ok (n := t.length) (by omega)
    have e1 := (enc_all _ _ [] (pts_gm hc) ((num_right (c : Int) _).2 ⟨two_len t.length, h2k.2⟩)).1
    rw [if_pos rfl] at hlen
    rw [take_ll hm]
    by_cases h1 : i < sizeAll (ptsOf 1 (c : Int) 2)
    · rw [take_short (by rw [List.length_take]; omega)]
    · rw [put_ll, List.take_append, List.take_of_length_le (by omega), take_ok (pts_gm hc) ((num_right _ _).2 ⟨rfl, h2k.2⟩)]
      simp only []
      rw [h2k.1, if_pos ⟨hl.1, by omega⟩, take_short (by rw [List.length_take, e1]; omega)]
  · rw [if_neg h2] at hlen
    rw [take_nl h2 hm, take_short (by rw [List.length_take]; omega)]
theorem right_code {c' : Nat} (n : Nat) (kk : Int) : rightAll (ptsOf kk (c : Int) n) t = rightAll (ptsOf kk (c' : Int) n) t := by
  unfold ptsOf
  split
  · rfl
  · split
    · rfl
    · split
      · rfl
      · rfl
theorem fm_code {c' : Nat} : (nf k s c).right t = (nf k s c').right t := by
  unfold Fm.right nf
  simp only [right_code (c := c) (c' := c')]
end
end Go.Proofs.YtgdlidjjogoiaaaGreatDoor.Fdd
