/-
  Fields in plain data: what is written is read, in one way. No conditions; nothing of the program.
-/
import Derived.Test.YtgdlidjjogoiaaaGreatDoorFdSpec
namespace Go.Proofs.YtgdlidjjogoiaaaGreatDoor.Fdd
set_option linter.unusedVariables false
theorem onlyOf_of {l cs : List UInt8} (h : ∀ c ∈ l, c ∈ cs) : onlyOf l cs = true := by
  unfold onlyOf
  rw [List.all_eq_true]
  intro c hc
  simpa using h c hc
theorem one_inv {a b : List UInt8} (ha : a.Nodup) (hb : b.Nodup) (hl : a.length = b.length) {x : UInt8} (hx : x ∈ a) : one a b x ∈ b ∧ one b a (one a b x) = x := by
  have hi : a.idxOf x < a.length := idx_lt hx
  have hib : a.idxOf x < b.length := by omega
  have e1 : one a b x = b[a.idxOf x] := by
    unfold one
    rw [List.getD_eq_getElem?_getD, List.getElem?_eq_getElem hib]
    rfl
  have e2 : b.idxOf (one a b x) = a.idxOf x := by
    rw [e1]
    exact List.Nodup.idxOf_getElem hb _ hib
  refine ⟨by rw [e1]; exact List.getElem_mem _, ?_⟩
  show a.getD (b.idxOf (one a b x)) 0 = x
  rw [e2, List.getD_eq_getElem?_getD, List.getElem?_eq_getElem hi]
  exact List.getElem_idxOf hi
/-- what a part must be for its code to be one to one -/
structure GM (p : Pt) : Prop where
  c : p.chars.Nodup
  s : p.stands.Nodup
  z : p.stands = [] → p.chars[0]? = some 48 ∧ p.chars.length ≤ 16
  l : p.stands ≠ [] → p.stands.length = p.chars.length
theorem byte_of {a b : Nat} (ha : a < 16) (hb : b < 16) : (UInt8.ofNat (16 * a + b)).toNat = 16 * a + b := by
  rw [UInt8.toNat_ofNat']
  omega
theorem unpack_pack {ch : List UInt8} (hl : ch.length ≤ 16) : ∀ T : List UInt8, T.length % 2 = 0 → (∀ c ∈ T, c ∈ ch) → unpack ch (pack ch T) = T ∧ packOk ch (pack ch T) = true ∧ (pack ch T).length = T.length / 2
  | [], _, _ => ⟨rfl, rfl, rfl⟩
  | [_], h, _ => by simp at h
  | a :: b :: r, h, hm => by
    have ih := unpack_pack hl r (by simp at h; omega) fun c hc => hm c (List.mem_cons_of_mem _ (List.mem_cons_of_mem _ hc))
    have ha := hm a (List.mem_cons_self ..)
    have hb := hm b (List.mem_cons_of_mem _ (List.mem_cons_self ..))
    have ia := idx_lt ha
    have ib := idx_lt hb
    have hx := byte_of (a := ch.idxOf a) (b := ch.idxOf b) (by omega) (by omega)
    have h1 : (16 * ch.idxOf a + ch.idxOf b) / 16 = ch.idxOf a := by omega
    have h2 : (16 * ch.idxOf a + ch.idxOf b) % 16 = ch.idxOf b := by omega
    have g : ∀ c, c ∈ ch → ch.getD (ch.idxOf c) 0 = c := fun c hc => by
      rw [List.getD_eq_getElem?_getD, List.getElem?_eq_getElem (idx_lt hc)]
      exact List.getElem_idxOf (idx_lt hc)
    refine ⟨?_, ?_, ?_⟩
    · simp only [pack, unpack, hx, h1, h2, ih.1, g a ha, g b hb]
    · have h3 := ih.2.1
      unfold packOk at h3 ⊢
      rw [pack, List.all_cons, hx, h1, h2, decide_eq_true ia, decide_eq_true ib, h3]
      rfl
    · simp only [pack, List.length_cons, ih.2.2]
      omega
theorem pack_unpack {ch : List UInt8} (hn : ch.Nodup) (hl : ch.length ≤ 16) : ∀ b : List UInt8, packOk ch b = true → pack ch (unpack ch b) = b ∧ (∀ c ∈ unpack ch b, c ∈ ch) ∧ (unpack ch b).length = 2 * b.length
  | [], _ => ⟨rfl, by simp [unpack], rfl⟩
  | x :: r, h => by
    unfold packOk at h
    rw [List.all_cons, Bool.and_eq_true, Bool.and_eq_true, decide_eq_true_eq, decide_eq_true_eq] at h
    obtain ⟨⟨h1, h2⟩, h3⟩ := h
    have ih := pack_unpack hn hl r h3
    have g : ∀ i, i < ch.length → ch.getD i 0 ∈ ch ∧ ch.idxOf (ch.getD i 0) = i := fun i hi => by
      rw [List.getD_eq_getElem?_getD, List.getElem?_eq_getElem hi]
      exact ⟨List.getElem_mem _, List.Nodup.idxOf_getElem hn _ hi⟩
    refine ⟨?_, ?_, ?_⟩
    · simp only [unpack, pack, (g _ h1).2, (g _ h2).2, ih.1]
      congr 1
      apply UInt8.toNat_inj.1
      rw [UInt8.toNat_ofNat']
      have := x.toNat_lt
      omega
    · intro c hc
      simp only [unpack, List.mem_cons] at hc
      rcases hc with rfl | rfl | hc
      · exact (g _ h1).1
      · exact (g _ h2).1
      · exact ih.2.1 c hc
    · simp only [unpack, List.length_cons, ih.2.2]
      omega
theorem padded_two (t : List UInt8) : (padded t).length % 2 = 0 ∧ (padded t).length / 2 = (t.length + 1) / 2 := by
  unfold padded
  by_cases h : t.length % 2 = 1
  · rw [if_pos h, List.length_cons]
    omega
  · rw [if_neg h]
    omega
/-- written, and read again -/
theorem enc_dec {p : Pt} (h : GM p) {t : List UInt8} (ht : onlyOf t p.chars = true) (hn : t.length = p.n) : (p.enc t).length = p.size ∧ p.dec (p.enc t) = some t := by
  unfold Pt.enc Pt.size Pt.dec
  by_cases hs : p.stands = []
  · obtain ⟨h0, h16⟩ := h.z hs
    rw [if_pos hs, if_pos hs, if_pos hs]
    have h48 : 48 ∈ p.chars := List.mem_of_getElem? h0
    have hm : ∀ c ∈ padded t, c ∈ p.chars := by
      intro c hc
      unfold padded at hc
      split at hc
      · rcases List.mem_cons.1 hc with rfl | hc
        · exact h48
        · exact onlyOf_mem ht hc
      · exact onlyOf_mem ht hc
    obtain ⟨h1, h2, h3⟩ := unpack_pack h16 (padded t) (padded_two t).1 hm
    refine ⟨by rw [h3, (padded_two t).2, hn], ?_⟩
    unfold unpacked
    rw [if_pos h2, h1]
    unfold padded
    by_cases ho : t.length % 2 = 1
    · rw [if_pos ho, if_neg (by simp), List.length_cons, ← hn]
      rw [show t.length + 1 - t.length = 1 from by omega]
      rfl
    · rw [if_neg ho, if_neg (by rw [← hn]; intro h; exact ho h.1), hn, Nat.sub_self, List.drop_zero]
  · rw [if_neg hs, if_neg hs, if_neg hs]
    have hl := h.l hs
    refine ⟨by rw [List.length_map, hn], ?_⟩
    have hin : ∀ c ∈ t, one p.chars p.stands c ∈ p.stands ∧ one p.stands p.chars (one p.chars p.stands c) = c := fun c hc => one_inv h.c h.s hl.symm (onlyOf_mem ht hc)
    rw [if_pos (onlyOf_of fun c hc => by
      obtain ⟨d, hd, rfl⟩ := List.mem_map.1 hc
      exact (hin d hd).1)]
    rw [List.map_map]
    congr 1
    conv => rhs; rw [← List.map_id t]
    exact List.map_congr_left fun c hc => (hin c hc).2
/-- read, and written again -/
theorem dec_enc {p : Pt} (h : GM p) {b t : List UInt8} (hd : p.dec b = some t) (hb : b.length = p.size) : t.length = p.n ∧ onlyOf t p.chars = true ∧ p.enc t = b := by
  unfold Pt.dec at hd
  unfold Pt.size at hb
  unfold Pt.enc
  by_cases hs : p.stands = []
  · obtain ⟨h0, h16⟩ := h.z hs
    rw [if_pos hs] at hd hb ⊢
    unfold unpacked at hd
    by_cases hok : packOk p.chars b = true
    · rw [if_pos hok] at hd
      obtain ⟨h1, h2, h3⟩ := pack_unpack h.c h16 b hok
      by_cases hbad : p.n % 2 = 1 ∧ (unpack p.chars b).getD 0 0 ≠ 48
      · rw [if_pos hbad] at hd
        cases hd
      · rw [if_neg hbad] at hd
        injection hd with hd
        have hlen : t.length = p.n := by
          rw [← hd, List.length_drop, h3]
          omega
        have honly : onlyOf t p.chars = true := onlyOf_of fun c hc => h2 c (by rw [← hd] at hc; exact List.mem_of_mem_drop hc)
        refine ⟨hlen, honly, ?_⟩
        have hpad : padded t = unpack p.chars b := by
          unfold padded
          by_cases ho : p.n % 2 = 1
          · rw [hlen, if_pos ho, ← hd, h3, show 2 * b.length - p.n = 1 from by omega]
            cases hu : unpack p.chars b with
            | nil =>
              rw [hu] at h3
              simp at h3
              omega
            | cons x r =>
              have hx : x = 48 := by
                have := fun hne => hbad ⟨ho, hne⟩
                rw [hu] at this
                simpa using this
              rw [hx]
              rfl
          · rw [hlen, if_neg ho, ← hd, h3, show 2 * b.length - p.n = 0 from by omega, List.drop_zero]
        rw [hpad, h1]
    · rw [if_neg hok] at hd
      cases hd
  · rw [if_neg hs] at hd hb ⊢
    have hl := h.l hs
    by_cases hok : onlyOf b p.stands = true
    · rw [if_pos hok] at hd
      injection hd with hd
      have hin : ∀ c ∈ b, one p.stands p.chars c ∈ p.chars ∧ one p.chars p.stands (one p.stands p.chars c) = c := fun c hc => one_inv h.s h.c hl (onlyOf_mem hok hc)
      refine ⟨by rw [← hd, List.length_map, hb], ?_, ?_⟩
      · rw [← hd]
        exact onlyOf_of fun c hc => by
          obtain ⟨d, hd', rfl⟩ := List.mem_map.1 hc
          exact (hin d hd').1
      · rw [← hd, List.map_map]
        conv => rhs; rw [← List.map_id b]
        exact List.map_congr_left fun c hc => (hin c hc).2
    · rw [if_neg hok] at hd
      cases hd
theorem enc_all : ∀ (ps : List Pt) (t rest : List UInt8), (∀ p ∈ ps, GM p) → rightAll ps t = true → (encAll ps t).length = sizeAll ps ∧ decAll ps (encAll ps t ++ rest) = some t
  | [], t, rest, _, h => by
    have : t = [] := by simpa [rightAll] using h
    subst this
    exact ⟨rfl, rfl⟩
  | p :: r, t, rest, hg, h => by
    have h' : p.n ≤ t.length ∧ onlyOf (t.take p.n) p.chars = true ∧ rightAll r (t.drop p.n) = true := by simpa [rightAll] using h
    obtain ⟨h1, h2, h3⟩ := h'
    obtain ⟨e1, e2⟩ := enc_dec (hg p (List.mem_cons_self ..)) h2 (by rw [List.length_take]; omega)
    obtain ⟨e3, e4⟩ := enc_all r (t.drop p.n) rest (fun q hq => hg q (List.mem_cons_of_mem _ hq)) h3
    refine ⟨by rw [encAll, List.length_append, e1, e3]; rfl, ?_⟩
    unfold decAll
    rw [encAll, List.append_assoc, List.take_append_of_le_length (by omega), List.take_of_length_le (by omega), e2]
    simp only []
    rw [List.drop_append_of_le_length (by omega), List.drop_of_length_le (by omega), List.nil_append, e4]
    simp
theorem dec_all : ∀ (ps : List Pt) (b t : List UInt8), (∀ p ∈ ps, GM p) → sizeAll ps ≤ b.length → decAll ps b = some t → rightAll ps t = true ∧ encAll ps t = b.take (sizeAll ps)
  | [], b, t, _, _, h => by
    have : t = [] := by simpa [decAll] using h.symm
    subst this
    exact ⟨rfl, by simp [encAll, sizeAll]⟩
  | p :: r, b, t, hg, hl, h => by
    have hsz : sizeAll (p :: r) = p.size + sizeAll r := rfl
    rw [hsz] at hl
    unfold decAll at h
    cases hd : p.dec (b.take p.size) with
    | none => rw [hd] at h; cases h
    | some t1 =>
      rw [hd] at h
      simp only [Option.map_eq_some_iff] at h
      obtain ⟨t2, h2, rfl⟩ := h
      obtain ⟨e1, e2, e3⟩ := dec_enc (hg p (List.mem_cons_self ..)) hd (by rw [List.length_take]; omega)
      obtain ⟨e4, e5⟩ := dec_all r (b.drop p.size) t2 (fun q hq => hg q (List.mem_cons_of_mem _ hq)) (by rw [List.length_drop]; omega) h2
      have t1' : (t1 ++ t2).take p.n = t1 := by rw [List.take_append_of_le_length (by omega), List.take_of_length_le (by omega)]
      have t2' : (t1 ++ t2).drop p.n = t2 := by rw [List.drop_append_of_le_length (by omega), List.drop_of_length_le (by omega), List.nil_append]
      refine ⟨?_, ?_⟩
      · unfold rightAll
        rw [t1', t2', e2, e4, decide_eq_true (by rw [List.length_append]; omega)]
        rfl
      · rw [encAll, t1', t2', e3, e5, hsz, ← List.take_add]
theorem take_ok {ps : List Pt} (hg : ∀ p ∈ ps, GM p) {t rest : List UInt8} (h : rightAll ps t = true) : takeAll ps (encAll ps t ++ rest) = .ok (t, rest) := by
  obtain ⟨h1, h2⟩ := enc_all ps t rest hg h
  unfold takeAll
  rw [if_neg (by rw [List.length_append]; omega), h2]
  simp only []
  rw [List.drop_append_of_le_length (by omega), List.drop_of_length_le (by omega), List.nil_append]
theorem ok_take {ps : List Pt} (hg : ∀ p ∈ ps, GM p) {b t rest : List UInt8} (h : takeAll ps b = .ok (t, rest)) : rightAll ps t = true ∧ encAll ps t ++ rest = b := by
  unfold takeAll at h
  split at h
  · cases h
  · rename_i hl
    split at h
    · cases h
    · rename_i t' hd
      injection h with h
      injection h with h1 h2
      subst h1 h2
      obtain ⟨e1, e2⟩ := dec_all ps b t' hg (by omega) hd
      exact ⟨e1, by rw [e2, List.take_append_drop]⟩
theorem take_short {ps : List Pt} {b : List UInt8} (h : b.length < sizeAll ps) : takeAll ps b = .error 43 := by
  unfold takeAll
  rw [if_pos h]
end Go.Proofs.YtgdlidjjogoiaaaGreatDoor.Fdd
