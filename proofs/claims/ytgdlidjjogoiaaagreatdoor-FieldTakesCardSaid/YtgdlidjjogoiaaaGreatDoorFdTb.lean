/-
  The reference's reading of a right text's bytes, in plain data: it is the one that a form takes. No conditions; nothing of the program.
-/
import Derived.Test.YtgdlidjjogoiaaaGreatDoorFdPb
namespace Go.Proofs.YtgdlidjjogoiaaaGreatDoor.Fdd
set_option linter.unusedVariables false
def unebc (c : UInt8) : UInt8 := (List.range 128).foldl (fun f s => if sgn.contains (UInt8.ofNat s) && ebc (UInt8.ofNat s) == c then UInt8.ofNat s else f) 0
def rraw (f : Fm) (i : Nat) : Bool := (decide (f.code = 2) && (decide (f.kind = 1) || decide (f.kind = 2) || (decide (f.kind = 5) && decide (0 < i)))) || (decide (f.kind = 4) && !decide (f.code = 1))
def downc (c : UInt8) : UInt8 := if 65 ≤ c.toNat ∧ c.toNat ≤ 70 then c + 32 else c
def rch (f : Fm) (i : Nat) (c : UInt8) : List UInt8 :=
  if rraw f i = true then [hexs.getD (c.toNat / 16) 0, hexs.getD (c.toNat % 16) 0] else
  if f.code = 3 ∧ f.kind ≠ 4 then [unebc c] else if f.kind = 4 then [downc c] else [c]
def rchars (f : Fm) : Nat → List UInt8 → List UInt8
  | _, [] => []
  | i, c :: r => rch f i c ++ rchars f (i + 1) r
def rfix1 (f : Fm) (n : Nat) (s : List UInt8) : List UInt8 := if f.code = 2 ∧ (f.kind = 1 ∨ f.kind = 2) ∧ s.length = n + 1 then s.drop 1 else s
def rfix2 (f : Fm) (s : List UInt8) : List UInt8 := if f.code = 2 ∧ f.kind = 5 ∧ (s.length : Int) = f.size + 2 then s.take 1 ++ s.drop 2 else s
def rfix (f : Fm) (n : Nat) (s : List UInt8) : List UInt8 := rfix2 f (rfix1 f n s)
def rlast (f : Fm) (w b : List UInt8) : List UInt8 := if f.kind = 2 then w.drop (w.length - b.length) else w
def rtext (f : Fm) (b : List UInt8) (n : Nat) : List UInt8 × Bool :=
  let s := rfix f n (rchars f 0 b)
  if f.right s = true then (s, (rlast f (rbytes f s) b == b) && (decide (f.kind ≠ 2) || decide (s.length = n))) else ([], false)
theorem unebc_sgn : ∀ c ∈ sgn, unebc (ebc c) = c := by decide +kernel
theorem dec_sgn : ∀ c ∈ dec, c ∈ sgn := by decide +kernel
theorem mk_sgn : ∀ c ∈ mk, c ∈ sgn := by decide +kernel
theorem dec_hex : ∀ c ∈ dec, c ∈ hexs := by decide +kernel
theorem down_up : ∀ c ∈ hexs, downc (upc c) = c := by decide +kernel
theorem rchars_plain {f : Fm} {g h : UInt8 → UInt8} : ∀ (i : Nat) (t : List UInt8), (∀ j, i ≤ j → ∀ c, rch f j c = [g c]) → (∀ c ∈ t, g (h c) = c) → rchars f i (t.map h) = t
  | _, [], _, _ => rfl
  | i, c :: r, h1, h2 => by
    show rch f i (h c) ++ rchars f (i + 1) (r.map h) = c :: r
    rw [h1 i (Nat.le_refl _), h2 c (List.mem_cons_self ..), rchars_plain (i + 1) r (fun j hj => h1 j (by omega)) fun c hc => h2 c (List.mem_cons_of_mem _ hc)]
    rfl
theorem rchars_raw {f : Fm} : ∀ (b : List UInt8) (i : Nat), (∀ j, i ≤ j → rraw f j = true) → rchars f i b = unpack hexs b
  | [], _, _ => rfl
  | x :: r, i, h => by
    show rch f i x ++ rchars f (i + 1) r = _
    rw [rchars_raw r (i + 1) fun j hj => h j (by omega)]
    unfold rch
    rw [if_pos (h i (Nat.le_refl _))]
    rfl
theorem unpack_rpack {T : List UInt8} (h2 : T.length % 2 = 0) (ht : ∀ c ∈ T, c ∈ hexs) : unpack hexs (rpack T) = T := by
  rw [rpack_of v_hex T ht]
  exact (unpack_pack (by decide) T h2 ht).1
theorem padded_cut (t : List UInt8) : (if (padded t).length = t.length + 1 then (padded t).drop 1 else padded t) = t := by
  unfold padded
  split
  · rw [if_pos (by simp)]
    rfl
  · rw [if_neg (by omega)]
theorem dig_chars {f : Fm} {c : Nat} {t : List UInt8} (hf : f.code = (c : Int)) (hk : f.kind = 1 ∨ f.kind = 2) (hc : 1 ≤ c ∧ c ≤ 3) (ht : onlyOf t dec = true) : rfix f t.length (rchars f 0 (rdigits (c : Int) t)) = t := by
  have hf2 : ∀ s, rfix2 f s = s := fun s => by
    unfold rfix2
    rw [if_neg (by omega)]
  unfold rfix
  rw [hf2]
  have hcc : c = 1 ∨ c = 2 ∨ c = 3 := by omega
  rcases hcc with rfl | rfl | rfl
  · have hr : ∀ j c, rch f j c = [id c] := fun j c => by
      unfold rch rraw
      rw [hf]
      rcases hk with hk | hk <;> rw [hk] <;> simp
    have := rchars_plain (h := id) 0 t (fun j _ c => hr j c) fun c _ => rfl
    rw [List.map_id] at this
    show rfix1 f t.length (rchars f 0 t) = t
    rw [this]
    unfold rfix1
    rw [if_neg (by omega)]
  · show rfix1 f t.length (rchars f 0 (rpack (padded t))) = t
    rw [rchars_raw _ 0 (fun j _ => by unfold rraw; rw [hf]; rcases hk with hk | hk <;> rw [hk] <;> simp), unpack_rpack (padded_two t).1 (padded_in (by decide) fun c hc => dec_hex c (only_in ht c hc))]
    unfold rfix1
    have := padded_cut t
    by_cases e : (padded t).length = t.length + 1
    · rw [if_pos e] at this
      rw [if_pos ⟨hf, hk, e⟩, this]
    · rw [if_neg e] at this
      rw [if_neg (by omega), this]
  · have hr : ∀ j c, rch f j c = [unebc c] := fun j c => by
      unfold rch rraw
      rw [hf]
      rcases hk with hk | hk <;> rw [hk] <;> simp
    have := rchars_plain (h := ebc) 0 t (fun j _ c => hr j c) fun c hc => unebc_sgn c (dec_sgn c (only_in ht c hc))
    show rfix1 f t.length (rchars f 0 (t.map ebc)) = t
    rw [this]
    unfold rfix1
    rw [if_neg (by omega)]
theorem sgn_chars {s c n : Nat} {t : List UInt8} (hc : 1 ≤ c ∧ c ≤ 3) (ht : onlyOf t sgn = true) : rfix (nf 3 s c) n (rchars (nf 3 s c) 0 (rsigns (c : Int) t)) = t := by
  have hfx : ∀ x, rfix (nf 3 s c) n x = x := fun x => by
    unfold rfix rfix2 rfix1 nf
    simp
  rw [hfx]
  have hcc : c = 1 ∨ c = 2 ∨ c = 3 := by omega
  rcases hcc with rfl | rfl | rfl
  · have := rchars_plain (f := nf 3 s 1) (g := id) (h := id) 0 t (fun j _ c => rfl) fun c _ => rfl
    rwa [List.map_id] at this
  · have := rchars_plain (f := nf 3 s 2) (g := id) (h := id) 0 t (fun j _ c => rfl) fun c _ => rfl
    rwa [List.map_id] at this
  · exact rchars_plain (f := nf 3 s 3) (g := unebc) (h := ebc) 0 t (fun j _ c => rfl) fun c hc => unebc_sgn c (only_in ht c hc)
theorem hex_chars {s c n : Nat} {t : List UInt8} (hc : 1 ≤ c ∧ c ≤ 3) (ht : onlyOf t hexs = true) (hl : t.length = 2 * s) : rfix (nf 4 s c) n (rchars (nf 4 s c) 0 (if (c : Int) ≠ 1 then rpack (padded t) else t.map upc)) = t := by
  have hfx : ∀ x, rfix (nf 4 s c) n x = x := fun x => by
    unfold rfix rfix2 rfix1 nf
    simp
  rw [hfx]
  have hp : padded t = t := by
    unfold padded
    rw [if_neg (by omega)]
  have hcc : c = 1 ∨ c = 2 ∨ c = 3 := by omega
  rcases hcc with rfl | rfl | rfl
  · exact rchars_plain (f := nf 4 s 1) (g := downc) (h := upc) 0 t (fun j _ c => rfl) fun c hc => down_up c (only_in ht c hc)
  · show rchars (nf 4 s 2) 0 (rpack (padded t)) = t
    rw [rchars_raw _ 0 (fun j _ => rfl), hp, unpack_rpack (by omega) (only_in ht)]
  · show rchars (nf 4 s 3) 0 (rpack (padded t)) = t
    rw [rchars_raw _ 0 (fun j _ => rfl), hp, unpack_rpack (by omega) (only_in ht)]
theorem mk_chars {s c n : Nat} {m : UInt8} {d : List UInt8} (hc : 1 ≤ c ∧ c ≤ 3) (hm : m ∈ mk) (hd : onlyOf d dec = true) (hl : d.length = s) : rfix (nf 5 s c) n (rchars (nf 5 s c) 0 (rsigns (c : Int) [m] ++ rdigits (c : Int) d)) = m :: d := by
  have hfx : ∀ x, rfix (nf 5 s c) n x = rfix2 (nf 5 s c) x := fun x => by
    unfold rfix rfix1 nf
    simp
  rw [hfx]
  have hcc : c = 1 ∨ c = 2 ∨ c = 3 := by omega
  rcases hcc with rfl | rfl | rfl
  · have := rchars_plain (f := nf 5 s 1) (g := id) (h := id) 0 (m :: d) (fun j _ c => rfl) fun c _ => rfl
    rw [List.map_id] at this
    show rfix2 (nf 5 s 1) (rchars (nf 5 s 1) 0 (m :: d)) = m :: d
    rw [this]
    unfold rfix2 nf
    simp
  · show rfix2 (nf 5 s 2) (m :: rchars (nf 5 s 2) 1 (rpack (padded d))) = m :: d
    rw [rchars_raw _ 1 (fun j hj => by unfold rraw nf; simp; omega), unpack_rpack (padded_two d).1 (padded_in (by decide) fun c hc => dec_hex c (only_in hd c hc))]
    have := padded_cut d
    unfold rfix2
    by_cases e : (padded d).length = d.length + 1
    · rw [if_pos e] at this
      rw [if_pos ⟨rfl, rfl, by show (((m :: padded d).length : Nat) : Int) = (s : Int) + 2; simp; omega⟩]
      show m :: (padded d).drop 1 = _
      rw [this]
    · rw [if_neg e] at this
      rw [if_neg, this]
      rintro ⟨_, _, h⟩
      replace h : (((m :: padded d).length : Nat) : Int) = (s : Int) + 2 := h
      simp at h
      omega
  · have := rchars_plain (f := nf 5 s 3) (g := unebc) (h := ebc) 0 (m :: d) (fun j _ c => rfl) fun c hc => unebc_sgn c (by
      rcases List.mem_cons.1 hc with rfl | hc
      · exact mk_sgn _ hm
      · exact dec_sgn c (only_in hd c hc))
    show rfix2 (nf 5 s 3) (rchars (nf 5 s 3) 0 ((m :: d).map ebc)) = m :: d
    rw [this]
    unfold rfix2 nf
    simp
/-- what the reference reads of a right text's bytes -/
theorem text_back {k s c : Nat} {t : List UInt8} (hk : k = 1 ∨ k = 3 ∨ k = 4 ∨ k = 5) (hc : 1 ≤ c ∧ c ≤ 3) (hr : (nf k s c).right t = true) : rfix (nf k s c) s (rchars (nf k s c) 0 (rbytes (nf k s c) t)) = t := by
  rcases hk with rfl | rfl | rfl | rfl
  · rw [right_nl (by decide)] at hr
    obtain ⟨h1, h2⟩ := right_one (p := ⟨s, dec, _⟩) hr
    have := dig_chars (f := nf 1 s c) rfl (.inl rfl) hc h1
    rwa [show t.length = s from h2] at this
  · rw [right_nl (by decide)] at hr
    exact sgn_chars hc (right_one (p := ⟨s, sgn, _⟩) hr).1
  · rw [right_nl (by decide)] at hr
    obtain ⟨h1, h2⟩ := right_one (p := ⟨2 * s, hexs, _⟩) hr
    exact hex_chars hc h1 h2
  · rw [right_nl (by decide)] at hr
    obtain ⟨h1, h2, h3⟩ := right_two (p := ⟨1, mk, _⟩) (q := ⟨s, dec, _⟩) hr
    obtain ⟨h4, h5⟩ := right_one h3
    cases t with
    | nil => cases h1
    | cons m d => exact mk_chars hc (by simpa [onlyOf] using h2) h4 h5
theorem text_nl {k s c : Nat} {b : List UInt8} (hk : k = 1 ∨ k = 3 ∨ k = 4 ∨ k = 5) (hc : 1 ≤ c ∧ c ≤ 3) (hs : 1 ≤ s ∧ s ≤ 64) (hb : b.length = sizeAll (ptsOf (k : Int) (c : Int) s)) :
    decAll (ptsOf (k : Int) (c : Int) s) b = if (rtext (nf k s c) b s).2 = true then some (rtext (nf k s c) b s).1 else none := by
  have hk1 : 1 ≤ k ∧ k ≤ 5 := by omega
  have hkk : k ≠ 2 := by omega
  have hkd : decide ((nf k s c).kind ≠ 2) = true := decide_eq_true (by show (k : Int) ≠ 2; omega)
  have hlast : ∀ w, rlast (nf k s c) w b = w := fun w => by
    unfold rlast
    rw [if_neg (by show ¬ (k : Int) = 2; omega)]
  cases hd : decAll (ptsOf (k : Int) (c : Int) s) b with
  | some t =>
    obtain ⟨h1, h2⟩ := dec_all _ b t (pts_gm hc) (by omega) hd
    rw [List.take_of_length_le (by omega)] at h2
    have hr : (nf k s c).right t = true := by rw [right_nl hkk]; exact h1
    have hp := rbytes_put hk1 hc hs hr
    rw [put_nl hkk, h2] at hp
    have htb := text_back hk hc hr
    rw [hp] at htb
    unfold rtext
    simp only [htb]
    rw [if_pos hr, hlast, hp, hkd]
    simp
  | none =>
    unfold rtext
    simp only []
    generalize rfix (nf k s c) s (rchars (nf k s c) 0 b) = t
    by_cases hr : (nf k s c).right t = true
    · rw [if_pos hr, hlast, hkd]
      by_cases hq : rbytes (nf k s c) t = b
      · exfalso
        rw [rbytes_put hk1 hc hs hr, put_nl hkk] at hq
        rw [right_nl hkk] at hr
        have := (enc_all _ t [] (pts_gm hc) hr).2
        rw [List.append_nil, hq, hd] at this
        cases this
      · rw [if_neg]
        simp [hq]
    · rw [if_neg hr]
      rfl
theorem text_ll {s c n : Nat} {b : List UInt8} (hc : 1 ≤ c ∧ c ≤ 3) (hs : 1 ≤ s ∧ s ≤ 64) (hn : 1 ≤ n ∧ n ≤ s) (hb : b.length = sizeAll (ptsOf 2 (c : Int) n)) :
    decAll (ptsOf 2 (c : Int) n) b = if (rtext (nf 2 s c) b n).2 = true then some (rtext (nf 2 s c) b n).1 else none := by
  have e2 : ∀ m, ptsOf 2 (c : Int) m = [⟨m, dec, (rws c).d⟩] := fun m => by
    show [(⟨m, dec, (rws (c : Int).toNat).d⟩ : Pt)] = _
    rw [Int.toNat_natCast]
  have hlast : ∀ w, rlast (nf 2 s c) w b = w.drop (w.length - b.length) := fun w => rfl
  have hrb : ∀ t, rbytes (nf 2 s c) t = rdigits (c : Int) (two t.length) ++ rdigits (c : Int) t := fun t => rfl
  have hkd : decide ((nf 2 s c).kind ≠ 2) = false := rfl
  have hdl : ∀ t, onlyOf t dec = true → t.length = n → (rdigits (c : Int) t).length = b.length := fun t ht hl => by
    rw [← enc_dig (n := n) hc ht, ← enc_one hl, ← e2, (enc_all _ t [] (pts_gm hc) (by rw [e2]; simp [rightAll, hl, ht, List.take_of_length_le])).1, hb]
  have hdr : ∀ t, onlyOf t dec = true → t.length = n → rlast (nf 2 s c) (rbytes (nf 2 s c) t) b = rdigits (c : Int) t := fun t ht hl => by
    rw [hlast, hrb, List.length_append, hdl t ht hl, Nat.add_sub_cancel, List.drop_left]
  cases hd : decAll (ptsOf 2 (c : Int) n) b with
  | some t =>
    obtain ⟨h1, h2⟩ := dec_all _ b t (pts_gm hc) (by omega) hd
    rw [List.take_of_length_le (by omega)] at h2
    rw [e2] at h1 h2
    obtain ⟨h3, h4⟩ := right_one h1
    rw [enc_one h4, enc_dig hc h3] at h2
    have h4' : t.length = n := h4
    have hr : (nf 2 s c).right t = true := by
      rw [right_ll, h4', e2, h1, Bool.and_true]
      exact decide_eq_true ⟨hn.1, by omega⟩
    have htb := dig_chars (f := nf 2 s c) rfl (.inr rfl) hc h3
    rw [h4', h2] at htb
    unfold rtext
    simp only [htb]
    rw [if_pos hr, hdr t h3 h4', h2, hkd, h4']
    simp
  | none =>
    unfold rtext
    simp only []
    generalize rfix (nf 2 s c) n (rchars (nf 2 s c) 0 b) = t
    by_cases hr : (nf 2 s c).right t = true
    · rw [if_pos hr, hkd]
      by_cases hl : t.length = n
      · have hq := (ll_right hr).2
        rw [hl, e2] at hq
        have h3 := (right_one hq).1
        rw [hdr t h3 hl]
        by_cases hqq : rdigits (c : Int) t = b
        · exfalso
          have := (enc_all _ t [] (pts_gm hc) (by rw [e2 n]; exact hq)).2
          rw [List.append_nil, e2 n, enc_one (show t.length = (⟨n, dec, (rws c).d⟩ : Pt).n from hl), enc_dig hc h3, hqq, ← e2 n, hd] at this
          cases this
        · rw [if_neg]
          simp [hqq]
      · rw [if_neg]
        simp [hl]
    · rw [if_neg hr]
      rfl
end Go.Proofs.YtgdlidjjogoiaaaGreatDoor.Fdd
