/-
  Several texts in one file, in their order:
  - The reference's bytes of a right text, in plain data, are those that a form puts. No conditions; nothing of the program.
  - The reference's reading of a right text's bytes, in plain data: it is the one that a form takes. No conditions; nothing of the program.
  - The reference's bytes: a digit's value, signs, digits in pairs. No conditions.
  - groatlaw05's shown: the examples' message. Conditions: the tables and the errors read as the program's text lays them.
  - Small facts for the laws of message. Conditions: the tables and the errors read as the program's text lays them.
  - Messages in plain data: a field looked up, and set. No conditions; nothing of the program.
  - Messages in plain data: what is left of a message's fields behind a place, a field set. No conditions; nothing of the program.
  - message's Form. Conditions: the tables and the errors read as the program's text lays them.
  - The reference's there and Form. No conditions.
  - The reference's number, Kind and Check. Conditions: the tables and the errors read as the program's text lays them.
  - message's Set and the reference's: slices.IndexFunc at its closure. No conditions.
-/
import Derived.Test.YticofobhkmabiaaGreatDoorJa0
import Derived.Test.YticofobhkmabiaaGreatDoorJa3
import Derived.IntWalk
import Derived.Test.YticofobhkmabiaaGreatDoorJa2
import Derived.Laws.EntriesVeiled
namespace Go.Proofs.YticofobhkmabiaaGreatDoor.Fdd
set_option linter.unusedVariables false
def ebc (c : UInt8) : UInt8 := if dec.contains c then c + 192 else if 65 ≤ c.toNat ∧ c.toNat ≤ 73 then c + 128 else if 74 ≤ c.toNat ∧ c.toNat ≤ 82 then c + 135 else if 83 ≤ c.toNat ∧ c.toNat ≤ 90 then c + 143 else 64
def vOf (c : UInt8) : Nat := if dec.contains c then c.toNat - 48 else c.toNat - 87
def upc (c : UInt8) : UInt8 := if 97 ≤ c.toNat then c - 32 else c
def rpack : List UInt8 → List UInt8
  | a :: b :: r => UInt8.ofNat (16 * vOf a + vOf b) :: rpack r
  | _ => []
def rsigns (code : Int) (t : List UInt8) : List UInt8 := if code = 3 then t.map ebc else t
def rdigits (code : Int) (t : List UInt8) : List UInt8 := if code = 2 then rpack (padded t) else rsigns code t
def rbytes (f : Fm) (t : List UInt8) : List UInt8 :=
  if f.kind = 1 then rdigits f.code t else if f.kind = 2 then rdigits f.code (two t.length) ++ rdigits f.code t else
  if f.kind = 5 then rsigns f.code (t.take 1) ++ rdigits f.code (t.drop 1) else if f.kind = 3 then rsigns f.code t else
  if f.code ≠ 1 then rpack (padded t) else t.map upc
theorem ebc_dec : ∀ c ∈ dec, one dec eDec c = ebc c := by decide +kernel
theorem ebc_sgn : ∀ c ∈ sgn, one sgn eSgn c = ebc c := by decide +kernel
theorem ebc_mk : ∀ c ∈ mk, one mk eMk c = ebc c := by decide +kernel
theorem id_dec : ∀ c ∈ dec, one dec dec c = c := by decide +kernel
theorem id_sgn : ∀ c ∈ sgn, one sgn sgn c = c := by decide +kernel
theorem id_mk : ∀ c ∈ mk, one mk mk c = c := by decide +kernel
theorem up_hex : ∀ c ∈ hexs, one hexs hexU c = upc c := by decide +kernel
theorem v_hex : ∀ c ∈ hexs, hexs.idxOf c = vOf c := by decide +kernel
theorem v_dec : ∀ c ∈ dec, dec.idxOf c = vOf c := by decide +kernel
theorem rpack_of {ch : List UInt8} (h : ∀ c ∈ ch, ch.idxOf c = vOf c) : ∀ t : List UInt8, (∀ c ∈ t, c ∈ ch) → rpack t = pack ch t
  | [], _ => rfl
  | [_], _ => rfl
  | a :: b :: r, ht => by
    have ha := h a (ht a (List.mem_cons_self ..))
    have hb := h b (ht b (List.mem_cons_of_mem _ (List.mem_cons_self ..)))
    have hr := rpack_of h r fun c hc => ht c (List.mem_cons_of_mem _ (List.mem_cons_of_mem _ hc))
    unfold rpack pack
    rw [ha, hb, hr]
theorem padded_in {ch t : List UInt8} (h0 : (48 : UInt8) ∈ ch) (ht : ∀ c ∈ t, c ∈ ch) : ∀ c ∈ padded t, c ∈ ch := by
  unfold padded
  split
  · intro c hc
    rcases List.mem_cons.1 hc with rfl | hc
    · exact h0
    · exact ht c hc
  · exact ht
theorem only_in {l cs : List UInt8} (h : onlyOf l cs = true) : ∀ c ∈ l, c ∈ cs := fun _ hc => onlyOf_mem h hc
theorem map_in {f g : UInt8 → UInt8} {cs : List UInt8} (h : ∀ c ∈ cs, f c = g c) {t : List UInt8} (ht : onlyOf t cs = true) : t.map f = t.map g :=
  List.map_congr_left fun c hc => h c (onlyOf_mem ht hc)
theorem enc_dig {n : Nat} {c : Nat} (hc : 1 ≤ c ∧ c ≤ 3) {t : List UInt8} (ht : onlyOf t dec = true) : (⟨n, dec, (rws c).d⟩ : Pt).enc t = rdigits (c : Int) t := by
  have hcc : c = 1 ∨ c = 2 ∨ c = 3 := by omega
  rcases hcc with rfl | rfl | rfl
  · show t.map (one dec dec) = t
    rw [map_in id_dec ht, List.map_id' t]
  · show pack dec (padded t) = rpack (padded t)
    exact (rpack_of v_dec _ (padded_in (by decide) (only_in ht))).symm
  · exact map_in ebc_dec ht
theorem enc_sgn {n : Nat} {c : Nat} (hc : 1 ≤ c ∧ c ≤ 3) {t : List UInt8} (ht : onlyOf t sgn = true) : (⟨n, sgn, (rws c).s⟩ : Pt).enc t = rsigns (c : Int) t := by
  have hcc : c = 1 ∨ c = 2 ∨ c = 3 := by omega
  rcases hcc with rfl | rfl | rfl
  · show t.map (one sgn sgn) = t
    rw [map_in id_sgn ht, List.map_id' t]
  · show t.map (one sgn sgn) = t
    rw [map_in id_sgn ht, List.map_id' t]
  · exact map_in ebc_sgn ht
theorem enc_mk {n : Nat} {c : Nat} (hc : 1 ≤ c ∧ c ≤ 3) {t : List UInt8} (ht : onlyOf t mk = true) : (⟨n, mk, (rws c).m⟩ : Pt).enc t = rsigns (c : Int) t := by
  have hcc : c = 1 ∨ c = 2 ∨ c = 3 := by omega
  rcases hcc with rfl | rfl | rfl
  · show t.map (one mk mk) = t
    rw [map_in id_mk ht, List.map_id' t]
  · show t.map (one mk mk) = t
    rw [map_in id_mk ht, List.map_id' t]
  · exact map_in ebc_mk ht
theorem enc_hex {n : Nat} {c : Nat} (hc : 1 ≤ c ∧ c ≤ 3) {t : List UInt8} (ht : onlyOf t hexs = true) : (⟨n, hexs, (rws c).h⟩ : Pt).enc t = if (c : Int) ≠ 1 then rpack (padded t) else t.map upc := by
  have hcc : c = 1 ∨ c = 2 ∨ c = 3 := by omega
  rcases hcc with rfl | rfl | rfl
  · exact map_in up_hex ht
  · show pack hexs (padded t) = rpack (padded t)
    exact (rpack_of v_hex _ (padded_in (by decide) (only_in ht))).symm
  · show pack hexs (padded t) = rpack (padded t)
    exact (rpack_of v_hex _ (padded_in (by decide) (only_in ht))).symm
theorem right_one {p : Pt} {t : List UInt8} (h : rightAll [p] t = true) : onlyOf t p.chars = true ∧ t.length = p.n := by
  unfold rightAll rightAll at h
  simp only [Bool.and_eq_true, decide_eq_true_eq, beq_iff_eq, List.drop_eq_nil_iff] at h
  obtain ⟨h1, h2, h3⟩ := h
  rw [List.take_of_length_le h3] at h2
  exact ⟨h2, by omega⟩
theorem enc_one {p : Pt} {t : List UInt8} (h : t.length = p.n) : encAll [p] t = p.enc t := by
  unfold encAll encAll
  rw [List.append_nil, List.take_of_length_le (by omega)]
theorem right_two {p q : Pt} {t : List UInt8} (h : rightAll [p, q] t = true) : p.n ≤ t.length ∧ onlyOf (t.take p.n) p.chars = true ∧ rightAll [q] (t.drop p.n) = true := by
  unfold rightAll at h
  simp only [Bool.and_eq_true, decide_eq_true_eq] at h
  exact h
theorem rbytes_put {k s c : Nat} {t : List UInt8} (hk : 1 ≤ k ∧ k ≤ 5) (hc : 1 ≤ c ∧ c ≤ 3) (hs : 1 ≤ s ∧ s ≤ 64) (hr : (nf k s c).right t = true) : rbytes (nf k s c) t = (nf k s c).put t := by
  have hkk : k = 1 ∨ k = 2 ∨ k = 3 ∨ k = 4 ∨ k = 5 := by omega
  have hcn : (c : Int).toNat = c := Int.toNat_natCast c
  rcases hkk with rfl | rfl | rfl | rfl | rfl
  · rw [right_nl (by decide)] at hr
    rw [put_nl (by decide)]
    have e : ptsOf ((1 : Nat) : Int) (c : Int) s = [⟨s, dec, (rws c).d⟩] := by
      show [(⟨s, dec, (rws (c : Int).toNat).d⟩ : Pt)] = _
      rw [hcn]
    rw [e] at hr ⊢
    obtain ⟨h1, h2⟩ := right_one hr
    rw [enc_one h2, enc_dig hc h1]
    rfl
  · obtain ⟨hl, hr2⟩ := ll_right hr
    rw [put_ll]
    have e1 : ptsOf 1 (c : Int) 2 = [⟨2, dec, (rws c).d⟩] := by
      show [(⟨2, dec, (rws (c : Int).toNat).d⟩ : Pt)] = _
      rw [hcn]
    have e2 : ptsOf 2 (c : Int) t.length = [⟨t.length, dec, (rws c).d⟩] := by
      show [(⟨t.length, dec, (rws (c : Int).toNat).d⟩ : Pt)] = _
      rw [hcn]
    rw [e2] at hr2
    rw [e1, e2]
    obtain ⟨h1, h2⟩ := right_one hr2
    rw [enc_one h2, enc_one (two_len _), enc_dig hc h1, enc_dig hc (two_ok (show t.length ≤ 99 by omega)).2]
    rfl
  · rw [right_nl (by decide)] at hr
    rw [put_nl (by decide)]
    have e : ptsOf ((3 : Nat) : Int) (c : Int) s = [⟨s, sgn, (rws c).s⟩] := by
      show [(⟨s, sgn, (rws (c : Int).toNat).s⟩ : Pt)] = _
      rw [hcn]
    rw [e] at hr ⊢
    obtain ⟨h1, h2⟩ := right_one hr
    rw [enc_one h2, enc_sgn hc h1]
    rfl
  · rw [right_nl (by decide)] at hr
    rw [put_nl (by decide)]
    have e : ptsOf ((4 : Nat) : Int) (c : Int) s = [⟨2 * s, hexs, (rws c).h⟩] := by
      show [(⟨2 * s, hexs, (rws (c : Int).toNat).h⟩ : Pt)] = _
      rw [hcn]
    rw [e] at hr ⊢
    obtain ⟨h1, h2⟩ := right_one hr
    rw [enc_one h2, enc_hex hc h1]
    rfl
  · rw [right_nl (by decide)] at hr
    rw [put_nl (by decide)]
    have e : ptsOf ((5 : Nat) : Int) (c : Int) s = [⟨1, mk, (rws c).m⟩, ⟨s, dec, (rws c).d⟩] := by
      show [(⟨1, mk, (rws (c : Int).toNat).m⟩ : Pt), ⟨s, dec, (rws (c : Int).toNat).d⟩] = _
      rw [hcn]
    rw [e] at hr ⊢
    obtain ⟨h1, h2, h3⟩ := right_two hr
    obtain ⟨h4, h5⟩ := right_one h3
    have e2 : encAll [⟨1, mk, (rws c).m⟩, ⟨s, dec, (rws c).d⟩] t = (⟨1, mk, (rws c).m⟩ : Pt).enc (t.take 1) ++ encAll [⟨s, dec, (rws c).d⟩] (t.drop 1) := rfl
    rw [e2, enc_one h5, enc_mk hc h2, enc_dig hc h4]
    rfl
end Go.Proofs.YticofobhkmabiaaGreatDoor.Fdd
namespace Go.Proofs.YticofobhkmabiaaGreatDoor.Fdd
set_option linter.unusedVariables false
def unebc (c : UInt8) : UInt8 := (List.range 128).foldl (fun f s => if sgn.contains (UInt8.ofNat s) && ebc (UInt8.ofNat s) == c then UInt8.ofNat s else f) 0
def rraw (f : Fm) (i : Nat) : Bool := (decide (f.code = 2) && (decide (f.kind = 1) || decide (f.kind = 2) || (decide (f.kind = 5) && decide (0 < i)))) || (decide (f.kind = 4) && !decide (f.code = 1))
def downc (c : UInt8) : UInt8 := if 65 ≤ c.toNat ∧ c.toNat ≤ 70 then c + 32 else c
def rch (f : Fm) (i : Nat) (c : UInt8) : List UInt8 :=
  if rraw f i = true then [hexs.getD (c.toNat / 16) 0, hexs.getD (c.toNat % 16) 0] else
  if f.code = 3 ∧ f.kind ≠ 4 then [unebc c] else if f.kind = 4 then [downc c] else [c]
def rchars (f : Fm) : Nat → List UInt8 → List UInt8
  | _, [] => []
  | i, c :: r => rch f i c ++ rchars f (i + 1) r
def rfix1 (f : Fm) (n : Nat) (s : List UInt8) : List UInt8 := if f.code = 2 ∧ (f.kind = 1 ∨ f.kind = 2) ∧ s.length = n + 1 then s.drop 1 else s
def rfix2 (f : Fm) (s : List UInt8) : List UInt8 := if f.code = 2 ∧ f.kind = 5 ∧ (s.length : Int) = f.size + 2 then s.take 1 ++ s.drop 2 else s
def rfix (f : Fm) (n : Nat) (s : List UInt8) : List UInt8 := rfix2 f (rfix1 f n s)
def rlast (f : Fm) (w b : List UInt8) : List UInt8 := if f.kind = 2 then w.drop (w.length - b.length) else w
def rtext (f : Fm) (b : List UInt8) (n : Nat) : List UInt8 × Bool :=
  let s := rfix f n (rchars f 0 b)
  if f.right s = true then (s, (rlast f (rbytes f s) b == b) && (decide (f.kind ≠ 2) || decide (s.length = n))) else ([], false)
theorem unebc_sgn : ∀ c ∈ sgn, unebc (ebc c) = c := by decide +kernel
theorem dec_sgn : ∀ c ∈ dec, c ∈ sgn := by decide +kernel
theorem mk_sgn : ∀ c ∈ mk, c ∈ sgn := by decide +kernel
theorem dec_hex : ∀ c ∈ dec, c ∈ hexs := by decide +kernel
theorem down_up : ∀ c ∈ hexs, downc (upc c) = c := by decide +kernel
theorem rchars_plain {f : Fm} {g h : UInt8 → UInt8} : ∀ (i : Nat) (t : List UInt8), (∀ j, i ≤ j → ∀ c, rch f j c = [g c]) → (∀ c ∈ t, g (h c) = c) → rchars f i (t.map h) = t
  | _, [], _, _ => rfl
  | i, c :: r, h1, h2 => by
    show rch f i (h c) ++ rchars f (i + 1) (r.map h) = c :: r
    rw [h1 i (Nat.le_refl _), h2 c (List.mem_cons_self ..), rchars_plain (i + 1) r (fun j hj => h1 j (by omega)) fun c hc => h2 c (List.mem_cons_of_mem _ hc)]
    rfl
theorem rchars_raw {f : Fm} : ∀ (b : List UInt8) (i : Nat), (∀ j, i ≤ j → rraw f j = true) → rchars f i b = unpack hexs b
  | [], _, _ => rfl
  | x :: r, i, h => by
    show rch f i x ++ rchars f (i + 1) r = _
    rw [rchars_raw r (i + 1) fun j hj => h j (by omega)]
    unfold rch
    rw [if_pos (h i (Nat.le_refl _))]
    rfl
theorem unpack_rpack {T : List UInt8} (h2 : T.length % 2 = 0) (ht : ∀ c ∈ T, c ∈ hexs) : unpack hexs (rpack T) = T := by
  rw [rpack_of v_hex T ht]
  exact (unpack_pack (by decide) T h2 ht).1
theorem padded_cut (t : List UInt8) : (if (padded t).length = t.length + 1 then (padded t).drop 1 else padded t) = t := by
  unfold padded
  split
  · rw [if_pos (by simp)]
    rfl
  · rw [if_neg (by omega)]
theorem dig_chars {f : Fm} {c : Nat} {t : List UInt8} (hf : f.code = (c : Int)) (hk : f.kind = 1 ∨ f.kind = 2) (hc : 1 ≤ c ∧ c ≤ 3) (ht : onlyOf t dec = true) : rfix f t.length (rchars f 0 (rdigits (c : Int) t)) = t := by
  have hf2 : ∀ s, rfix2 f s = s := fun s => by
    unfold rfix2
    rw [if_neg (by omega)]
  unfold rfix
  rw [hf2]
  have hcc : c = 1 ∨ c = 2 ∨ c = 3 := by omega
  rcases hcc with rfl | rfl | rfl
  · have hr : ∀ j c, rch f j c = [id c] := fun j c => by
      unfold rch rraw
      rw [hf]
      rcases hk with hk | hk <;> rw [hk] <;> simp
    have := rchars_plain (h := id) 0 t (fun j _ c => hr j c) fun c _ => rfl
    rw [List.map_id] at this
    show rfix1 f t.length (rchars f 0 t) = t
    rw [this]
    unfold rfix1
    rw [if_neg (by omega)]
  · show rfix1 f t.length (rchars f 0 (rpack (padded t))) = t
    rw [rchars_raw _ 0 (fun j _ => by unfold rraw; rw [hf]; rcases hk with hk | hk <;> rw [hk] <;> simp), unpack_rpack (padded_two t).1 (padded_in (by decide) fun c hc => dec_hex c (only_in ht c hc))]
    unfold rfix1
    have := padded_cut t
    by_cases e : (padded t).length = t.length + 1
    · rw [if_pos e] at this
      rw [if_pos ⟨hf, hk, e⟩, this]
    · rw [if_neg e] at this
      rw [if_neg (by omega), this]
  · have hr : ∀ j c, rch f j c = [unebc c] := fun j c => by
      unfold rch rraw
      rw [hf]
      rcases hk with hk | hk <;> rw [hk] <;> simp
    have := rchars_plain (h := ebc) 0 t (fun j _ c => hr j c) fun c hc => unebc_sgn c (dec_sgn c (only_in ht c hc))
    show rfix1 f t.length (rchars f 0 (t.map ebc)) = t
    rw [this]
    unfold rfix1
    rw [if_neg (by omega)]
theorem sgn_chars {s c n : Nat} {t : List UInt8} (hc : 1 ≤ c ∧ c ≤ 3) (ht : onlyOf t sgn = true) : rfix (nf 3 s c) n (rchars (nf 3 s c) 0 (rsigns (c : Int) t)) = t := by
  have hfx : ∀ x, rfix (nf 3 s c) n x = x := fun x => by
    unfold rfix rfix2 rfix1 nf
    simp
  rw [hfx]
  have hcc : c = 1 ∨ c = 2 ∨ c = 3 := by omega
  rcases hcc with rfl | rfl | rfl
  · have := rchars_plain (f := nf 3 s 1) (g := id) (h := id) 0 t (fun j _ c => rfl) fun c _ => rfl
    rwa [List.map_id] at this
  · have := rchars_plain (f := nf 3 s 2) (g := id) (h := id) 0 t (fun j _ c => rfl) fun c _ => rfl
    rwa [List.map_id] at this
  · exact rchars_plain (f := nf 3 s 3) (g := unebc) (h := ebc) 0 t (fun j _ c => rfl) fun c hc => unebc_sgn c (only_in ht c hc)
theorem hex_chars {s c n : Nat} {t : List UInt8} (hc : 1 ≤ c ∧ c ≤ 3) (ht : onlyOf t hexs = true) (hl : t.length = 2 * s) : rfix (nf 4 s c) n (rchars (nf 4 s c) 0 (if (c : Int) ≠ 1 then rpack (padded t) else t.map upc)) = t := by
  have hfx : ∀ x, rfix (nf 4 s c) n x = x := fun x => by
    unfold rfix rfix2 rfix1 nf
    simp
  rw [hfx]
  have hp : padded t = t := by
    unfold padded
    rw [if_neg (by omega)]
  have hcc : c = 1 ∨ c = 2 ∨ c = 3 := by omega
  rcases hcc with rfl | rfl | rfl
  · exact rchars_plain (f := nf 4 s 1) (g := downc) (h := upc) 0 t (fun j _ c => rfl) fun c hc => down_up c (only_in ht c hc)
  · show rchars (nf 4 s 2) 0 (rpack (padded t)) = t
    rw [rchars_raw _ 0 (fun j _ => rfl), hp, unpack_rpack (by omega) (only_in ht)]
  · show rchars (nf 4 s 3) 0 (rpack (padded t)) = t
    rw [rchars_raw _ 0 (fun j _ => rfl), hp, unpack_rpack (by omega) (only_in ht)]
theorem mk_chars {s c n : Nat} {m : UInt8} {d : List UInt8} (hc : 1 ≤ c ∧ c ≤ 3) (hm : m ∈ mk) (hd : onlyOf d dec = true) (hl : d.length = s) : rfix (nf 5 s c) n (rchars (nf 5 s c) 0 (rsigns (c : Int) [m] ++ rdigits (c : Int) d)) = m :: d := by
  have hfx : ∀ x, rfix (nf 5 s c) n x = rfix2 (nf 5 s c) x := fun x => by
    unfold rfix rfix1 nf
    simp
  rw [hfx]
  have hcc : c = 1 ∨ c = 2 ∨ c = 3 := by omega
  rcases hcc with rfl | rfl | rfl
  · have := rchars_plain (f := nf 5 s 1) (g := id) (h := id) 0 (m :: d) (fun j _ c => rfl) fun c _ => rfl
    rw [List.map_id] at this
    show rfix2 (nf 5 s 1) (rchars (nf 5 s 1) 0 (m :: d)) = m :: d
    rw [this]
    unfold rfix2 nf
    simp
  · show rfix2 (nf 5 s 2) (m :: rchars (nf 5 s 2) 1 (rpack (padded d))) = m :: d
    rw [rchars_raw _ 1 (fun j hj => by unfold rraw nf; simp; omega), unpack_rpack (padded_two d).1 (padded_in (by decide) fun c hc => dec_hex c (only_in hd c hc))]
    have := padded_cut d
    unfold rfix2
    by_cases e : (padded d).length = d.length + 1
    · rw [if_pos e] at this
      rw [if_pos ⟨rfl, rfl, by show (((m :: padded d).length : Nat) : Int) = (s : Int) + 2; simp; omega⟩]
      show m :: (padded d).drop 1 = _
      rw [this]
    · rw [if_neg e] at this
      rw [if_neg, this]
      rintro ⟨_, _, h⟩
      replace h : (((m :: padded d).length : Nat) : Int) = (s : Int) + 2 := h
      simp at h
      omega
  · have := rchars_plain (f := nf 5 s 3) (g := unebc) (h := ebc) 0 (m :: d) (fun j _ c => rfl) fun c hc => unebc_sgn c (by
      rcases List.mem_cons.1 hc with rfl | hc
      · exact mk_sgn _ hm
      · exact dec_sgn c (only_in hd c hc))
    show rfix2 (nf 5 s 3) (rchars (nf 5 s 3) 0 ((m :: d).map ebc)) = m :: d
    rw [this]
    unfold rfix2 nf
    simp
/-- what the reference reads of a right text's bytes -/
theorem text_back {k s c : Nat} {t : List UInt8} (hk : k = 1 ∨ k = 3 ∨ k = 4 ∨ k = 5) (hc : 1 ≤ c ∧ c ≤ 3) (hr : (nf k s c).right t = true) : rfix (nf k s c) s (rchars (nf k s c) 0 (rbytes (nf k s c) t)) = t := by
  rcases hk with rfl | rfl | rfl | rfl
  · rw [right_nl (by decide)] at hr
    obtain ⟨h1, h2⟩ := right_one (p := ⟨s, dec, _⟩) hr
    have := dig_chars (f := nf 1 s c) rfl (.inl rfl) hc h1
    rwa [show t.length = s from h2] at this
  · rw [right_nl (by decide)] at hr
    exact sgn_chars hc (right_one (p := ⟨s, sgn, _⟩) hr).1
  · rw [right_nl (by decide)] at hr
    obtain ⟨h1, h2⟩ := right_one (p := ⟨2 * s, hexs, _⟩) hr
    exact hex_chars hc h1 h2
  · rw [right_nl (by decide)] at hr
    obtain ⟨h1, h2, h3⟩ := right_two (p := ⟨1, mk, _⟩) (q := ⟨s, dec, _⟩) hr
    obtain ⟨h4, h5⟩ := right_one h3
    cases t with
    | nil => cases h1
    | cons m d => exact mk_chars hc (by simpa [onlyOf] using h2) h4 h5
theorem text_nl {k s c : Nat} {b : List UInt8} (hk : k = 1 ∨ k = 3 ∨ k = 4 ∨ k = 5) (hc : 1 ≤ c ∧ c ≤ 3) (hs : 1 ≤ s ∧ s ≤ 64) (hb : b.length = sizeAll (ptsOf (k : Int) (c : Int) s)) :
    decAll (ptsOf (k : Int) (c : Int) s) b = if (rtext (nf k s c) b s).2 = true then some (rtext (nf k s c) b s).1 else none := by
  have hk1 : 1 ≤ k ∧ k ≤ 5 := by omega
  have hkk : k ≠ 2 := by omega
  have hkd : decide ((nf k s c).kind ≠ 2) = true := decide_eq_true (by show (k : Int) ≠ 2; omega)
  have hlast : ∀ w, rlast (nf k s c) w b = w := fun w => by
    unfold rlast
    rw [if_neg (by show ¬ (k : Int) = 2; omega)]
  cases hd : decAll (ptsOf (k : Int) (c : Int) s) b with
  | some t =>
    obtain ⟨h1, h2⟩ := dec_all _ b t (pts_gm hc) (by omega) hd
    rw [List.take_of_length_le (by omega)] at h2
    have hr : (nf k s c).right t = true := by rw [right_nl hkk]; exact h1
    have hp := rbytes_put hk1 hc hs hr
    rw [put_nl hkk, h2] at hp
    have htb := text_back hk hc hr
    rw [hp] at htb
    unfold rtext
    simp only [htb]
    rw [if_pos hr, hlast, hp, hkd]
    simp
  | none =>
    unfold rtext
    simp only []
    generalize rfix (nf k s c) s (rchars (nf k s c) 0 b) = t
    by_cases hr : (nf k s c).right t = true
    · rw [if_pos hr, hlast, hkd]
      by_cases hq : rbytes (nf k s c) t = b
      · exfalso
        rw [rbytes_put hk1 hc hs hr, put_nl hkk] at hq
        rw [right_nl hkk] at hr
        have := (enc_all _ t [] (pts_gm hc) hr).2
        rw [List.append_nil, hq, hd] at this
        cases this
      · rw [if_neg]
        simp [hq]
    · rw [if_neg hr]
      rfl
theorem text_ll {s c n : Nat} {b : List UInt8} (hc : 1 ≤ c ∧ c ≤ 3) (hs : 1 ≤ s ∧ s ≤ 64) (hn : 1 ≤ n ∧ n ≤ s) (hb : b.length = sizeAll (ptsOf 2 (c : Int) n)) :
    decAll (ptsOf 2 (c : Int) n) b = if (rtext (nf 2 s c) b n).2 = true then some (rtext (nf 2 s c) b n).1 else none := by
  have e2 : ∀ m, ptsOf 2 (c : Int) m = [⟨m, dec, (rws c).d⟩] := fun m => by
    show [(⟨m, dec, (rws (c : Int).toNat).d⟩ : Pt)] = _
    rw [Int.toNat_natCast]
  have hlast : ∀ w, rlast (nf 2 s c) w b = w.drop (w.length - b.length) := fun w => rfl
  have hrb : ∀ t, rbytes (nf 2 s c) t = rdigits (c : Int) (two t.length) ++ rdigits (c : Int) t := fun t => rfl
  have hkd : decide ((nf 2 s c).kind ≠ 2) = false := rfl
  have hdl : ∀ t, onlyOf t dec = true → t.length = n → (rdigits (c : Int) t).length = b.length := fun t ht hl => by
    rw [← enc_dig (n := n) hc ht, ← enc_one hl, ← e2, (enc_all _ t [] (pts_gm hc) (by rw [e2]; simp [rightAll, hl, ht, List.take_of_length_le])).1, hb]
  have hdr : ∀ t, onlyOf t dec = true → t.length = n → rlast (nf 2 s c) (rbytes (nf 2 s c) t) b = rdigits (c : Int) t := fun t ht hl => by
    rw [hlast, hrb, List.length_append, hdl t ht hl, Nat.add_sub_cancel, List.drop_left]
  cases hd : decAll (ptsOf 2 (c : Int) n) b with
  | some t =>
    obtain ⟨h1, h2⟩ := dec_all _ b t (pts_gm hc) (by omega) hd
    rw [List.take_of_length_le (by omega)] at h2
    rw [e2] at h1 h2
    obtain ⟨h3, h4⟩ := right_one h1
    rw [enc_one h4, enc_dig hc h3] at h2
    have h4' : t.length = n := h4
    have hr : (nf 2 s c).right t = true := by
      rw [right_ll, h4', e2, h1, Bool.and_true]
      exact decide_eq_true ⟨hn.1, by omega⟩
    have htb := dig_chars (f := nf 2 s c) rfl (.inr rfl) hc h3
    rw [h4', h2] at htb
    unfold rtext
    simp only [htb]
    rw [if_pos hr, hdr t h3 h4', h2, hkd, h4']
    simp
  | none =>
    unfold rtext
    simp only []
    generalize rfix (nf 2 s c) n (rchars (nf 2 s c) 0 b) = t
    by_cases hr : (nf 2 s c).right t = true
    · rw [if_pos hr, hkd]
      by_cases hl : t.length = n
      · have hq := (ll_right hr).2
        rw [hl, e2] at hq
        have h3 := (right_one hq).1
        rw [hdr t h3 hl]
        by_cases hqq : rdigits (c : Int) t = b
        · exfalso
          have := (enc_all _ t [] (pts_gm hc) (by rw [e2 n]; exact hq)).2
          rw [List.append_nil, e2 n, enc_one (show t.length = (⟨n, dec, (rws c).d⟩ : Pt).n from hl), enc_dig hc h3, hqq, ← e2 n, hd] at this
          cases this
        · rw [if_neg]
          simp [hqq]
      · rw [if_neg]
        simp [hl]
    · rw [if_neg hr]
      rfl
end Go.Proofs.YticofobhkmabiaaGreatDoor.Fdd
namespace Go.Proofs.YticofobhkmabiaaGreatDoor
open Go.RowKit
open Fdd
set_option linter.unusedVariables false
set_option linter.unusedSimpArgs false
theorem vOf_nat (b : UInt8) : vOf b = if 48 ≤ b.toNat ∧ b.toNat ≤ 57 then b.toNat - 48 else b.toNat - 87 := byte_of (P := fun b => vOf b = if 48 ≤ b.toNat ∧ b.toNat ≤ 57 then b.toNat - 48 else b.toNat - 87) (by decide +kernel) b
theorem vOf_lt (b : UInt8) (h : hexs.contains b = true) : vOf b < 16 := by
  rw [hex_byte] at h
  have h2 := of_decide_eq_true h
  rw [vOf_nat]
  split <;> omega
theorem ebc_nat (b : UInt8) : (ebc b).toNat = if 48 ≤ b.toNat ∧ b.toNat ≤ 57 then b.toNat + 192 else if 65 ≤ b.toNat ∧ b.toNat ≤ 73 then b.toNat + 128 else if 74 ≤ b.toNat ∧ b.toNat ≤ 82 then b.toNat + 135 else if 83 ≤ b.toNat ∧ b.toNat ≤ 90 then b.toNat + 143 else 64 :=
  byte_of (P := fun b => (ebc b).toNat = if 48 ≤ b.toNat ∧ b.toNat ≤ 57 then b.toNat + 192 else if 65 ≤ b.toNat ∧ b.toNat ≤ 73 then b.toNat + 128 else if 74 ≤ b.toNat ∧ b.toNat ≤ 82 then b.toNat + 135 else if 83 ≤ b.toNat ∧ b.toNat ≤ 90 then b.toNat + 143 else 64) (by decide +kernel) b
theorem wrapu8 (x : Int) : IntKind.u8.wrap x = x % 256 := by
  simp [IntKind.wrap, IntKind.bits, IntKind.signed]
theorem valueH_walk (b : UInt8) (h : hexs.contains b = true) (w : World) :
    Calls Tryz.prog 53 #[.int .u8 (b.toNat : Int)] w fun e w' => e = .returned (.int .i64 ((vOf b : Nat) : Int)) ∧ w' = w := by
  have hd := digit_walk b
  rw [dec_byte] at hd
  rw [hex_byte] at h
  have h2 := of_decide_eq_true h
  rw [vOf_nat]
  have HD := Lib.hid hd
  clear hd h
  generalize b.toNat = n at *
  by_cases h0 : 48 ≤ n ∧ n ≤ 57
  · rw [decide_eq_true h0] at HD
    rw [if_pos h0]
    have h3 := h0.1
    have h4 := h0.2
    clear h0 h2
    go_enter Tryz.func53, Tryz.ntmps53
    go_wp2_with (go_at_call 85; refine (HD.out _).mono ?_; rintro e w1 ⟨rfl, rfl⟩)
    go_ret
    exact ⟨ret_int (by omega), rfl⟩
  · rw [decide_eq_false h0] at HD
    rw [if_neg h0]
    have h3 : 97 ≤ n := by omega
    have h4 : n ≤ 102 := by omega
    clear h0 h2
    go_enter Tryz.func53, Tryz.ntmps53
    go_wp2_with (go_at_call 85; refine (HD.out _).mono ?_; rintro e w1 ⟨rfl, rfl⟩)
    go_ret
    exact ⟨ret_int (by omega), rfl⟩
theorem ebcdic_walk (b : UInt8) (w : World) :
    Calls Tryz.prog 86 #[.int .u8 (b.toNat : Int)] w fun e w' => e = .returned (.int .u8 (((ebc b).toNat : Nat) : Int)) ∧ w' = w := by
  have hd := digit_walk b
  rw [dec_byte] at hd
  rw [ebc_nat]
  have HD := Lib.hid hd
  clear hd
  have hb := b.toNat_lt
  generalize b.toNat = n at *
  by_cases h0 : 48 ≤ n ∧ n ≤ 57
  · rw [decide_eq_true h0] at HD
    rw [if_pos h0]
    have h3 := h0.1
    have h4 := h0.2
    clear h0
    go_enter Tryz.func86, Tryz.ntmps86
    go_wp2_with (go_at_call 85; refine (HD.out _).mono ?_; rintro e w1 ⟨rfl, rfl⟩)
    go_ret
    exact ⟨ret_int (by first | omega | (simp only [wrapu8]; omega)), rfl⟩
  · rw [decide_eq_false h0] at HD
    rw [if_neg h0]
    go_enter Tryz.func86, Tryz.ntmps86
    go_wp2_with (go_at_call 85; refine (HD.out _).mono ?_; rintro e w1 ⟨rfl, rfl⟩)
    all_goals (try go_ret)
    all_goals
      refine ⟨ret_int ?_, rfl⟩
      first
        | omega
        | ((repeat' split) <;> omega)
        | (simp only [wrapu8]; (repeat' split) <;> omega)
theorem exec_one {a : Act} {o : Oper} {W : World} {x : Operand} {z : UInt8} (ho : o.op = .buildSlice 26 1 #[(0, x)]) (hx : a.eval x = .int .u8 (z.toNat : Int)) : (execOp a.eval o).run Tryz.prog W = .ok (.value (.slice (some ⟨W.heap.size, 0, none⟩) 1 1)) (W.alloc (.cells (bcs [z]).toArray 5)) := by
  obtain ⟨j0, hj0, hjz, hj1, hj2⟩ := info_parts byteInfo
  exact exec_buildSlice1 ho hx (run_buildSlice_one (v := .int .u8 (z.toNat : Int)) Tryz.underlying26 hj0 hjz (by rw [hj1]; rfl) (by rw [hj1]; rfl) (by omega) (by omega) _)
theorem bs_blk {w : World} {g : Nat} {t : TypeId} {l : List UInt8} {n : Nat} (h : Blk w g t (bcs l).toArray) (hn : l.length = n) (hm : n ≤ maxLen) : Bs w (some ⟨g, 0, none⟩) n l :=
  ⟨hn, hm, fun _ => ⟨g, 0, rfl, fun i hi => by
    rw [h.cell]
    have := bcs_at l i (by omega)
    simpa using this⟩⟩
/-- bytes that a call made -/
def Made (w : World) (l : List UInt8) (e : Ending) (w' : World) : Prop := ∃ A n c, e = .returned (.slice A n c) ∧ Own w' w.heap.size 5 (.slice A n c) l ∧ Turn nowhere w w'
theorem take_one {t : List UInt8} {k : Nat} (h : k < t.length) : t.take (k + 1) = t.take k ++ [t.getD k 0] := by
  rw [List.take_succ_eq_append_getElem h, List.getD_eq_getElem?_getD, List.getElem?_eq_getElem h]
  rfl
theorem wpList_call {P : Program} {ops : Array Oper} {rest : List Oper} {o : Oper} {a : Act} {w : World} {Q : Exit → Act → World → Prop} (hgd : Region.wanted o (yielded ops a.tmps) = true)
    (h : ∀ K : Act → World → Prop, Shut (∀ a' w', wpList P ops Q rest a' w' → K a' w') → o.wp P a w K Q) : wpList P ops Q (o :: rest) a w :=
  wpList_step fun K hK => by
    rw [if_pos hgd]
    exact h K hK
theorem below_turn {w w' : World} (h : Below w.heap.size w w') : Turn nowhere w w' := Turn.of_below h (Nat.le_refl _)
set_option maxRecDepth 20000 in
set_option maxHeartbeats 1000000 in
theorem signs_walk (code : Int) (t : List UInt8) (w : World) (hl : t.length ≤ 1000) :
    Calls Tryz.prog 72 #[.int .i64 code, strV t] w (Made w (rsigns code t)) := by
  obtain ⟨f, hf⟩ : ∃ f : UInt8 → UInt8, ∀ x : List UInt8, x.map f = rsigns code x := by
    by_cases h : code = 3
    · exact ⟨ebc, fun x => by unfold rsigns; rw [if_pos h]⟩
    · exact ⟨id, fun x => by unfold rsigns; rw [if_neg h, List.map_id]⟩
  have hfe : code = 3 → ∀ b, f b = ebc b := fun h b => by
    have := hf [b]
    unfold rsigns at this
    rw [if_pos h] at this
    simpa using this
  have hfi : code ≠ 3 → ∀ b, f b = b := fun h b => by
    have := hf [b]
    unfold rsigns at this
    rw [if_neg h] at this
    simpa using this
  rw [← hf t]
  have HFE := Lib.hid hfe
  have HFI := Lib.hid hfi
  have HL := Lib.hid hl
  clear hf hfe hfi hl
  obtain ⟨n, hn⟩ : ∃ n, n = t.length := ⟨_, rfl⟩
  have HN := Lib.hid hn
  clear hn
  obtain ⟨B, hB⟩ : ∃ B, B = w.heap.size := ⟨_, rfl⟩
  have HB := Lib.hid hB
  clear hB
  go_enter Tryz.func72, Tryz.ntmps72
  go_upto_region 1 with fail
  refine wp_region_lit ?_
  refine wR (v := _) rfl (exec_make0 rfl) ?_
  simp only [Act.put, zzA, zz0, zz1]
  refine wR (v := .slice (some ⟨w.heap.size, 0, none⟩) 0 0) rfl (gx_assign rfl rfl) ?_
  simp only [Act.put, zzA, zz0, zz1]
  have hown0 := Own.empty w B 5 (Nat.le_of_eq HB.out)
  have hbel0 : Below B w (w.alloc (.cells #[] 5)) := (Below.refl _ w).alloc (Nat.le_of_eq HB.out) _
  generalize (w.alloc (.cells #[] 5)) = w1 at *
  generalize (some (⟨w.heap.size, 0, none⟩ : Addr)) = A0 at *
  have HO0 := Lib.hid hown0
  have HB0 := Lib.hid hbel0
  clear hown0 hbel0
  go_wp2_with fail
  go_loopg [5, 6] n (fun gk b i wr => ∃ (k : Nat) (A : Option Addr) (m c : Nat), k + gk = n ∧ i = .int .i64 (k : Int) ∧ b = .slice A m c ∧ Own wr B 5 (.slice A m c) ((t.take k).map f) ∧ Below B w wr)
  case atStart => exact ⟨0, A0, 0, 0, by omega, rfl, rfl, HO0.out, HB0.out⟩
  case round =>
    obtain ⟨k, A, m, c, hkl, rfl, rfl, hown, hbel⟩ := hrel
    have HKL := Lib.hid hkl
    have HO := Lib.hid hown
    have HE := Lib.hid hbel
    clear hkl hown hbel
    go_upto_region 3 with fail
    refine wp_region_lit ?_
    refine wR (v := .int .i64 (k : Int)) rfl (exec_move rfl rfl) ?_
    simp only [Act.put, zzA, zz0, zz1]
    refine wR (v := strV t) rfl (exec_move rfl rfl) ?_
    simp only [Act.put, zzA, zz0, zz1]
    refine wR (v := .int .i64 (n : Int)) (w' := wr) rfl (by rw [HN.out]; exact exec_slen rfl rfl) ?_
    simp only [Act.put, zzA, zz0, zz1]
    by_cases hlt : k < n
    · refine wR (v := .bool true) (w' := wr) rfl (exec_lss rfl rfl rfl (by omega)) ?_
      simp only [Act.put, zzA, zz0, zz1]
      have HLT := Lib.hid hlt
      have HKT := Lib.hid (show k < t.length by rw [← HN.out]; exact hlt)
      clear hlt
      by_cases h3 : code = 3
      · have hz : f (t.getD k 0) = ebc (t.getD k 0) := HFE.out h3 _
        have htk : (t.take (k + 1)).map f = (t.take k).map f ++ [f (t.getD k 0)] := by rw [take_one HKT.out, List.map_append]; rfl
        rw [hz] at htk
        subst h3
        have HTK := Lib.hid htk
        have HEB := Lib.hid (ebcdic_walk (t.getD k 0) wr)
        clear hz htk
        go_upto_region 6 with fail
        refine wp_region_lit ?_
        refine wR (v := .slice A m c) rfl (exec_move rfl rfl) ?_
        simp only [Act.put, zzA, zz0, zz1]
        refine wR (v := strV t) rfl (exec_move rfl rfl) ?_
        simp only [Act.put, zzA, zz0, zz1]
        refine wR (v := .int .i64 (k : Int)) rfl (exec_move rfl rfl) ?_
        simp only [Act.put, zzA, zz0, zz1]
        refine wR (v := .int .u8 ((t.getD k 0).toNat : Int)) (w' := wr) rfl (exec_sidx rfl rfl rfl HKT.out) ?_
        simp only [Act.put, zzA, zz0, zz1]
        generalize ebc (t.getD k 0) = z at *
        generalize t.getD k 0 = y at *
        refine wpList_call rfl ?_
        intro K1 HK1
        go_wp2_with fail
        refine HEB.out.mono ?_
        rintro e w1' ⟨rfl, hw⟩
        obtain rfl : wr = w1' := hw.symm
        refine HK1.out _ _ ?_
        clear HK1
        refine wR (v := _) rfl (exec_one (z := z) rfl rfl) ?_
        simp only [Act.put, zzA, zz0, zz1]
        have hone := bs_blk (Blk.new wr 5 (bcs [z]).toArray) (n := 1) rfl (by unfold maxLen; omega)
        have hown1 : Own (wr.alloc (.cells (bcs [z]).toArray 5)) B 5 (.slice A m c) ((t.take k).map f) := HO.out.alloc _
        refine wpList_append_bytes _ rfl _ _ _ rfl B 5 byteInfo Tryz.underlying26 _ _ rfl hown1 _ 1 1 [z] rfl hone (fun h => by cases h) (by rw [List.length_map, List.length_take]; have := HN.out; have := HL.out; omega) (by have := HE.out.size; have := HB.out; simp; omega) ?_
        intro v2 w2 ho2 hb2
        simp only [Act.put, zzA, zz0, zz1]
        obtain ⟨A2, m2, c2, rfl, _⟩ := ho2.form
        have HO2 := Lib.hid ho2
        have HB2 := Lib.hid hb2
        clear ho2 hb2 hone hown1
        have b0 : (0 : Int) ≤ (k : Int) := by omega
        have b1 : (k : Int) ≤ 1000 := by have := HLT.out; have := HN.out; have := HL.out; omega
        go_wp2_with fail
        go_roundg (gk - 1)
        case measure => have := HKL.out; have := HLT.out; omega
        case rel =>
          refine ⟨k + 1, A2, m2, c2, by have := HKL.out; have := HLT.out; omega, by go_num, rfl, ?_, (HE.out.alloc (by have := HE.out.size; have := HB.out; omega) _).trans HB2.out⟩
          rw [HTK.out]
          exact HO2.out
      · have hz : f (t.getD k 0) = t.getD k 0 := HFI.out h3 _
        have htk : (t.take (k + 1)).map f = (t.take k).map f ++ [f (t.getD k 0)] := by rw [take_one HKT.out, List.map_append]; rfl
        rw [hz] at htk
        have h33 : (code == 3) = false := by simpa using h3
        have HTK := Lib.hid htk
        clear hz htk
        go_upto_region 7 with fail
        refine wp_region_lit ?_
        refine wR (v := .slice A m c) rfl (exec_move rfl rfl) ?_
        simp only [Act.put, zzA, zz0, zz1]
        refine wR (v := strV t) rfl (exec_move rfl rfl) ?_
        simp only [Act.put, zzA, zz0, zz1]
        refine wR (v := .int .i64 (k : Int)) rfl (exec_move rfl rfl) ?_
        simp only [Act.put, zzA, zz0, zz1]
        refine wR (v := .int .u8 ((t.getD k 0).toNat : Int)) (w' := wr) rfl (exec_sidx rfl rfl rfl HKT.out) ?_
        simp only [Act.put, zzA, zz0, zz1]
        generalize t.getD k 0 = z at *
        refine wR (v := _) rfl (exec_one (z := z) rfl rfl) ?_
        simp only [Act.put, zzA, zz0, zz1]
        have hone := bs_blk (Blk.new wr 5 (bcs [z]).toArray) (n := 1) rfl (by unfold maxLen; omega)
        have hown1 : Own (wr.alloc (.cells (bcs [z]).toArray 5)) B 5 (.slice A m c) ((t.take k).map f) := HO.out.alloc _
        refine wpList_append_bytes _ rfl _ _ _ rfl B 5 byteInfo Tryz.underlying26 _ _ rfl hown1 _ 1 1 [z] rfl hone (fun h => by cases h) (by rw [List.length_map, List.length_take]; have := HN.out; have := HL.out; omega) (by have := HE.out.size; have := HB.out; simp; omega) ?_
        intro v2 w2 ho2 hb2
        simp only [Act.put, zzA, zz0, zz1]
        obtain ⟨A2, m2, c2, rfl, _⟩ := ho2.form
        have HO2 := Lib.hid ho2
        have HB2 := Lib.hid hb2
        clear ho2 hb2 hone hown1
        have b0 : (0 : Int) ≤ (k : Int) := by omega
        have b1 : (k : Int) ≤ 1000 := by have := HLT.out; have := HN.out; have := HL.out; omega
        go_wp2_with fail
        go_roundg (gk - 1)
        case measure => have := HKL.out; have := HLT.out; omega
        case rel =>
          refine ⟨k + 1, A2, m2, c2, by have := HKL.out; have := HLT.out; omega, by go_num, rfl, ?_, (HE.out.alloc (by have := HE.out.size; have := HB.out; omega) _).trans HB2.out⟩
          rw [HTK.out]
          exact HO2.out
    · refine wR (v := .bool false) (w' := wr) rfl (exec_nlss rfl rfl rfl (by omega)) ?_
      simp only [Act.put, zzA, zz0, zz1]
      have hkn : t.take k = t := List.take_of_length_le (by have := HKL.out; have := HN.out; omega)
      have ho := HO.out
      rw [hkn] at ho
      have HOO := Lib.hid ho
      have HTT := Lib.hid (below_turn (by have := HE.out; rwa [HB.out] at this))
      clear hlt hkn ho
      go_wp2_with fail
      go_ret
      refine ⟨A, m, c, rfl, ?_, HTT.out⟩
      rw [← HB.out]
      exact HOO.out
end Go.Proofs.YticofobhkmabiaaGreatDoor
namespace Go.Proofs.YticofobhkmabiaaGreatDoor
open Go.RowKit
open Fdd
set_option linter.unusedVariables false
set_option linter.unusedSimpArgs false
def shF : List Fld := [(7, [48, 49, 48, 49, 48, 48, 48, 48, 48, 48]), (11, [48, 48, 48, 48, 48, 49]), (70, [48, 48, 49])]
def sh1 : List UInt8 := [48, 56, 48, 48, 56, 50, 50, 48, 48, 48, 48, 48, 48, 48, 48, 48, 48, 48, 48, 48, 48, 52, 48, 48, 48, 48, 48, 48, 48, 48, 48, 48, 48, 48, 48, 48, 48, 49, 48, 49, 48, 48, 48, 48, 48, 48, 48, 48, 48, 48, 48, 49, 48, 48, 49]
def sh2 : List UInt8 := [24, 0, 130, 32, 0, 0, 0, 0, 0, 0, 4, 0, 0, 0, 0, 0, 0, 0, 1, 1, 0, 0, 0, 0, 0, 1, 0, 1]
theorem sh_e1 : mencode 1 800 shF = .ok sh1 := by kernel_rfl
theorem sh_e2 : mencode 2 800 shF = .ok sh2 := by kernel_rfl
theorem sh_d2 : mdecode 2 sh2 = .ok (800, shF) := mdecode_back sh_e2
theorem sh_d3 : mdecode 2 (sh2 ++ [0]) = .error 54 := by
  obtain ⟨hd, hw, e⟩ := mencode_ok.1 sh_e2
  have h := mdecode_wire hd hw [0] (.inl (by rw [← e]; decide))
  rw [← e] at h
  rw [h, if_neg (by decide)]
def shC : Array Value := #[.int .i64 7, strV [48, 49, 48, 49, 48, 48, 48, 48, 48, 48], .int .i64 11, strV [48, 48, 48, 48, 48, 49], .int .i64 70, strV [48, 48, 49]]
theorem build_sh (W : World) : (Instr.buildSlice 22 3 #[(0, .agg (fldA (7, [48, 49, 48, 49, 48, 48, 48, 48, 48, 48]))), (1, .agg (fldA (11, [48, 48, 48, 48, 48, 49]))), (2, .agg (fldA (70, [48, 48, 49])))]).run Tryz.prog W = .ok (.slice (some ⟨W.heap.size, 0, none⟩) 3 3) (W.alloc (.cells shC 40)) := by kernel_rfl
theorem build_f (i : Int) (l : List UInt8) (W : World) : (Instr.build 40 #[(0, .int .i64 i), (1, strV l)]).run Tryz.prog W = .ok (.agg (fldA (i, l))) W := by kernel_rfl
theorem build_m (ty : Int) (A : Option Addr) (n c : Nat) (W : World) : (Instr.build 24 #[(0, .int .i64 ty), (1, .slice A n c)]).run Tryz.prog W = .ok (msgV ty A n c) W := by kernel_rfl
theorem make_none (W : World) : (Instr.buildSlice 26 0 #[]).run Tryz.prog W = .ok (.slice (some ⟨W.heap.size, 0, none⟩) 0 0) (W.alloc (.cells #[] 5)) := by kernel_rfl
theorem fl_sh {W : World} {g : Nat} (h : Blk W g 40 shC) : Fl W (some ⟨g, 0, none⟩) 3 shF := by
  refine ⟨rfl, by decide, fun _ => ⟨g, 0, rfl, fun i f hf j v hv => ?_⟩⟩
  have hi : i < 3 := by
    have := (List.getElem?_eq_some_iff.1 hf).1
    exact this
  have hc := h.cell (0 + i * 2 + j)
  have hj : j < 2 := by
    have := (List.getElem?_eq_some_iff.1 hv).1
    simpa [fldA] using this
  rw [show World.cell? W ⟨g, 0 + i * 2 + j, none⟩ = shC[0 + i * 2 + j]? from hc]
  have h3 : i = 0 ∨ i = 1 ∨ i = 2 := by omega
  have h2 : j = 0 ∨ j = 1 := by omega
  rcases h3 with rfl | rfl | rfl <;> (injection hf with hf; subst hf) <;> rcases h2 with rfl | rfl <;> exact hv
theorem enc_at {s : Sents} {w : World} {dd ty : Int} {A : Option Addr} {n c : Nat} {fs : List Fld} {b : List UInt8} (h : mencode dd ty fs = .ok b) (he : Env s w) (hf : Fl w A n fs) :
    Calls Tryz.prog 8 #[.int .i64 dd, msgV ty A n c] w fun e w' => ∃ A n c, e = .returned (.tuple #[.slice A n c, .int .i64 0]) ∧ Own w' w.heap.size 5 (.slice A n c) b ∧ Turn nowhere w w' := by
  have := Encode_walk (dd := dd) (ty := ty) (c := c) he hf
  rw [h] at this
  exact this
theorem dec_at {s : Sents} {w : World} {dd ty : Int} {A : Option Addr} {n c : Nat} {fs : List Fld} {b : List UInt8} (h : mdecode dd b = .ok (ty, fs)) (he : Env s w) (hb : Bs w A n b) (hnc : n ≤ c) (hnm : n ≤ 140737488355328) :
    Calls Tryz.prog 13 #[.int .i64 dd, .slice A n c] w fun e w' => ∃ A n c, e = .returned (.tuple #[msgV ty A n c, .int .i64 0]) ∧ Fl w' A n fs ∧ (∀ b o t, A = some ⟨b, o, t⟩ → w.heap.size ≤ b) ∧ Turn nowhere w w' := by
  have := Decode_walk (dd := dd) (c := c) he hb hnc hnm
  rw [h] at this
  exact this
theorem dec_bad {s : Sents} {w : World} {dd k : Int} {A : Option Addr} {n c : Nat} {b : List UInt8} (h : mdecode dd b = .error k) (he : Env s w) (hb : Bs w A n b) (hnc : n ≤ c) (hnm : n ≤ 140737488355328) :
    Calls Tryz.prog 13 #[.int .i64 dd, .slice A n c] w fun e w' => ∃ A n c, e = .returned (.tuple #[msgV 0 A n c, .int .i64 k]) ∧ Fl w' A n [] ∧ (∀ b o t, A = some ⟨b, o, t⟩ → w.heap.size ≤ b) ∧ Turn nowhere w w' := by
  have := Decode_walk (dd := dd) (c := c) he hb hnc hnm
  rw [h] at this
  exact this
theorem seql_same {a : Act} {o : Oper} {W : World} {x y : Operand} {l : List UInt8} {t u : TypeId} (ho : o.op = .binOp .eql t x y u) (hx : a.eval x = strV l) (hy : a.eval y = strV l) : (execOp a.eval o).run Tryz.prog W = .ok (.value (.bool true)) W := by
  have h := exec_seql (W := W) ho hx hy
  rw [h]
  simp
/-- a new slice of a copy: append of some bytes to none -/
theorem wpList_copied {ops : Array Oper} {rest : List Oper} {o1 o2 o3 : Oper} {a : Act} {w : World} {Q : Exit → Act → World → Prop} {A : Option Addr} {n c : Nat} {b : List UInt8} {y s x : Operand}
    (hg1 : Region.wanted o1 (yielded ops a.tmps) = true) (ho1 : o1.op = .buildSlice 26 0 #[])
    (hg2 : Region.wanted o2 (yielded ops (a.put o1.dst (.slice (some ⟨w.heap.size, 0, none⟩) 0 0)).tmps) = true) (ho2 : o2.op = .move y) (hy : (a.put o1.dst (.slice (some ⟨w.heap.size, 0, none⟩) 0 0)).eval y = .slice A n c)
    (hg3 : Region.wanted o3 (yielded ops ((a.put o1.dst (.slice (some ⟨w.heap.size, 0, none⟩) 0 0)).put o2.dst (.slice A n c)).tmps) = true) (ho3 : o3.op = .call { callee := .builtin .append, args := #[s, x], argTypes := #[26, 26] })
    (hs : ((a.put o1.dst (.slice (some ⟨w.heap.size, 0, none⟩) 0 0)).put o2.dst (.slice A n c)).eval s = .slice (some ⟨w.heap.size, 0, none⟩) 0 0)
    (hx : ((a.put o1.dst (.slice (some ⟨w.heap.size, 0, none⟩) 0 0)).put o2.dst (.slice A n c)).eval x = .slice A n c)
    (hb : Bs w A n b) (hc : A = none → c = 0) (hsum : n ≤ 140737488355328)
    (h : ∀ k v' w', w.heap.size ≤ k → Own w' w.heap.size 5 v' b → Turn nowhere w w' → wpList Tryz.prog ops Q rest (((a.put o1.dst (.slice (some ⟨k, 0, none⟩) 0 0)).put o2.dst (.slice A n c)).put o3.dst v') w') : wpList Tryz.prog ops Q (o1 :: o2 :: o3 :: rest) a w := by
  have hu := (Turn.refl nowhere w).alloc (.cells #[] 5)
  refine wpList_run hg1 (bx_slice0 ho1 (make_none w)) ?_
  refine wpList_run hg2 (exec_move ho2 hy) ?_
  refine wpList_append_bytes _ hg3 s x _ ho3 w.heap.size 5 byteInfo Tryz.underlying26 _ [] hs (Own.empty w w.heap.size 5 (Nat.le_refl _)) A n c b hx (bs_still hb hu) hc (by simpa using hsum) hu.size ?_
  intro v' w' ho hbw
  rw [List.nil_append] at ho
  exact h _ v' w' (Nat.le_refl _) ho (Turn.of_below ((hu.below (Nat.le_refl _) (fun _ _ e=>e)).trans hbw) (Nat.le_refl _))
set_option maxRecDepth 40000 in
set_option maxHeartbeats 2000000 in
theorem shown_walk {s : Sents} (w : World) (he : Env s w) :
    Calls Tryz.prog 7 #[] w fun e w' => e = .returned (.bool true) ∧ Turn nowhere w w' := by
  have HE := Lib.hid he
  clear he
  go_enter Tryz.func7, Tryz.ntmps7
  go_upto_region 1 with fail
  refine wp_region_lit ?_
  refine wR (v := .agg (fldA (7, [48, 49, 48, 49, 48, 48, 48, 48, 48, 48]))) rfl (gx_build2 rfl rfl rfl (build_f _ _ _)) ?_
  simp only [Act.put, zzA, zz0, zz1]
  refine wR (v := .agg (fldA (11, [48, 48, 48, 48, 48, 49]))) rfl (gx_build2 rfl rfl rfl (build_f _ _ _)) ?_
  simp only [Act.put, zzA, zz0, zz1]
  refine wR (v := .agg (fldA (70, [48, 48, 49]))) rfl (gx_build2 rfl rfl rfl (build_f _ _ _)) ?_
  simp only [Act.put, zzA, zz0, zz1]
  refine wR (v := .slice (some ⟨w.heap.size, 0, none⟩) 3 3) (w' := w.alloc (.cells shC 40)) rfl (bx_slice3 rfl rfl rfl rfl (build_sh w)) ?_
  simp only [Act.put, zzA, zz0, zz1]
  have hb1 := Blk.new w 40 shC
  have hu1 := (Turn.refl nowhere w).alloc (.cells shC 40)
  obtain ⟨g, hg⟩ : ∃ g, g = w.heap.size := ⟨_, rfl⟩
  rw [← hg] at hb1 ⊢
  clear hg
  generalize w.alloc (.cells shC 40) = w1 at *
  have HF := Lib.hid (fl_sh hb1)
  have HT1 := Lib.hid hu1
  clear hb1 hu1
  refine wR (v := msgV 800 (some ⟨g, 0, none⟩) 3 3) rfl (gx_build2 rfl rfl rfl (build_m _ _ _ _ _)) ?_
  simp only [Act.put, zzA, zz0, zz1]
  refine wpList_new 24 (.tmp 1) (.tmp 14) #[.int .i64 800, .slice (some ⟨g, 0, none⟩) 3 3] rfl rfl (zero_msg _) rfl rfl rfl rfl rfl rfl (by rw [size_msg]; rfl) (msgA_one _ _ _ _) ?_
  intro w2 gm _ hbx hux
  simp only [Act.put, zzA, zz0, zz1]
  have HBgm := Lib.hid hbx
  have HT2 := Lib.hid hux
  clear hbx hux
  go_upto_region 2 with fail
  refine wp_region_lit ?_
  refine wR (v := msgV 800 (some ⟨g, 0, none⟩) 3 3) rfl (gx_loads rfl rfl (blk_range HBgm.out) Tryz.underlying24 rfl (by rw [size_msg]; rfl)) ?_
  simp only [Act.put, zzA, zz0, zz1]
  have hE := enc_at (s := s) (dd := 1) (c := 3) sh_e1 (HE.out.turn (HT1.out.next HT2.out)) (HF.out.still HT2.out)
  refine wpList_op rfl fun K9 HK9 => ?_
  go_wp2_with fail
  refine hE.mono ?_
  rintro e w3 ⟨A3, n3, c3, rfl, hox, htx⟩
  refine HK9.out _ _ ?_
  clear HK9 hE
  try simp only [Act.put, zzA, zz0, zz1]
  have HO3 := Lib.hid hox
  have HT3 := Lib.hid htx
  obtain ⟨A9, n9, c9, hf9, hb9, hnc9, hz9⟩ := hox.form
  injection hf9 with g1 g2 g3
  subst g1 g2 g3
  have HS3 := Lib.hid hb9
  have HN3 := Lib.hid hnc9
  have HZ3 := Lib.hid hz9
  have hl9 : n3 = 55 := hb9.1.symm
  subst hl9
  clear hox htx hb9 hnc9 hz9
  refine wR (v := .tuple #[.slice A3 55 c3, .int .i64 0]) rfl (exec_move rfl rfl) ?_
  simp only [Act.put, zzA, zz0, zz1]
  refine wR (v := .slice A3 55 c3) rfl (ix_extract rfl rfl rfl) ?_
  simp only [Act.put, zzA, zz0, zz1]
  refine wR (v := .int .i64 0) rfl (ix_extract rfl rfl rfl) ?_
  simp only [Act.put, zzA, zz0, zz1]
  refine wR (v := .slice A3 55 c3) rfl (gx_assign rfl rfl) ?_
  simp only [Act.put, zzA, zz0, zz1]
  refine wR (v := .int .i64 0) rfl (gx_assign rfl rfl) ?_
  simp only [Act.put, zzA, zz0, zz1]
  go_upto_region 3 with fail
  refine wp_region_lit ?_
  refine wR (v := msgV 800 (some ⟨g, 0, none⟩) 3 3) rfl (gx_loads rfl rfl (blk_range (HBgm.out.turn HT3.out (fun e => e))) Tryz.underlying24 rfl (by rw [size_msg]; rfl)) ?_
  simp only [Act.put, zzA, zz0, zz1]
  have hE := enc_at (s := s) (dd := 2) (c := 3) sh_e2 (HE.out.turn ((HT1.out.next HT2.out).next HT3.out)) (HF.out.still (HT2.out.next HT3.out))
  refine wpList_op rfl fun K9 HK9 => ?_
  go_wp2_with fail
  refine hE.mono ?_
  rintro e w4 ⟨A4, n4, c4, rfl, hox, htx⟩
  refine HK9.out _ _ ?_
  clear HK9 hE
  try simp only [Act.put, zzA, zz0, zz1]
  have HO4 := Lib.hid hox
  have HT4 := Lib.hid htx
  obtain ⟨A9, n9, c9, hf9, hb9, hnc9, hz9⟩ := hox.form
  injection hf9 with g1 g2 g3
  subst g1 g2 g3
  have HS4 := Lib.hid hb9
  have HN4 := Lib.hid hnc9
  have HZ4 := Lib.hid hz9
  have hl9 : n4 = 28 := hb9.1.symm
  subst hl9
  clear hox htx hb9 hnc9 hz9
  refine wR (v := .tuple #[.slice A4 28 c4, .int .i64 0]) rfl (exec_move rfl rfl) ?_
  simp only [Act.put, zzA, zz0, zz1]
  refine wR (v := .slice A4 28 c4) rfl (ix_extract rfl rfl rfl) ?_
  simp only [Act.put, zzA, zz0, zz1]
  refine wR (v := .int .i64 0) rfl (ix_extract rfl rfl rfl) ?_
  simp only [Act.put, zzA, zz0, zz1]
  refine wR (v := .slice A4 28 c4) rfl (gx_assign rfl rfl) ?_
  simp only [Act.put, zzA, zz0, zz1]
  refine wR (v := .int .i64 0) rfl (gx_assign rfl rfl) ?_
  simp only [Act.put, zzA, zz0, zz1]
  go_upto_region 4 with fail
  refine wp_region_lit ?_
  refine wR (v := .slice A4 28 c4) rfl (exec_move rfl rfl) ?_
  simp only [Act.put, zzA, zz0, zz1]
  have hD := dec_at (s := s) sh_d2 (HE.out.turn (((HT1.out.next HT2.out).next HT3.out).next HT4.out)) HS4.out HN4.out (by decide)
  refine wpList_op rfl fun K9 HK9 => ?_
  go_wp2_with fail
  refine hD.mono ?_
  rintro e w5 ⟨A5, n5, c5, rfl, hfx, hgx, htx⟩
  refine HK9.out _ _ ?_
  clear HK9 hD
  try simp only [Act.put, zzA, zz0, zz1]
  have HF5 := Lib.hid hfx
  have HT5 := Lib.hid htx
  clear hfx hgx htx
  refine wR (v := .tuple #[msgV 800 A5 n5 c5, .int .i64 0]) rfl (exec_move rfl rfl) ?_
  simp only [Act.put, zzA, zz0, zz1]
  refine wR (v := msgV 800 A5 n5 c5) rfl (ix_extract rfl rfl rfl) ?_
  simp only [Act.put, zzA, zz0, zz1]
  refine wR (v := .int .i64 0) rfl (ix_extract rfl rfl rfl) ?_
  simp only [Act.put, zzA, zz0, zz1]
  refine wpList_new 24 (.tmp 6) (.tmp 28) #[.int .i64 800, .slice A5 n5 c5] rfl rfl (zero_msg _) rfl rfl rfl rfl rfl rfl (by rw [size_msg]; rfl) (msgA_one _ _ _ _) ?_
  intro w6 gc _ hbx hux
  simp only [Act.put, zzA, zz0, zz1]
  have HBgc := Lib.hid hbx
  have HT6 := Lib.hid hux
  clear hbx hux
  refine wR (v := .int .i64 0) rfl (gx_assign rfl rfl) ?_
  simp only [Act.put, zzA, zz0, zz1]
  go_upto_region 5 with fail
  refine wp_region_lit ?_
  refine wpList_copied (A := A4) (n := 28) (c := c4) rfl rfl rfl rfl rfl rfl rfl rfl rfl (bs_still HS4.out (HT5.out.next HT6.out)) HZ4.out (by decide) ?_
  intro g7 v7 w7 hg7 ho7 ht7
  simp only [Act.put, zzA, zz0, zz1]
  obtain ⟨A7, n7, c7, rfl, hb7, hnc7, hz7⟩ := ho7.form
  have hl7 : n7 = 28 := hb7.1.symm
  subst hl7
  have HO7 := Lib.hid ho7
  have HG7 := Lib.hid ht7.size
  have HT7 := Lib.hid ht7
  clear ho7 ht7 hb7 hnc7 hz7 hg7
  refine wR (v := .slice (some ⟨w7.heap.size, 0, none⟩) 1 1) (w' := w7.alloc (.cells (bcs [0]).toArray 5)) rfl (exec_one (z := 0) rfl rfl) ?_
  simp only [Act.put, zzA, zz0, zz1]
  have ht8 := (Turn.refl nowhere w7).alloc (.cells (bcs [0]).toArray 5)
  have hone := bs_blk (Blk.new w7 5 (bcs [0]).toArray) (n := 1) rfl (by unfold maxLen; omega)
  have ho8 := own_still HO7.out ht8
  have hg8 := Nat.le_trans HG7.out ht8.size
  have HT8 := Lib.hid ht8
  clear ht8
  obtain ⟨g8, hg9⟩ : ∃ g8, g8 = w7.heap.size := ⟨_, rfl⟩
  rw [← hg9] at hone ⊢
  clear hg9
  generalize w7.alloc (.cells (bcs [0]).toArray 5) = w8 at *
  refine wpList_append_bytes w8 rfl _ _ _ rfl w6.heap.size 5 byteInfo Tryz.underlying26 _ sh2 rfl ho8 _ 1 1 [0] rfl hone (fun h => by cases h) (by decide) hg8 ?_
  intro v9 w9 ho9 hb9
  obtain ⟨A9, n9, c9, rfl, hs9, hnc9, _⟩ := ho9.form
  simp only [Act.put, zzA, zz0, zz1]
  have HS9 := Lib.hid hs9
  have HN9 := Lib.hid hnc9
  have HT9 := Lib.hid (show Turn nowhere w6 w9 from Turn.of_below (((HT7.out.next HT8.out).below (Nat.le_refl _) (fun _ _ e=>e)).trans hb9) (Nat.le_refl _))
  clear ho9 hb9 hs9 hnc9 hone ho8 hg8
  have hD := dec_bad (s := s) sh_d3 (HE.out.turn ((((((HT1.out.next HT2.out).next HT3.out).next HT4.out).next HT5.out).next HT6.out).next HT9.out)) HS9.out HN9.out (by rw [← HS9.out.1]; decide)
  refine wpList_op rfl fun K9 HK9 => ?_
  go_wp2_with fail
  refine hD.mono ?_
  rintro e w10 ⟨A10, n10, c10, rfl, hfx, hgx, htx⟩
  refine HK9.out _ _ ?_
  clear HK9 hD
  try simp only [Act.put, zzA, zz0, zz1]
  have HT10 := Lib.hid htx
  clear hfx hgx htx
  refine wR (v := .tuple #[msgV 0 A10 n10 c10, .int .i64 54]) rfl (exec_move rfl rfl) ?_
  simp only [Act.put, zzA, zz0, zz1]
  refine wR (v := msgV 0 A10 n10 c10) rfl (ix_extract rfl rfl rfl) ?_
  simp only [Act.put, zzA, zz0, zz1]
  refine wR (v := .int .i64 54) rfl (ix_extract rfl rfl rfl) ?_
  simp only [Act.put, zzA, zz0, zz1]
  refine wpList_new 24 (.tmp 8) (.tmp 37) #[.int .i64 0, .slice A10 n10 c10] rfl rfl (zero_msg _) rfl rfl rfl rfl rfl rfl (by rw [size_msg]; rfl) (msgA_one _ _ _ _) ?_
  intro w11 gd _ hbx hux
  simp only [Act.put, zzA, zz0, zz1]
  have HBgd := Lib.hid hbx
  have HT11 := Lib.hid hux
  clear hbx hux
  refine wR (v := .int .i64 54) rfl (gx_assign rfl rfl) ?_
  simp only [Act.put, zzA, zz0, zz1]
  go_upto_region 6 with fail
  refine wp_region_lit ?_
  refine wR (v := .int .i64 0) rfl (exec_move rfl rfl) ?_
  simp only [Act.put, zzA, zz0, zz1]
  refine wR (v := .bool true) rfl (ix_eql rfl rfl rfl (by decide)) ?_
  simp only [Act.put, zzA, zz0, zz1]
  refine wR (v := .bool true) rfl (exec_move rfl rfl) ?_
  simp only [Act.put, zzA, zz0, zz1]
  refine wR (v := .slice A3 55 c3) rfl (exec_move rfl rfl) ?_
  simp only [Act.put, zzA, zz0, zz1]
  refine wR (v := strV sh1) rfl (exec_strBs (l := sh1) rfl rfl (bs_still HS3.out (((((HT4.out.next HT5.out).next HT6.out).next HT9.out).next HT10.out).next HT11.out))) ?_
  simp only [Act.put, zzA, zz0, zz1]
  refine wR (v := .bool true) rfl (seql_same (l := sh1) rfl rfl rfl) ?_
  simp only [Act.put, zzA, zz0, zz1]
  refine wR (v := .bool true) rfl (ix_pickT rfl rfl rfl) ?_
  simp only [Act.put, zzA, zz0, zz1]
  refine wR (v := .bool true) rfl (exec_move rfl rfl) ?_
  simp only [Act.put, zzA, zz0, zz1]
  refine wR (v := .int .i64 0) rfl (exec_move rfl rfl) ?_
  simp only [Act.put, zzA, zz0, zz1]
  refine wR (v := .bool true) rfl (ix_eql rfl rfl rfl (by decide)) ?_
  simp only [Act.put, zzA, zz0, zz1]
  refine wR (v := .bool true) rfl (ix_pickT rfl rfl rfl) ?_
  simp only [Act.put, zzA, zz0, zz1]
  refine wR (v := .bool true) rfl (exec_move rfl rfl) ?_
  simp only [Act.put, zzA, zz0, zz1]
  refine wR (v := .slice A4 28 c4) rfl (exec_move rfl rfl) ?_
  simp only [Act.put, zzA, zz0, zz1]
  refine wR (v := .int .i64 28) rfl (gx_len rfl rfl Tryz.underlying26) ?_
  simp only [Act.put, zzA, zz0, zz1]
  refine wR (v := .bool true) rfl (ix_eql rfl rfl rfl (by decide)) ?_
  simp only [Act.put, zzA, zz0, zz1]
  refine wR (v := .bool true) rfl (ix_pickT rfl rfl rfl) ?_
  simp only [Act.put, zzA, zz0, zz1]
  refine wR (v := .bool true) rfl (exec_move rfl rfl) ?_
  simp only [Act.put, zzA, zz0, zz1]
  refine wR (v := .int .i64 0) rfl (exec_move rfl rfl) ?_
  simp only [Act.put, zzA, zz0, zz1]
  refine wR (v := .bool true) rfl (ix_eql rfl rfl rfl (by decide)) ?_
  simp only [Act.put, zzA, zz0, zz1]
  refine wR (v := .bool true) rfl (ix_pickT rfl rfl rfl) ?_
  simp only [Act.put, zzA, zz0, zz1]
  refine wR (v := .bool true) rfl (exec_move rfl rfl) ?_
  simp only [Act.put, zzA, zz0, zz1]
  refine wR (v := msgV 800 A5 n5 c5) rfl (gx_loads rfl rfl (blk_range (HBgc.out.turn ((HT9.out.next HT10.out).next HT11.out) (fun e => e))) Tryz.underlying24 rfl (by rw [size_msg]; rfl)) ?_
  simp only [Act.put, zzA, zz0, zz1]
  refine wR (v := msgV 800 (some ⟨g, 0, none⟩) 3 3) rfl (gx_loads rfl rfl (blk_range (HBgm.out.turn ((((((HT3.out.next HT4.out).next HT5.out).next HT6.out).next HT9.out).next HT10.out).next HT11.out) (fun e => e))) Tryz.underlying24 rfl (by rw [size_msg]; rfl)) ?_
  simp only [Act.put, zzA, zz0, zz1]
  have hS := Same_walk (ty1 := 800) (ty2 := 800) (c1 := c5) (c2 := 3) (HF5.out.still (((HT6.out.next HT9.out).next HT10.out).next HT11.out)) (HF.out.still (((((((HT2.out.next HT3.out).next HT4.out).next HT5.out).next HT6.out).next HT9.out).next HT10.out).next HT11.out))
  rw [decide_eq_true (show (800 : Int) = 800 ∧ shF = shF from ⟨rfl, rfl⟩)] at hS
  refine wpList_op rfl fun K9 HK9 => ?_
  go_wp2_with fail
  refine hS.mono ?_
  rintro e w12 ⟨rfl, ht12⟩
  refine HK9.out _ _ ?_
  clear HK9 hS
  try simp only [Act.put, zzA, zz0, zz1]
  have HT12 := Lib.hid ht12
  clear ht12
  refine wR (v := .bool true) rfl (ix_pickT rfl rfl rfl) ?_
  simp only [Act.put, zzA, zz0, zz1]
  refine wR (v := .bool true) rfl (exec_move rfl rfl) ?_
  simp only [Act.put, zzA, zz0, zz1]
  refine wR (v := .int .i64 54) rfl (exec_move rfl rfl) ?_
  simp only [Act.put, zzA, zz0, zz1]
  refine wR (v := .bool true) rfl (ix_eql rfl rfl rfl (by decide)) ?_
  simp only [Act.put, zzA, zz0, zz1]
  refine wR (v := .bool true) rfl (ix_pickT rfl rfl rfl) ?_
  simp only [Act.put, zzA, zz0, zz1]
  refine wR (v := .bool true) rfl (gx_assign rfl rfl) ?_
  simp only [Act.put, zzA, zz0, zz1]
  go_wp2_with fail
  go_ret
  exact ⟨rfl, (((((((((HT1.out.next HT2.out).next HT3.out).next HT4.out).next HT5.out).next HT6.out).next HT9.out).next HT10.out).next HT11.out).next HT12.out)⟩
end Go.Proofs.YticofobhkmabiaaGreatDoor
namespace Go.Proofs.YticofobhkmabiaaGreatDoor
open Go.RowKit
open Fdd
set_option linter.unusedVariables false
set_option linter.unusedSimpArgs false
theorem mencode_err {d ty : Int} {fs : List Fld} {k : Int} (h : mencode d ty fs = .error k) : k ≠ 0 := by
  unfold mencode at h
  split at h
  · split at h
    · split at h
      · injection h with h; omega
      · cases h
    · rename_i hn
      injection h with h
      rw [← h]
      exact hn
  · injection h with h; omega
theorem enc_bad {s : Sents} {w : World} {dd ty : Int} {A : Option Addr} {n c : Nat} {fs : List Fld} {k : Int} (h : mencode dd ty fs = .error k) (he : Env s w) (hf : Fl w A n fs) :
    Calls Tryz.prog 8 #[.int .i64 dd, msgV ty A n c] w fun e w' => ∃ A n c, e = .returned (.tuple #[.slice A n c, .int .i64 k]) ∧ Own w' w.heap.size 5 (.slice A n c) [] ∧ Turn nowhere w w' := by
  have := Encode_walk (dd := dd) (ty := ty) (c := c) he hf
  rw [h] at this
  exact this
theorem ix_neg {a : Act} {o : Oper} {W : World} {x : Operand} {i r : Int} (ho : o.op = .unOp .neg 3 x) (hx : a.eval x = .int .i64 i) (h : -i = r) (hb : -9223372036854775808 ≤ r ∧ r ≤ 9223372036854775807) : (execOp a.eval o).run Tryz.prog W = .ok (.value (.int .i64 r)) W := by
  subst h
  have hw : IntKind.i64.wrap (-i) = -i := by rw [IntKind.wrap_i64]; omega
  unfold execOp
  simp only [ho, hx]
  go_simp
  try exact hw
theorem ix_rem {a : Act} {o : Oper} {W : World} {x y : Operand} {n m : Nat} (ho : o.op = .binOp .rem 3 x y 3) (hx : a.eval x = .int .i64 (n : Int)) (hy : a.eval y = .int .i64 (m : Int)) (hm : 0 < m) (hn : n ≤ 9223372036854775807) : (execOp a.eval o).run Tryz.prog W = .ok (.value (.int .i64 ((n % m : Nat) : Int))) W := by
  have hm1 : (m : Int) ≠ 0 := by omega
  obtain ⟨q, hq⟩ : ∃ q : Nat, q = n % m := ⟨_, rfl⟩
  have hlt : q ≤ n := by rw [hq]; exact Nat.mod_le _ _
  have e : (n : Int).tmod (m : Int) = (q : Int) := by rw [hq]; rfl
  rw [← hq]
  have hw : IntKind.i64.wrap (q : Int) = (q : Int) := by rw [IntKind.wrap_i64]; omega
  unfold execOp
  simp only [ho, hx, hy]
  go_simp
  omega
theorem ix_quo {a : Act} {o : Oper} {W : World} {x y : Operand} {n m : Nat} (ho : o.op = .binOp .quo 3 x y 3) (hx : a.eval x = .int .i64 (n : Int)) (hy : a.eval y = .int .i64 (m : Int)) (hm : 0 < m) (hn : n ≤ 9223372036854775807) : (execOp a.eval o).run Tryz.prog W = .ok (.value (.int .i64 ((n / m : Nat) : Int))) W := by
  have hm1 : (m : Int) ≠ 0 := by omega
  obtain ⟨q, hq⟩ : ∃ q : Nat, q = n / m := ⟨_, rfl⟩
  have hlt : q ≤ n := by rw [hq]; exact Nat.div_le_self _ _
  have e : (n : Int).tdiv (m : Int) = (q : Int) := by rw [hq]; rfl
  rw [← hq]
  have hw : IntKind.i64.wrap (q : Int) = (q : Int) := by rw [IntKind.wrap_i64]; omega
  unfold execOp
  simp only [ho, hx, hy]
  go_simp
  rw [if_neg (by omega), show IntKind.i64.wrap ((n : Int) / (m : Int)) = (n : Int) / (m : Int) from by rw [← Int.natCast_ediv, ← hq]; exact hw]
theorem bx_eqb {a : Act} {o : Oper} {W : World} {x y : Operand} {p q : Bool} (ho : o.op = .binOp .eql 4 x y 4) (hx : a.eval x = .bool p) (hy : a.eval y = .bool q) : (execOp a.eval o).run Tryz.prog W = .ok (.value (.bool (p == q))) W := by
  unfold execOp
  simp only [ho, hx, hy]
  cases p <;> cases q <;> go_simp
theorem bx_neb {a : Act} {o : Oper} {W : World} {x y : Operand} {p q : Bool} (ho : o.op = .binOp .neq 4 x y 4) (hx : a.eval x = .bool p) (hy : a.eval y = .bool q) : (execOp a.eval o).run Tryz.prog W = .ok (.value (.bool (!(p == q)))) W := by
  unfold execOp
  simp only [ho, hx, hy]
  cases p <;> cases q <;> go_simp
theorem seql_not {a : Act} {o : Oper} {W : World} {x y : Operand} {l m : List UInt8} {t u : TypeId} (ho : o.op = .binOp .eql t x y u) (hx : a.eval x = strV l) (hy : a.eval y = strV m) (hne : l ≠ m) : (execOp a.eval o).run Tryz.prog W = .ok (.value (.bool false)) W := by
  have h := exec_seql (W := W) ho hx hy
  rw [h]
  simp [hne]
theorem mtakeAll_err {ps : List Pt} {b : List UInt8} {k : Int} (h : takeAll ps b = .error k) : k ≠ 0 := by
  unfold takeAll at h
  split at h
  · injection h with h; omega
  · split at h
    · injection h with h; omega
    · cases h
theorem ftake_err {f : Fm} {b : List UInt8} {k : Int} (h : f.take b = .error k) : k ≠ 0 := by
  unfold Fm.take at h
  split at h
  · split at h
    · split at h
      · rename_i e he
        injection h with h
        subst h
        exact mtakeAll_err he
      · split at h
        · exact mtakeAll_err h
        · injection h with h; omega
    · exact mtakeAll_err h
  · injection h with h; omega
theorem takeType_err {d : Nat} {b : List UInt8} {k : Int} (h : takeType d b = .error k) : k ≠ 0 := by
  unfold takeType at h
  split at h
  · rename_i e he
    injection h with h
    subst h
    exact ftake_err he
  · split at h
    · injection h with h; omega
    · cases h
theorem takeHalf_err {d : Nat} {b : List UInt8} {k : Int} (h : takeHalf d b = .error k) : k ≠ 0 := by
  unfold takeHalf at h
  split at h
  · rename_i e he
    injection h with h
    subst h
    exact ftake_err he
  · cases h
theorem takeMap_err {d : Nat} {b : List UInt8} {k : Int} (h : takeMap d b = .error k) : k ≠ 0 := by
  unfold takeMap at h
  split at h
  · rename_i e he
    injection h with h
    subst h
    exact takeHalf_err he
  · split at h
    · cases h
    · split at h
      · rename_i e he
        injection h with h
        subst h
        exact takeHalf_err he
      · split at h
        · injection h with h; omega
        · cases h
theorem takeFs_err {d : Nat} : ∀ {l : List Int} {b : List UInt8} {k : Int}, takeFs d l b = .error k → k ≠ 0
  | [], b, k, h => by cases h
  | no :: l, b, k, h => by
    unfold takeFs at h
    split at h
    · injection h with h; omega
    · split at h
      · rename_i e he
        injection h with h
        subst h
        exact ftake_err he
      · split at h
        · rename_i e he
          injection h with h
          subst h
          exact takeFs_err he
        · cases h
theorem mdecode_err {d : Int} {b : List UInt8} {k : Int} (h : mdecode d b = .error k) : k ≠ 0 := by
  unfold mdecode at h
  split at h
  · split at h
    · rename_i e he
      injection h with h
      subst h
      exact takeType_err he
    · split at h
      · rename_i e he
        injection h with h
        subst h
        exact takeMap_err he
      · split at h
        · split at h
          · rename_i e he
            injection h with h
            subst h
            exact takeFs_err he
          · split at h
            · cases h
            · injection h with h; omega
        · injection h with h; omega
  · injection h with h; omega
theorem wire_pos {d ty : Int} {fs : List Fld} {b : List UInt8} (h : mencode d ty fs = .ok b) : 0 < b.length := by
  cases b with
  | nil =>
    have h2 := mdecode_back h
    obtain ⟨hd, _⟩ := mencode_ok.1 h
    have hc : d = 1 ∨ d = 2 ∨ d = 3 := by omega
    rcases hc with rfl | rfl | rfl
    · rw [show mdecode 1 [] = .error 43 from by rfl] at h2
      cases h2
    · rw [show mdecode 2 [] = .error 43 from by rfl] at h2
      cases h2
    · rw [show mdecode 3 [] = .error 43 from by rfl] at h2
      cases h2
  | cons _ _ => exact Nat.succ_pos _
theorem menc_len {d ty : Int} {fs : List Fld} {b : List UInt8} (h : mencode d ty fs = .ok b) : b.length ≤ 500 := by
  obtain ⟨hd, hw, e⟩ := mencode_ok.1 h
  rw [e]
  exact wire_len (toNat_in hd) hw
theorem bs_cut {w : World} {A : Option Addr} {n k : Nat} {b : List UInt8} (h : Bs w A n b) (hk : k ≤ n) : Bs w A k (b.take k) := by
  obtain ⟨h1, h2, h3⟩ := h
  refine ⟨by rw [List.length_take]; omega, by omega, fun hp => ?_⟩
  obtain ⟨g, off, e, hc⟩ := h3 (by omega)
  refine ⟨g, off, e, fun i hi => ?_⟩
  rw [hc i (by omega)]
  have : (b.take k).getD i 0 = b.getD i 0 := by simp [List.getD, List.getElem?_take, hi]
  rw [this]
end Go.Proofs.YticofobhkmabiaaGreatDoor
namespace Go.Proofs.YticofobhkmabiaaGreatDoor.Fdd
set_option linter.unusedVariables false
def getM (no : Int) : List Fld → Option (List UInt8)
  | [] => none
  | f :: r => if f.1 = no then some f.2 else getM no r
def others (no : Int) (fs : List Fld) : List Fld := fs.filter fun f => f.1 != no
def insM (x : Fld) : List Fld → List Fld
  | [] => [x]
  | f :: r => if x.1 < f.1 then x :: f :: r else f :: insM x r
def setM (no : Int) (t : List UInt8) (fs : List Fld) : List Fld := insM (no, t) (others no fs)
def rsetM (no : Int) (t : List UInt8) : Bool → List Fld → List Fld
  | done, [] => if done = true then [] else [(no, t)]
  | done, f :: r => if f.1 = no then rsetM no t done r else if no < f.1 ∧ done = false then (no, t) :: f :: rsetM no t true r else f :: rsetM no t done r
theorem rset_done (no : Int) (t : List UInt8) : ∀ fs, rsetM no t true fs = others no fs
  | [] => rfl
  | f :: r => by
    unfold rsetM others
    by_cases h : f.1 = no
    · rw [if_pos h, List.filter_cons_of_neg (by simp [h]), rset_done no t r]
      rfl
    · rw [if_neg h, if_neg (by simp), List.filter_cons_of_pos (by simp [h]), rset_done no t r]
      rfl
theorem rset_set (no : Int) (t : List UInt8) : ∀ fs, rsetM no t false fs = setM no t fs
  | [] => rfl
  | f :: r => by
    unfold rsetM setM others
    by_cases h : f.1 = no
    · rw [if_pos h, List.filter_cons_of_neg (by simp [h]), rset_set no t r]
      rfl
    · rw [if_neg h, List.filter_cons_of_pos (by simp [h])]
      unfold insM
      by_cases h2 : no < f.1
      · rw [if_pos ⟨h2, rfl⟩, if_pos h2, rset_done]
        rfl
      · rw [if_neg (fun h => h2 h.1), if_neg h2, rset_set no t r]
        rfl
theorem get_ins (no : Int) (t : List UInt8) : ∀ l : List Fld, (∀ f ∈ l, f.1 ≠ no) → getM no (insM (no, t) l) = some t
  | [], _ => by simp [insM, getM]
  | f :: r, h => by
    unfold insM
    split
    · unfold getM
      rw [if_pos rfl]
    · unfold getM
      rw [if_neg (h f (List.mem_cons_self ..)), get_ins no t r fun x hx => h x (List.mem_cons_of_mem _ hx)]
theorem get_set (no : Int) (t : List UInt8) (fs : List Fld) : getM no (setM no t fs) = some t := get_ins no t _ fun f hf => by
  have := (List.mem_filter.1 hf).2
  simpa using this
/-- where a field goes: ahead of the first one with a greater number -/
def atM (no : Int) : List Fld → Nat
  | [] => 0
  | f :: r => if no < f.1 then 0 else atM no r + 1
theorem ins_at (no : Int) (t : List UInt8) : ∀ l : List Fld, insM (no, t) l = l.take (atM no l) ++ (no, t) :: l.drop (atM no l)
  | [] => rfl
  | f :: r => by
    unfold insM atM
    split
    · rfl
    · rw [ins_at no t r]
      rfl
theorem at_le (no : Int) : ∀ l : List Fld, atM no l ≤ l.length
  | [] => Nat.le_refl _
  | f :: r => by
    unfold atM
    have := at_le no r
    split
    · exact Nat.zero_le _
    · rw [List.length_cons]
      omega
end Go.Proofs.YticofobhkmabiaaGreatDoor.Fdd
namespace Go.Proofs.YticofobhkmabiaaGreatDoor.Fdd
set_option linter.unusedVariables false
def hasM (no : Int) (l : List Fld) : List Fld := l.filter fun f => f.1 == no
theorem oth_cons (no : Int) (f : Fld) (r : List Fld) : others no (f :: r) = if f.1 = no then others no r else f :: others no r := by
  unfold others
  by_cases h : f.1 = no
  · rw [if_pos h, List.filter_cons_of_neg (by simp [h])]
  · rw [if_neg h, List.filter_cons_of_pos (by simp [h])]
theorem has_cons (no : Int) (f : Fld) (r : List Fld) : hasM no (f :: r) = if f.1 = no then f :: hasM no r else hasM no r := by
  unfold hasM
  by_cases h : f.1 = no
  · rw [if_pos h, List.filter_cons_of_pos (by simp [h])]
  · rw [if_neg h, List.filter_cons_of_neg (by simp [h])]
theorem oth_ins (no : Int) (t : List UInt8) : ∀ l : List Fld, others no (insM (no, t) l) = others no l
  | [] => by
    unfold insM
    rw [oth_cons, if_pos rfl]
  | f :: r => by
    unfold insM
    split
    · rw [oth_cons, if_pos rfl]
    · rw [oth_cons, oth_cons, oth_ins no t r]
theorem has_ins (no : Int) (t : List UInt8) : ∀ l : List Fld, hasM no l = [] → hasM no (insM (no, t) l) = [(no, t)]
  | [], _ => by
    unfold insM
    rw [has_cons, if_pos rfl]
    rfl
  | f :: r, h => by
    have hn : ¬ f.1 = no := by
      intro e
      rw [has_cons, if_pos e] at h
      cases h
    have hr : hasM no r = [] := by
      rw [has_cons, if_neg hn] at h
      exact h
    unfold insM
    split
    · rw [has_cons, if_pos rfl, h]
    · rw [has_cons, if_neg hn, has_ins no t r hr]
theorem oth_oth (no : Int) (l : List Fld) : others no (others no l) = others no l := by
  unfold others
  rw [List.filter_filter]
  congr 1
  funext f
  simp
theorem has_oth (no : Int) (l : List Fld) : hasM no (others no l) = [] := by
  unfold others hasM
  rw [List.filter_filter, List.filter_eq_nil_iff]
  intro f _
  simp
theorem oth_set (no : Int) (t : List UInt8) (fs : List Fld) : others no (setM no t fs) = others no fs := by
  unfold setM
  rw [oth_ins, oth_oth]
theorem has_set (no : Int) (t : List UInt8) (fs : List Fld) : hasM no (setM no t fs) = [(no, t)] := has_ins no t _ (has_oth no fs)
theorem oth_drop {no : Int} {l : List Fld} {i : Nat} {f : Fld} (hf : l[i]? = some f) : others no (l.drop i) = if f.1 = no then others no (l.drop (i + 1)) else f :: others no (l.drop (i + 1)) := by
  obtain ⟨hj, e⟩ := List.getElem?_eq_some_iff.1 hf
  rw [List.drop_eq_getElem_cons hj, e, oth_cons]
theorem has_drop {no : Int} {l : List Fld} {i : Nat} {f : Fld} (hf : l[i]? = some f) : hasM no (l.drop i) = if f.1 = no then f :: hasM no (l.drop (i + 1)) else hasM no (l.drop (i + 1)) := by
  obtain ⟨hj, e⟩ := List.getElem?_eq_some_iff.1 hf
  rw [List.drop_eq_getElem_cons hj, e, has_cons]
theorem oth_end {no : Int} {l : List Fld} {i : Nat} (h : l.length ≤ i) : others no (l.drop i) = [] := by
  rw [List.drop_eq_nil_of_le h]
  rfl
theorem has_end {no : Int} {l : List Fld} {i : Nat} (h : l.length ≤ i) : hasM no (l.drop i) = [] := by
  rw [List.drop_eq_nil_of_le h]
  rfl
theorem has_mem {no : Int} {t : List UInt8} {fs : List Fld} {i : Nat} {f : Fld} (hf : (setM no t fs)[i]? = some f) (e : f.1 = no) : f.2 = t := by
  have hm : f ∈ hasM no (setM no t fs) := List.mem_filter.2 ⟨List.mem_of_getElem? hf, by simp [e]⟩
  rw [has_set, List.mem_singleton] at hm
  rw [hm]
theorem oth_take {no : Int} {l : List Fld} {i : Nat} {f : Fld} (hf : l[i]? = some f) : others no (l.take (i + 1)) = if f.1 = no then others no (l.take i) else others no (l.take i) ++ [f] := by
  rw [List.take_add_one, hf]
  unfold others
  rw [List.filter_append]
  by_cases h : f.1 = no
  · rw [if_pos h, show List.filter (fun f => f.1 != no) (some f).toList = [] from by simp [h], List.append_nil]
  · rw [if_neg h, show List.filter (fun f => f.1 != no) (some f).toList = [f] from by simp [h]]
theorem oth_len (no : Int) (l : List Fld) : (others no l).length ≤ l.length := List.length_filter_le _ _
theorem ins_len (x : Fld) : ∀ l : List Fld, (insM x l).length = l.length + 1
  | [] => rfl
  | f :: r => by
    unfold insM
    split
    · rfl
    · rw [List.length_cons, ins_len x r, List.length_cons]
theorem set_len (no : Int) (t : List UInt8) (fs : List Fld) : (setM no t fs).length = (others no fs).length + 1 := ins_len _ _
/-- no field up to here has a greater number -/
theorem at_step {no : Int} {l : List Fld} {i : Nat} {f : Fld} (hf : l[i]? = some f) : atM no (l.drop i) = if no < f.1 then 0 else atM no (l.drop (i + 1)) + 1 := by
  obtain ⟨hj, e⟩ := List.getElem?_eq_some_iff.1 hf
  rw [List.drop_eq_getElem_cons hj, e]
  rfl
theorem at_end {no : Int} {l : List Fld} {i : Nat} (h : l.length ≤ i) : atM no (l.drop i) = 0 := by
  rw [List.drop_eq_nil_of_le h]
  rfl
end Go.Proofs.YticofobhkmabiaaGreatDoor.Fdd
namespace Go.Proofs.YticofobhkmabiaaGreatDoor
open Go.RowKit
open Fdd
set_option linter.unusedVariables false
set_option linter.unusedSimpArgs false
def fmA (m : Fm) : Array Value := #[.int .i64 m.kind, .int .i64 m.size, .int .i64 m.code]
def fm0 : Fm := ⟨0, 0, 0⟩
def formE (dd no : Int) : Fm × Int := if 1 ≤ dd ∧ dd ≤ 3 then match mform dd.toNat no with
    | some m => (m, 0)
    | none => (fm0, 52)
  else (fm0, 50)
theorem fmA_one (m : Fm) : ∀ v ∈ (fmA m).toList, v.oneCell' = true := fun v hv => by
  unfold fmA at hv
  simp only [List.mem_cons, List.not_mem_nil, or_false] at hv
  rcases hv with rfl | rfl | rfl <;> rfl
theorem zero_fm (w : World) : (zeroValue 49).run Tryz.prog w = .ok (.agg (fmA fm0)) w := by kernel_rfl
theorem build_fm0 (W : World) : (Instr.build 49 #[]).run Tryz.prog W = .ok (.agg (fmA fm0)) W := by kernel_rfl
end Go.Proofs.YticofobhkmabiaaGreatDoor
namespace Go.Proofs.YticofobhkmabiaaGreatDoor
open Go.RowKit
open Fdd
set_option linter.unusedVariables false
set_option linter.unusedSimpArgs false
def thereR (no : Int) : Int × Int := (mfind no mrows).getD (0, 0)
set_option maxRecDepth 20000 in
set_option maxHeartbeats 2000000 in
theorem there_walk {w : World} {no : Int} : Calls Tryz.prog 31 #[.int .i64 no] w fun e w' => e = .returned (.tuple #[.int .i64 (thereR no).1, .int .i64 (thereR no).2]) ∧ w' = w := by
  by_cases h : no ∈ [(2 : Int), 3, 4, 7, 11, 32, 38, 39, 49, 64, 70, 74, 76, 86, 88, 90, 97]
  · simp only [List.mem_cons, List.not_mem_nil, or_false] at h
    rcases h with rfl | rfl | rfl | rfl | rfl | rfl | rfl | rfl | rfl | rfl | rfl | rfl | rfl | rfl | rfl | rfl | rfl
    all_goals
      go_enter Tryz.func31, Tryz.ntmps31
      go_wp2
      go_ret2
      exact ⟨rfl, rfl⟩
  · simp only [List.mem_cons, List.not_mem_nil, or_false, not_or] at h
    obtain ⟨h1, h2, h3, h4, h5, h6, h7, h8, h9, h10, h11, h12, h13, h14, h15, h16, h17⟩ := h
    have hv : thereR no = (0, 0) := by
      unfold thereR mrows
      simp [mfind, Ne.symm h1, Ne.symm h2, Ne.symm h3, Ne.symm h4, Ne.symm h5, Ne.symm h6, Ne.symm h7, Ne.symm h8, Ne.symm h9, Ne.symm h10, Ne.symm h11, Ne.symm h12, Ne.symm h13, Ne.symm h14, Ne.symm h15, Ne.symm h16, Ne.symm h17]
    rw [hv]
    clear hv
    go_enter Tryz.func31, Tryz.ntmps31
    go_wp2
    go_ret2
    exact ⟨rfl, rfl⟩
theorem mfind_pos {no : Int} {r : Int × Int} (h : mfind no mrows = some r) : r.1 ≠ 0 := by
  have := (mrows_all _ (mfind_mem h)).1
  have h2 : (no, r).2.1 = r.1 := rfl
  omega
theorem mfind_four {r : Int × Int} (h : mfind 4 mrows = some r) : r.2 = 12 := by
  have := (mrows_all _ (mfind_mem h)).2.2.1 rfl
  exact this.1
theorem build_fm3 (x y z : Int) (W : World) : (Instr.build 49 #[(0, .int .i64 x), (1, .int .i64 y), (2, .int .i64 z)]).run Tryz.prog W = .ok (.agg (fmA ⟨x, y, z⟩)) W := by kernel_rfl
set_option maxRecDepth 20000 in
set_option maxHeartbeats 2000000 in
theorem rForm_walk {w : World} {dd no : Int} :
    Calls Tryz.prog 24 #[.int .i64 dd, .int .i64 no] w fun e w' => e = .returned (.tuple #[.agg (fmA (formE dd no).1), .int .i64 (formE dd no).2]) ∧ Turn nowhere w w' := by
  have hu := (Turn.refl nowhere w).alloc (.cells (fmA fm0) 49)
  have hb := Blk.new w 49 (fmA fm0)
  obtain ⟨gr, hgr⟩ : ∃ gr, gr = w.heap.size := ⟨_, rfl⟩
  rw [← hgr] at hb
  have HGRE := Lib.hid hgr
  have HGR := Lib.hid (show w.heap.size ≤ gr from by omega)
  have HT0 := Lib.hid hu
  have HBgr := Lib.hid hb
  clear hu hb hgr
  go_enter Tryz.func24, Tryz.ntmps24
  go_upto_region 1 with fail
  have e2 := HGRE.out
  rw [← e2]
  clear e2 HGRE
  change Code.wp _ _ _ _ (w.alloc (.cells (fmA fm0) 49))
  generalize World.alloc w (.cells (fmA fm0) 49) = w1 at *
  refine wp_region_lit ?_
  refine wR (v := .int .i64 dd) rfl (exec_move rfl rfl) ?_
  simp only [Act.put, zzA, zz0, zz1]
  by_cases h1 : dd < 1
  · have HFX := Lib.hid (show formE dd no = (fm0, 50) from by unfold formE; rw [if_neg (by omega)])
    refine wR (v := .bool true) rfl (ix_lss rfl rfl rfl (decide_eq_true h1)) ?_
    simp only [Act.put, zzA, zz0, zz1]
    refine wR (v := .bool true) rfl (exec_move rfl rfl) ?_
    simp only [Act.put, zzA, zz0, zz1]
    refine wpList_skip (by go_simp) ?_
    simp only [Act.put, zzA, zz0, zz1]
    refine wpList_skip (by go_simp) ?_
    simp only [Act.put, zzA, zz0, zz1]
    refine wR (v := .bool true) rfl (ix_pickT rfl rfl rfl) ?_
    simp only [Act.put, zzA, zz0, zz1]
    go_upto_region 2 with fail
    refine wp_region_lit ?_
    refine wR (v := .agg (fmA fm0)) rfl (exec_bld rfl (build_fm0 _)) ?_
    simp only [Act.put, zzA, zz0, zz1]
    refine wpList_store_row rfl 49 (.tmp 4) (.tmp 14) rfl (fmA fm0) HBgr.out rfl rfl rfl (by rw [size_form]; rfl) (fmA_one _) ?_
    intro w6 hb6 hu6
    have HBZ := Lib.hid hb6
    have HUZ := Lib.hid (above HT0.out HGR.out hu6)
    clear hb6 hu6
    try simp only [Act.put, zzA, zz0, zz1]
    refine wR (v := .int .i64 50) rfl (gx_assign rfl rfl) ?_
    simp only [Act.put, zzA, zz0, zz1]
    go_wp2_with fail
    refine bodyPost_ret (v := .tuple #[.agg (fmA fm0), .int .i64 50]) (ret_cell2 rfl _ _ gr _ _ _ rfl rfl HBZ.out Tryz.underlying49 rfl (by rw [size_form]; rfl)) rfl ?_
    rw [HFX.out]
    exact ⟨rfl, HUZ.out⟩
  · refine wR (v := .bool false) rfl (ix_lss rfl rfl rfl (decide_eq_false h1)) ?_
    simp only [Act.put, zzA, zz0, zz1]
    refine wR (v := .bool false) rfl (exec_move rfl rfl) ?_
    simp only [Act.put, zzA, zz0, zz1]
    refine wR (v := .int .i64 dd) rfl (exec_move rfl rfl) ?_
    simp only [Act.put, zzA, zz0, zz1]
    by_cases h2 : 3 < dd
    · have HFX := Lib.hid (show formE dd no = (fm0, 50) from by unfold formE; rw [if_neg (by omega)])
      refine wR (v := .bool true) rfl (ix_gtr rfl rfl rfl (decide_eq_true h2)) ?_
      simp only [Act.put, zzA, zz0, zz1]
      refine wR (v := .bool true) rfl (ix_pickF rfl rfl rfl) ?_
      simp only [Act.put, zzA, zz0, zz1]
      go_upto_region 2 with fail
      refine wp_region_lit ?_
      refine wR (v := .agg (fmA fm0)) rfl (exec_bld rfl (build_fm0 _)) ?_
      simp only [Act.put, zzA, zz0, zz1]
      refine wpList_store_row rfl 49 (.tmp 4) (.tmp 14) rfl (fmA fm0) HBgr.out rfl rfl rfl (by rw [size_form]; rfl) (fmA_one _) ?_
      intro w6 hb6 hu6
      have HBZ := Lib.hid hb6
      have HUZ := Lib.hid (above HT0.out HGR.out hu6)
      clear hb6 hu6
      try simp only [Act.put, zzA, zz0, zz1]
      refine wR (v := .int .i64 50) rfl (gx_assign rfl rfl) ?_
      simp only [Act.put, zzA, zz0, zz1]
      go_wp2_with fail
      refine bodyPost_ret (v := .tuple #[.agg (fmA fm0), .int .i64 50]) (ret_cell2 rfl _ _ gr _ _ _ rfl rfl HBZ.out Tryz.underlying49 rfl (by rw [size_form]; rfl)) rfl ?_
      rw [HFX.out]
      exact ⟨rfl, HUZ.out⟩
    · refine wR (v := .bool false) rfl (ix_gtr rfl rfl rfl (decide_eq_false h2)) ?_
      simp only [Act.put, zzA, zz0, zz1]
      refine wR (v := .bool false) rfl (ix_pickF rfl rfl rfl) ?_
      simp only [Act.put, zzA, zz0, zz1]
      have hFE : formE dd no = (match mform dd.toNat no with | some m => (m, 0) | none => (fm0, 52)) := by
        unfold formE
        rw [if_pos (by omega)] <;> rfl
      have hd3 : 1 ≤ dd ∧ dd ≤ 3 := by omega
      clear h1 h2
      go_upto_region 3 with fail
      refine wp_region_lit ?_
      refine wR (v := .int .i64 no) rfl (exec_move rfl rfl) ?_
      simp only [Act.put, zzA, zz0, zz1]
      refine wpList_op rfl fun K9 HK9 => ?_
      go_wp2_with fail
      refine (there_walk).mono ?_
      rintro e w2 ⟨rfl, rfl⟩
      refine HK9.out _ _ ?_
      clear HK9
      try simp only [Act.put, zzA, zz0, zz1]
      refine wR (v := .tuple #[.int .i64 (thereR no).1, .int .i64 (thereR no).2]) rfl (exec_move rfl rfl) ?_
      simp only [Act.put, zzA, zz0, zz1]
      refine wR (v := .int .i64 (thereR no).1) rfl (ix_extract rfl rfl rfl) ?_
      simp only [Act.put, zzA, zz0, zz1]
      refine wR (v := .int .i64 (thereR no).2) rfl (ix_extract rfl rfl rfl) ?_
      simp only [Act.put, zzA, zz0, zz1]
      refine wR (v := .int .i64 (thereR no).1) rfl (gx_assign rfl rfl) ?_
      simp only [Act.put, zzA, zz0, zz1]
      refine wR (v := .int .i64 (thereR no).2) rfl (gx_assign rfl rfl) ?_
      simp only [Act.put, zzA, zz0, zz1]
      go_upto_region 4 with fail
      refine wp_region_lit ?_
      refine wR (v := .int .i64 (thereR no).1) rfl (exec_move rfl rfl) ?_
      simp only [Act.put, zzA, zz0, zz1]
      cases hm : mfind no mrows with
      | none =>
        have HFX := Lib.hid (show formE dd no = (fm0, 52) from by
          rw [hFE]
          unfold mform
          rw [hm]
          rfl)
        have h0 : thereR no = (0, 0) := by
          unfold thereR
          rw [hm]
          rfl
        rw [h0]
        clear h0 hm hFE hd3
        refine wR (v := .bool true) rfl (ix_eql rfl rfl rfl (by decide)) ?_
        simp only [Act.put, zzA, zz0, zz1]
        go_upto_region 5 with fail
        refine wp_region_lit ?_
        refine wR (v := .agg (fmA fm0)) rfl (exec_bld rfl (build_fm0 _)) ?_
        simp only [Act.put, zzA, zz0, zz1]
        refine wpList_store_row rfl 49 (.tmp 4) (.tmp 22) rfl (fmA fm0) HBgr.out rfl rfl rfl (by rw [size_form]; rfl) (fmA_one _) ?_
        intro w6 hb6 hu6
        have HBZ := Lib.hid hb6
        have HUZ := Lib.hid (above HT0.out HGR.out hu6)
        clear hb6 hu6
        try simp only [Act.put, zzA, zz0, zz1]
        refine wR (v := .int .i64 52) rfl (gx_assign rfl rfl) ?_
        simp only [Act.put, zzA, zz0, zz1]
        go_wp2_with fail
        refine bodyPost_ret (v := .tuple #[.agg (fmA fm0), .int .i64 52]) (ret_cell2 rfl _ _ gr _ _ _ rfl rfl HBZ.out Tryz.underlying49 rfl (by rw [size_form]; rfl)) rfl ?_
        rw [HFX.out]
        exact ⟨rfl, HUZ.out⟩
      | some r =>
        have h0 : thereR no = r := by
          unfold thereR
          rw [hm]
          rfl
        rw [h0]
        clear h0
        have HR0 := Lib.hid (mfind_pos hm)
        obtain ⟨r1, r2⟩ := r
        refine wR (v := .bool false) rfl (ix_eql rfl rfl rfl (decide_eq_false HR0.out)) ?_
        simp only [Act.put, zzA, zz0, zz1]
        go_upto_region 6 with fail
        refine wp_region_lit ?_
        refine wR (v := .int .i64 dd) rfl (exec_move rfl rfl) ?_
        simp only [Act.put, zzA, zz0, zz1]
        by_cases h3 : dd = 3
        · refine wR (v := .bool true) rfl (ix_eql rfl rfl rfl (decide_eq_true h3)) ?_
          simp only [Act.put, zzA, zz0, zz1]
          refine wR (v := .bool true) rfl (exec_move rfl rfl) ?_
          simp only [Act.put, zzA, zz0, zz1]
          refine wR (v := .int .i64 no) rfl (exec_move rfl rfl) ?_
          simp only [Act.put, zzA, zz0, zz1]
          by_cases h4 : no = 4
          · have HFX := Lib.hid (show formE dd no = (⟨r1, 10, dd⟩, 0) from by
              rw [hFE]
              unfold mform
              rw [hm]
              show ((⟨r1, r2 - ((unsaid dd.toNat no).length : Nat), ((dd.toNat : Nat) : Int)⟩ : Fm), (0 : Int)) = _
              rw [show ((dd.toNat : Nat) : Int) = dd from by omega, show unsaid dd.toNat no = [48, 48] from by unfold unsaid; rw [if_pos ⟨by omega, h4⟩], show r2 = 12 from mfind_four (r := (r1, r2)) (h4 ▸ hm)]; rfl)
            refine wR (v := .bool true) rfl (ix_eql rfl rfl rfl (decide_eq_true h4)) ?_
            simp only [Act.put, zzA, zz0, zz1]
            refine wR (v := .bool true) rfl (ix_pickT rfl rfl rfl) ?_
            simp only [Act.put, zzA, zz0, zz1]
            clear hFE hm h3 h4 hd3
            go_upto_region 7 with fail
            refine wp_region_lit ?_
            refine wR (v := .int .i64 10) rfl (gx_assign rfl rfl) ?_
            simp only [Act.put, zzA, zz0, zz1]
            go_upto_region 8 with fail
            refine wp_region_lit ?_
            refine wR (v := .int .i64 r1) rfl (exec_move rfl rfl) ?_
            simp only [Act.put, zzA, zz0, zz1]
            refine wR (v := .int .i64 10) rfl (exec_move rfl rfl) ?_
            simp only [Act.put, zzA, zz0, zz1]
            refine wR (v := .int .i64 dd) rfl (exec_move rfl rfl) ?_
            simp only [Act.put, zzA, zz0, zz1]
            refine wR (v := .agg (fmA ⟨r1, 10, dd⟩)) rfl (exec_build3 rfl rfl rfl rfl (build_fm3 _ _ _ _)) ?_
            simp only [Act.put, zzA, zz0, zz1]
            refine wpList_store_row rfl 49 (.tmp 4) (.tmp 32) rfl (fmA ⟨r1, 10, dd⟩) HBgr.out rfl rfl rfl (by rw [size_form]; rfl) (fmA_one _) ?_
            intro w6 hb6 hu6
            have HBZ := Lib.hid hb6
            have HUZ := Lib.hid (above HT0.out HGR.out hu6)
            clear hb6 hu6
            try simp only [Act.put, zzA, zz0, zz1]
            refine wR (v := .int .i64 0) rfl (gx_assign rfl rfl) ?_
            simp only [Act.put, zzA, zz0, zz1]
            go_wp2_with fail
            refine bodyPost_ret (v := .tuple #[.agg (fmA ⟨r1, 10, dd⟩), .int .i64 0]) (ret_cell2 rfl _ _ gr _ _ _ rfl rfl HBZ.out Tryz.underlying49 rfl (by rw [size_form]; rfl)) rfl ?_
            rw [HFX.out]
            exact ⟨rfl, HUZ.out⟩
          · have HFX := Lib.hid (show formE dd no = (⟨r1, r2, dd⟩, 0) from by
              rw [hFE]
              unfold mform
              rw [hm]
              show ((⟨r1, r2 - ((unsaid dd.toNat no).length : Nat), ((dd.toNat : Nat) : Int)⟩ : Fm), (0 : Int)) = _
              rw [show ((dd.toNat : Nat) : Int) = dd from by omega, show unsaid dd.toNat no = [] from by unfold unsaid; rw [if_neg (fun h => h4 h.2)], show r2 - (([] : List UInt8).length : Nat) = r2 from by simp])
            refine wR (v := .bool false) rfl (ix_eql rfl rfl rfl (decide_eq_false h4)) ?_
            simp only [Act.put, zzA, zz0, zz1]
            refine wR (v := .bool false) rfl (ix_pickT rfl rfl rfl) ?_
            simp only [Act.put, zzA, zz0, zz1]
            clear hFE hm h3 h4 hd3
            go_upto_region 8 with fail
            refine wp_region_lit ?_
            refine wR (v := .int .i64 r1) rfl (exec_move rfl rfl) ?_
            simp only [Act.put, zzA, zz0, zz1]
            refine wR (v := .int .i64 r2) rfl (exec_move rfl rfl) ?_
            simp only [Act.put, zzA, zz0, zz1]
            refine wR (v := .int .i64 dd) rfl (exec_move rfl rfl) ?_
            simp only [Act.put, zzA, zz0, zz1]
            refine wR (v := .agg (fmA ⟨r1, r2, dd⟩)) rfl (exec_build3 rfl rfl rfl rfl (build_fm3 _ _ _ _)) ?_
            simp only [Act.put, zzA, zz0, zz1]
            refine wpList_store_row rfl 49 (.tmp 4) (.tmp 32) rfl (fmA ⟨r1, r2, dd⟩) HBgr.out rfl rfl rfl (by rw [size_form]; rfl) (fmA_one _) ?_
            intro w6 hb6 hu6
            have HBZ := Lib.hid hb6
            have HUZ := Lib.hid (above HT0.out HGR.out hu6)
            clear hb6 hu6
            try simp only [Act.put, zzA, zz0, zz1]
            refine wR (v := .int .i64 0) rfl (gx_assign rfl rfl) ?_
            simp only [Act.put, zzA, zz0, zz1]
            go_wp2_with fail
            refine bodyPost_ret (v := .tuple #[.agg (fmA ⟨r1, r2, dd⟩), .int .i64 0]) (ret_cell2 rfl _ _ gr _ _ _ rfl rfl HBZ.out Tryz.underlying49 rfl (by rw [size_form]; rfl)) rfl ?_
            rw [HFX.out]
            exact ⟨rfl, HUZ.out⟩
        · have HFX := Lib.hid (show formE dd no = (⟨r1, r2, dd⟩, 0) from by
            rw [hFE]
            unfold mform
            rw [hm]
            show ((⟨r1, r2 - ((unsaid dd.toNat no).length : Nat), ((dd.toNat : Nat) : Int)⟩ : Fm), (0 : Int)) = _
            rw [show ((dd.toNat : Nat) : Int) = dd from by omega, show unsaid dd.toNat no = [] from by unfold unsaid; rw [if_neg (fun h => h3 (by omega))], show r2 - (([] : List UInt8).length : Nat) = r2 from by simp])
          refine wR (v := .bool false) rfl (ix_eql rfl rfl rfl (decide_eq_false h3)) ?_
          simp only [Act.put, zzA, zz0, zz1]
          refine wR (v := .bool false) rfl (exec_move rfl rfl) ?_
          simp only [Act.put, zzA, zz0, zz1]
          refine wpList_skip (by go_simp) ?_
          simp only [Act.put, zzA, zz0, zz1]
          refine wpList_skip (by go_simp) ?_
          simp only [Act.put, zzA, zz0, zz1]
          refine wR (v := .bool false) rfl (ix_pickF rfl rfl rfl) ?_
          simp only [Act.put, zzA, zz0, zz1]
          clear hFE hm h3 hd3
          go_upto_region 8 with fail
          refine wp_region_lit ?_
          refine wR (v := .int .i64 r1) rfl (exec_move rfl rfl) ?_
          simp only [Act.put, zzA, zz0, zz1]
          refine wR (v := .int .i64 r2) rfl (exec_move rfl rfl) ?_
          simp only [Act.put, zzA, zz0, zz1]
          refine wR (v := .int .i64 dd) rfl (exec_move rfl rfl) ?_
          simp only [Act.put, zzA, zz0, zz1]
          refine wR (v := .agg (fmA ⟨r1, r2, dd⟩)) rfl (exec_build3 rfl rfl rfl rfl (build_fm3 _ _ _ _)) ?_
          simp only [Act.put, zzA, zz0, zz1]
          refine wpList_store_row rfl 49 (.tmp 4) (.tmp 32) rfl (fmA ⟨r1, r2, dd⟩) HBgr.out rfl rfl rfl (by rw [size_form]; rfl) (fmA_one _) ?_
          intro w6 hb6 hu6
          have HBZ := Lib.hid hb6
          have HUZ := Lib.hid (above HT0.out HGR.out hu6)
          clear hb6 hu6
          try simp only [Act.put, zzA, zz0, zz1]
          refine wR (v := .int .i64 0) rfl (gx_assign rfl rfl) ?_
          simp only [Act.put, zzA, zz0, zz1]
          go_wp2_with fail
          refine bodyPost_ret (v := .tuple #[.agg (fmA ⟨r1, r2, dd⟩), .int .i64 0]) (ret_cell2 rfl _ _ gr _ _ _ rfl rfl HBZ.out Tryz.underlying49 rfl (by rw [size_form]; rfl)) rfl ?_
          rw [HFX.out]
          exact ⟨rfl, HUZ.out⟩
end Go.Proofs.YticofobhkmabiaaGreatDoor
namespace Go.Proofs.YticofobhkmabiaaGreatDoor
open Go.RowKit
open Fdd
set_option linter.unusedVariables false
set_option linter.unusedSimpArgs false
theorem ret_cell1 {P : Program} {fn : Func} {p : Tmp} {ty : TypeId} (h : fn.results = #[.cell p ty]) (tmps : Array Value) (w : World) (g : Nat) (t : TypeId) (cs : Array Value) (d : TypeDesc)
    (hp : tmps.getD p undef = .pointer (some ⟨g, 0, none⟩)) (hg : Blk w g t cs) (hu : P.underlying ty = some d) (hd : (match d with | .struct _ | .array _ _ => true | _ => false) = true) (hi : (P.info? ty).map (·.size) = some cs.size) :
    (results fn tmps).run P w = .ok (.agg cs) w := by
  have hp' : tmps[p]?.getD undef = .pointer (some ⟨g, 0, none⟩) := by simpa using hp
  simp only [results, h]
  simp [Sem.run_bind, Result.andThen, hp', asAddr, run_loadVar_row w g t ty cs (0, 0) d hg hu hd hi]
set_option maxRecDepth 20000 in
theorem number_walk {w : World} {dd sz : Int} :
    Calls Tryz.prog 22 #[.int .i64 dd, .int .i64 sz] w fun e w' => e = .returned (.agg (fmA ⟨1, sz, dd⟩)) ∧ Turn nowhere w w' := by
  have hu := (Turn.refl nowhere w).alloc (.cells (fmA fm0) 49)
  have hb := Blk.new w 49 (fmA fm0)
  obtain ⟨gr, hgr⟩ : ∃ gr, gr = w.heap.size := ⟨_, rfl⟩
  rw [← hgr] at hb
  have HGRE := Lib.hid hgr
  have HGR := Lib.hid (show w.heap.size ≤ gr from by omega)
  have HT0 := Lib.hid hu
  have HBgr := Lib.hid hb
  clear hu hb hgr
  go_enter Tryz.func22, Tryz.ntmps22
  go_upto_region 1 with fail
  have e2 := HGRE.out
  rw [← e2]
  clear e2 HGRE
  change Code.wp _ _ _ _ (w.alloc (.cells (fmA fm0) 49))
  generalize World.alloc w (.cells (fmA fm0) 49) = w1 at *
  refine wp_region_lit ?_
  refine wR (v := .int .i64 sz) rfl (exec_move rfl rfl) ?_
  simp only [Act.put, zzA, zz0, zz1]
  refine wR (v := .int .i64 dd) rfl (exec_move rfl rfl) ?_
  simp only [Act.put, zzA, zz0, zz1]
  refine wR (v := .agg (fmA ⟨1, sz, dd⟩)) rfl (exec_build3 rfl rfl rfl rfl (build_fm3 _ _ _ _)) ?_
  simp only [Act.put, zzA, zz0, zz1]
  refine wpList_store_row rfl 49 (.tmp 4) (.tmp 7) rfl (fmA ⟨1, sz, dd⟩) HBgr.out rfl rfl rfl (by rw [size_form]; rfl) (fmA_one _) ?_
  intro w6 hb6 hu6
  have HBZ := Lib.hid hb6
  have HUZ := Lib.hid (above HT0.out HGR.out hu6)
  clear hb6 hu6
  go_wp2_with fail
  refine bodyPost_ret (v := .agg (fmA ⟨1, sz, dd⟩)) (ret_cell1 rfl _ _ gr _ _ _ rfl HBZ.out Tryz.underlying49 rfl (by rw [size_form]; rfl)) rfl ?_
  exact ⟨rfl, HUZ.out⟩
def kindC : List Value := mtypes.map fun n => .int .i64 n
theorem build_kinds (W : World) : (Instr.buildSlice 63 16 #[(0, .int .i64 100), (1, .int .i64 101), (2, .int .i64 110), (3, .int .i64 200), (4, .int .i64 201), (5, .int .i64 210), (6, .int .i64 220), (7, .int .i64 221), (8, .int .i64 230), (9, .int .i64 420), (10, .int .i64 421), (11, .int .i64 430), (12, .int .i64 500), (13, .int .i64 510), (14, .int .i64 800), (15, .int .i64 810)]).run Tryz.prog W = .ok (.slice (some ⟨W.heap.size, 0, none⟩) 16 16) (W.alloc (.cells kindC.toArray 3)) := by kernel_rfl
theorem bx_slices {P : Program} {a : Act} {o : Oper} {t : TypeId} {n : Nat} {els : Array (Nat × Operand)} {q : Value} {W W' : World} (ho : o.op = .buildSlice t n els) {vs : Array (Nat × Value)} (hv : (els.map fun (i, x) => (i, a.eval x)) = vs) (h : (Instr.buildSlice t n vs).run P W = .ok q W') : (execOp a.eval o).run P W = .ok (.value q) W' := by
  unfold execOp
  simp only [ho, hv, h, Sem.run_bind, Sem.run_pure, Result.andThen_ok]
theorem size_int1 : (Tryz.prog.info? 3).map (·.size) = some 1 := by kernel_rfl
theorem kind_no {n : Int} {k : Nat} (h : (mtypes.take k).contains n = false) {x : Int} (hx : mtypes[k]? = some x) (hne : ¬ x = n) : (mtypes.take (k + 1)).contains n = false := by
  rw [List.take_add_one, hx]
  simp only [List.contains_eq_mem, Option.toList_some, List.mem_append, List.mem_singleton, decide_eq_false_iff_not, not_or] at h ⊢
  exact ⟨h, fun e => hne e.symm⟩
theorem kind_yes {n : Int} {k : Nat} {x : Int} (hx : mtypes[k]? = some x) (he : x = n) : mtypes.contains n = true := by
  subst he
  exact List.contains_iff_mem.2 (List.mem_of_getElem? hx)
set_option maxRecDepth 20000 in
theorem kind_walk {w : World} {n : Int} :
    Calls Tryz.prog 26 #[.int .i64 n] w fun e w' => e = .returned (.bool (mtypes.contains n)) ∧ Turn nowhere w w' := by
  go_enter Tryz.func26, Tryz.ntmps26
  go_upto_region 1 with fail
  refine wp_region_lit ?_
  refine wR (v := .slice (some ⟨w.heap.size, 0, none⟩) 16 16) (w' := w.alloc (.cells kindC.toArray 3)) rfl (bx_slices rfl (by simp only [List.map_toArray, List.map_cons, List.map_nil]; rfl) (build_kinds w)) ?_
  simp only [Act.put, zzA, zz0, zz1]
  have hb := Blk.new w 3 kindC.toArray
  have hu := (Turn.refl nowhere w).alloc (.cells kindC.toArray 3)
  obtain ⟨g, hg⟩ : ∃ g, g = w.heap.size := ⟨_, rfl⟩
  rw [← hg] at hb ⊢
  clear hg
  generalize w.alloc (.cells kindC.toArray 3) = w1 at *
  have HB := Lib.hid hb
  have HT0 := Lib.hid hu
  clear hb hu
  refine wR (v := .slice (some ⟨g, 0, none⟩) 16 16) rfl (gx_assign rfl rfl) ?_
  simp only [Act.put, zzA, zz0, zz1]
  go_upto_region 2 with fail
  refine wp_region_lit ?_
  refine wR (v := .int .i64 0) rfl (gx_assign rfl rfl) ?_
  simp only [Act.put, zzA, zz0, zz1]
  go_wp2_with fail
  go_loopg [4] 16 (fun gk jv wr => ∃ k : Nat, k + gk = 16 ∧ jv = .int .i64 (k : Int) ∧ wr = w1 ∧ (mtypes.take k).contains n = false)
  case atStart => exact ⟨0, by omega, rfl, rfl, rfl⟩
  obtain ⟨k, hk, rfl, rfl, hno⟩ := hrel
  have HK := Lib.hid hk
  have HNO := Lib.hid hno
  clear hk hno
  go_upto_region 3 with fail
  refine wp_region_lit ?_
  refine wR (v := .int .i64 (k : Int)) rfl (exec_move rfl rfl) ?_
  simp only [Act.put, zzA, zz0, zz1]
  refine wR (v := .slice (some ⟨g, 0, none⟩) 16 16) rfl (exec_move rfl rfl) ?_
  simp only [Act.put, zzA, zz0, zz1]
  refine wR (v := .int .i64 16) rfl (gx_len rfl rfl Tryz.underlying63) ?_
  simp only [Act.put, zzA, zz0, zz1]
  by_cases hlt : k < 16
  · refine wR (v := .bool true) rfl (ix_lss rfl rfl rfl (decide_eq_true (by omega))) ?_
    simp only [Act.put, zzA, zz0, zz1]
    have HLT := Lib.hid hlt
    have y1 : (k : Int) < 16 := by omega
    obtain ⟨x, hx⟩ : ∃ x, mtypes[k]? = some x := ⟨_, List.getElem?_eq_getElem (show k < mtypes.length from hlt)⟩
    have HX := Lib.hid hx
    have HCE := Lib.hid (show World.cell? wr ⟨g, 0 + k * 1, none⟩ = some (.int .i64 x) from by
      rw [show 0 + k * 1 = k from by omega, HB.out.cell]
      show (mtypes.map fun n => Value.int .i64 n).toArray[k]? = _
      rw [List.getElem?_toArray, List.getElem?_map, hx]
      rfl)
    clear hlt hx
    go_upto_region 5 with fail
    refine wp_region_lit ?_
    refine wR (v := .slice (some ⟨g, 0, none⟩) 16 16) rfl (exec_move rfl rfl) ?_
    simp only [Act.put, zzA, zz0, zz1]
    refine wR (v := .int .i64 (k : Int)) rfl (exec_move rfl rfl) ?_
    simp only [Act.put, zzA, zz0, zz1]
    refine wR (v := .pointer (some ⟨g, 0 + k * 1, none⟩)) rfl (gx_iaddr (i := k) (sz := 1) rfl rfl rfl Tryz.underlying63 size_int1 HLT.out rfl) ?_
    simp only [Act.put, zzA, zz0, zz1]
    refine wR (v := .int .i64 x) rfl (exec_load1 rfl rfl (by kernel_rfl) HCE.out) ?_
    simp only [Act.put, zzA, zz0, zz1]
    refine wR (v := .int .i64 n) rfl (exec_move rfl rfl) ?_
    simp only [Act.put, zzA, zz0, zz1]
    by_cases heq : x = n
    · refine wR (v := .bool true) rfl (ix_eql rfl rfl rfl (decide_eq_true heq)) ?_
      simp only [Act.put, zzA, zz0, zz1]
      have HC := Lib.hid (kind_yes HX.out heq)
      clear heq
      go_wp2_with fail
      go_ret
      rw [HC.out]
      exact ⟨rfl, HT0.out⟩
    · refine wR (v := .bool false) rfl (ix_eql rfl rfl rfl (decide_eq_false heq)) ?_
      simp only [Act.put, zzA, zz0, zz1]
      have HN2 := Lib.hid (kind_no HNO.out HX.out heq)
      clear heq
      go_wp2_with fail
      go_roundg (gk - 1)
      case measure => have := HK.out; have := HLT.out; omega
      case rel => exact ⟨k + 1, by have := HK.out; have := HLT.out; omega, by go_num, rfl, HN2.out⟩
  · refine wR (v := .bool false) rfl (ix_lss rfl rfl rfl (decide_eq_false (by omega))) ?_
    simp only [Act.put, zzA, zz0, zz1]
    have HC := Lib.hid (show mtypes.contains n = false from by
      have h1 := HNO.out
      rwa [List.take_of_length_le (show mtypes.length ≤ k from by show 16 ≤ k; omega)] at h1)
    clear hlt
    go_wp2_with fail
    go_ret
    rw [HC.out]
    exact ⟨rfl, HT0.out⟩
theorem checkFs_at {fs : List Fld} {last : Int} {j : Nat} {f : Fld} (hf : fs[j]? = some f) : checkFs last (fs.drop j) = if fieldBad last f = 0 then checkFs f.1 (fs.drop (j + 1)) else fieldBad last f := by
  obtain ⟨hj, e⟩ := List.getElem?_eq_some_iff.1 hf
  rw [List.drop_eq_getElem_cons hj, e]
  rfl
theorem formE1 (no : Int) : formE 1 no = match mform 1 no with | some m => (m, (0 : Int)) | none => (fm0, (52 : Int)) := by
  unfold formE
  rw [if_pos (by decide)] <;> rfl
def Txts (fs : List Fld) : Prop := ∀ f ∈ fs, f.2.length ≤ 9223372036854775807
set_option maxRecDepth 20000 in
set_option maxHeartbeats 2000000 in
theorem rCheck_walk {w : World} {ty : Int} {A : Option Addr} {n c : Nat} {fs : List Fld} (hf : Fl w A n fs) (htx : Txts fs) :
    Calls Tryz.prog 11 #[msgV ty A n c] w fun e w' => e = .returned (.int .i64 (mcheck ty fs)) ∧ Turn nowhere w w' := by
  have HF := Lib.hid hf
  have HTX := Lib.hid htx
  have HNL := Lib.hid hf.1
  have y9 : (n : Int) ≤ 140737488355328 := by
    have := hf.2.1
    omega
  clear hf htx
  unfold msgV
  go_enter Tryz.func11, Tryz.ntmps11
  go_upto_region 1 with fail
  have hb0 := Blk.new w 24 #[.int .i64 ty, .slice A n c]
  have hu0 := (Turn.refl nowhere w).alloc (.cells #[.int .i64 ty, .slice A n c] 24)
  obtain ⟨gm, hg0⟩ : ∃ g, g = w.heap.size := ⟨_, rfl⟩
  rw [← hg0] at hb0 ⊢
  clear hg0
  generalize w.alloc (.cells #[.int .i64 ty, .slice A n c] 24) = w1 at *
  have HBgm := Lib.hid hb0
  have HT0 := Lib.hid hu0
  clear hb0 hu0
  refine wp_region_lit ?_
  refine wR (v := .pointer (some ⟨gm, 0, none⟩)) rfl (exec_field (off := 0) (d := 0) rfl rfl (by kernel_rfl)) ?_
  simp only [Act.put, zzA, zz0, zz1]
  refine wR (v := .int .i64 ty) rfl (exec_load1 rfl rfl (by kernel_rfl) (HBgm.out.cell 0)) ?_
  simp only [Act.put, zzA, zz0, zz1]
  refine wpList_op rfl fun K9 HK9 => ?_
  go_wp2_with fail
  refine (kind_walk).mono ?_
  rintro e w2 ⟨rfl, htx⟩
  refine HK9.out _ _ ?_
  clear HK9
  try simp only [Act.put, zzA, zz0, zz1]
  have HT2 := Lib.hid htx
  clear htx
  cases hty : mtypes.contains ty with
  | false =>
    have HRR9 := Lib.hid (show mcheck ty fs = 51 from by unfold mcheck; rw [if_pos hty])
    clear hty
    refine wR (v := .bool true) rfl (ix_not (b := false) rfl rfl) ?_
    simp only [Act.put, zzA, zz0, zz1]
    go_wp2_with fail
    go_ret
    rw [HRR9.out]
    exact ⟨rfl, (HT0.out.next HT2.out)⟩
  | true =>
    have HTY := Lib.hid hty
    clear hty
    refine wR (v := .bool false) rfl (ix_not (b := true) rfl rfl) ?_
    simp only [Act.put, zzA, zz0, zz1]
    go_upto_region 3 with fail
    refine wp_region_lit ?_
    refine wR (v := .pointer (some ⟨gm, 1, none⟩)) rfl (exec_field (off := 0) (d := 1) rfl rfl (by kernel_rfl)) ?_
    simp only [Act.put, zzA, zz0, zz1]
    refine wR (v := .slice A n c) rfl (exec_load1 rfl rfl (by kernel_rfl) ((HBgm.out.turn HT2.out (fun e => e)).cell 1)) ?_
    simp only [Act.put, zzA, zz0, zz1]
    refine wR (v := .int .i64 (n : Int)) rfl (gx_len rfl rfl Tryz.underlying22) ?_
    simp only [Act.put, zzA, zz0, zz1]
    by_cases hl : 24 < n
    · have HRR9 := Lib.hid (show mcheck ty fs = 5 from by unfold mcheck; rw [if_neg (by rw [HTY.out]; decide), if_pos (by rw [HNL.out]; exact hl)])
      refine wR (v := .bool true) rfl (ix_gtr rfl rfl rfl (decide_eq_true (by omega))) ?_
      simp only [Act.put, zzA, zz0, zz1]
      clear hl
      go_wp2_with fail
      go_ret
      rw [HRR9.out]
      exact ⟨rfl, (HT0.out.next HT2.out)⟩
    · have HMC := Lib.hid (show mcheck ty fs = checkFs 0 fs from by unfold mcheck; rw [if_neg (by rw [HTY.out]; decide), if_neg (by rw [HNL.out]; exact hl)])
      refine wR (v := .bool false) rfl (ix_gtr rfl rfl rfl (decide_eq_false (by omega))) ?_
      simp only [Act.put, zzA, zz0, zz1]
      clear hl
      go_upto_region 5 with fail
      refine wp_region_lit ?_
      refine wR (v := .int .i64 0) rfl (gx_assign rfl rfl) ?_
      simp only [Act.put, zzA, zz0, zz1]
      go_upto_region 6 with fail
      refine wp_region_lit ?_
      refine wR (v := .int .i64 0) rfl (gx_assign rfl rfl) ?_
      simp only [Act.put, zzA, zz0, zz1]
      go_wp2_with fail
      go_loopg [3, 4] n (fun gk lv jv wr => ∃ (j : Nat) (last : Int), j + gk = n ∧ jv = .int .i64 (j : Int) ∧ lv = .int .i64 last ∧ checkFs last (fs.drop j) = checkFs 0 fs ∧ Turn nowhere w2 wr)
      case atStart => exact ⟨0, 0, by omega, rfl, rfl, rfl, Turn.refl _ _⟩
      obtain ⟨j, last, hjl, rfl, rfl, hck, htr⟩ := hrel
      have HJL := Lib.hid hjl
      have HCK := Lib.hid hck
      have HTR := Lib.hid htr
      clear hjl hck htr
      have HB2 := Lib.hid (HBgm.out.turn (HT2.out.next HTR.out) (fun e => e))
      go_upto_region 7 with fail
      refine wp_region_lit ?_
      refine wR (v := .int .i64 (j : Int)) rfl (exec_move rfl rfl) ?_
      simp only [Act.put, zzA, zz0, zz1]
      refine wR (v := .pointer (some ⟨gm, 1, none⟩)) rfl (exec_field (off := 0) (d := 1) rfl rfl (by kernel_rfl)) ?_
      simp only [Act.put, zzA, zz0, zz1]
      refine wR (v := .slice A n c) rfl (exec_load1 rfl rfl (by kernel_rfl) (HB2.out.cell 1)) ?_
      simp only [Act.put, zzA, zz0, zz1]
      refine wR (v := .int .i64 (n : Int)) rfl (gx_len rfl rfl Tryz.underlying22) ?_
      simp only [Act.put, zzA, zz0, zz1]
      by_cases hlt : j < n
      · have HLT := Lib.hid hlt
        have y1 : (j : Int) < (n : Int) := by omega
        obtain ⟨bF, oF, rfl, hr⟩ := (HF.out.still ((HT0.out.next HT2.out).next HTR.out)).2.2 (by omega)
        obtain ⟨f, hf⟩ : ∃ f, fs[j]? = some f := ⟨_, List.getElem?_eq_getElem (show j < fs.length from by rw [HNL.out]; exact hlt)⟩
        have HRR := Lib.hid (hr j f hf)
        have HCA := Lib.hid (checkFs_at (last := last) hf)
        have HTF := Lib.hid (HTX.out f (List.mem_of_getElem? hf))
        clear hr hf hlt
        refine wR (v := .bool true) rfl (ix_lss rfl rfl rfl (decide_eq_true y1)) ?_
        simp only [Act.put, zzA, zz0, zz1]
        go_upto_region 9 with fail
        refine wp_region_lit ?_
        refine wR (v := .pointer (some ⟨gm, 1, none⟩)) rfl (exec_field (off := 0) (d := 1) rfl rfl (by kernel_rfl)) ?_
        simp only [Act.put, zzA, zz0, zz1]
        refine wR (v := .slice (some ⟨bF, oF, none⟩) n c) rfl (exec_load1 rfl rfl (by kernel_rfl) (HB2.out.cell 1)) ?_
        simp only [Act.put, zzA, zz0, zz1]
        refine wR (v := .int .i64 (j : Int)) rfl (exec_move rfl rfl) ?_
        simp only [Act.put, zzA, zz0, zz1]
        refine wR (v := .pointer (some ⟨bF, oF + j * 2, none⟩)) rfl (gx_iaddr (i := j) (sz := 2) rfl rfl rfl Tryz.underlying22 size_field HLT.out (by omega)) ?_
        simp only [Act.put, zzA, zz0, zz1]
        refine wR (v := .pointer (some ⟨bF, oF + j * 2, none⟩)) rfl (exec_field (off := oF + j * 2) (d := 0) rfl rfl (by kernel_rfl)) ?_
        simp only [Act.put, zzA, zz0, zz1]
        refine wR (v := .int .i64 f.1) rfl (exec_load1 rfl rfl (by kernel_rfl) (HRR.out 0 _ rfl)) ?_
        simp only [Act.put, zzA, zz0, zz1]
        have hFm := rForm_walk (w := wr) (dd := 1) (no := f.1)
        rw [formE1] at hFm
        cases hm : mform 1 f.1 with
        | none =>
          rw [hm] at hFm
          refine wpList_op rfl fun K9 HK9 => ?_
          go_wp2_with fail
          refine (hFm).mono ?_
          rintro e w3 ⟨rfl, htx⟩
          refine HK9.out _ _ ?_
          clear HK9
          try simp only [Act.put, zzA, zz0, zz1]
          clear hFm
          have HT3 := Lib.hid htx
          clear htx
          refine wR (v := .tuple #[.agg (fmA fm0), .int .i64 52]) rfl (exec_move rfl rfl) ?_
          simp only [Act.put, zzA, zz0, zz1]
          refine wR (v := .agg (fmA fm0)) rfl (ix_extract rfl rfl rfl) ?_
          simp only [Act.put, zzA, zz0, zz1]
          refine wR (v := .int .i64 52) rfl (ix_extract rfl rfl rfl) ?_
          simp only [Act.put, zzA, zz0, zz1]
          refine wpList_new 49 (.tmp 5) (.tmp 30) (fmA fm0) rfl rfl (zero_fm _) rfl rfl rfl rfl rfl rfl (by rw [size_form]; rfl) (fmA_one _) ?_
          intro w4 g4 _ hbx hux
          simp only [Act.put, zzA, zz0, zz1]
          have HBg4 := Lib.hid hbx
          have HT4 := Lib.hid hux
          clear hbx hux
          refine wR (v := .int .i64 52) rfl (gx_assign rfl rfl) ?_
          simp only [Act.put, zzA, zz0, zz1]
          have HBD := Lib.hid (show fieldBad last f = 52 from by unfold fieldBad; rw [hm])
          clear hm
          have HRR9 := Lib.hid (show mcheck ty fs = 52 from by rw [HMC.out, ← HCK.out, HCA.out, HBD.out, if_neg (by decide)])
          go_upto_region 10 with fail
          refine wp_region_lit ?_
          refine wR (v := .int .i64 52) rfl (exec_move rfl rfl) ?_
          simp only [Act.put, zzA, zz0, zz1]
          refine wR (v := .bool true) rfl (ix_neq rfl rfl rfl (by decide)) ?_
          simp only [Act.put, zzA, zz0, zz1]
          go_wp2_with fail
          go_ret
          rw [HRR9.out]
          exact ⟨rfl, ((((HT0.out.next HT2.out).next HTR.out).next HT3.out).next HT4.out)⟩
        | some m =>
          rw [hm] at hFm
          refine wpList_op rfl fun K9 HK9 => ?_
          go_wp2_with fail
          refine (hFm).mono ?_
          rintro e w3 ⟨rfl, htx⟩
          refine HK9.out _ _ ?_
          clear HK9
          try simp only [Act.put, zzA, zz0, zz1]
          clear hFm
          have HT3 := Lib.hid htx
          clear htx
          refine wR (v := .tuple #[.agg (fmA m), .int .i64 0]) rfl (exec_move rfl rfl) ?_
          simp only [Act.put, zzA, zz0, zz1]
          refine wR (v := .agg (fmA m)) rfl (ix_extract rfl rfl rfl) ?_
          simp only [Act.put, zzA, zz0, zz1]
          refine wR (v := .int .i64 0) rfl (ix_extract rfl rfl rfl) ?_
          simp only [Act.put, zzA, zz0, zz1]
          refine wpList_new 49 (.tmp 5) (.tmp 30) (fmA m) rfl rfl (zero_fm _) rfl rfl rfl rfl rfl rfl (by rw [size_form]; rfl) (fmA_one _) ?_
          intro w4 g4 _ hbx hux
          simp only [Act.put, zzA, zz0, zz1]
          have HBg4 := Lib.hid hbx
          have HT4 := Lib.hid hux
          clear hbx hux
          refine wR (v := .int .i64 0) rfl (gx_assign rfl rfl) ?_
          simp only [Act.put, zzA, zz0, zz1]
          have HM := Lib.hid hm
          clear hm
          have HB4 := Lib.hid (HB2.out.turn (HT3.out.next HT4.out) (fun e => e))
          have HR4 := Lib.hid (show w4.rangeAt bF (oF + j * 2) (fldA f).toList from fun i v hv => ((HT3.out.next HT4.out).cell (World.block_lt_of_cell? _ _ (HRR.out i v hv)) (fun e => e)).trans (HRR.out i v hv))
          go_upto_region 10 with fail
          refine wp_region_lit ?_
          refine wR (v := .int .i64 0) rfl (exec_move rfl rfl) ?_
          simp only [Act.put, zzA, zz0, zz1]
          refine wR (v := .bool false) rfl (ix_neq rfl rfl rfl (by decide)) ?_
          simp only [Act.put, zzA, zz0, zz1]
          refine wR (v := .bool false) rfl (exec_move rfl rfl) ?_
          simp only [Act.put, zzA, zz0, zz1]
          refine wR (v := .pointer (some ⟨gm, 1, none⟩)) rfl (exec_field (off := 0) (d := 1) rfl rfl (by kernel_rfl)) ?_
          simp only [Act.put, zzA, zz0, zz1]
          refine wR (v := .slice (some ⟨bF, oF, none⟩) n c) rfl (exec_load1 rfl rfl (by kernel_rfl) (HB4.out.cell 1)) ?_
          simp only [Act.put, zzA, zz0, zz1]
          refine wR (v := .int .i64 (j : Int)) rfl (exec_move rfl rfl) ?_
          simp only [Act.put, zzA, zz0, zz1]
          refine wR (v := .pointer (some ⟨bF, oF + j * 2, none⟩)) rfl (gx_iaddr (i := j) (sz := 2) rfl rfl rfl Tryz.underlying22 size_field HLT.out (by omega)) ?_
          simp only [Act.put, zzA, zz0, zz1]
          refine wR (v := .pointer (some ⟨bF, oF + j * 2, none⟩)) rfl (exec_field (off := oF + j * 2) (d := 0) rfl rfl (by kernel_rfl)) ?_
          simp only [Act.put, zzA, zz0, zz1]
          refine wR (v := .int .i64 f.1) rfl (exec_load1 rfl rfl (by kernel_rfl) (HR4.out 0 _ rfl)) ?_
          simp only [Act.put, zzA, zz0, zz1]
          refine wR (v := .int .i64 last) rfl (exec_move rfl rfl) ?_
          simp only [Act.put, zzA, zz0, zz1]
          by_cases hla : f.1 ≤ last
          · have HBD := Lib.hid (show fieldBad last f = 52 from by unfold fieldBad; rw [HM.out]; show (if f.1 ≤ last then (52 : Int) else _) = 52; rw [if_pos hla])
            have HRR9 := Lib.hid (show mcheck ty fs = 52 from by rw [HMC.out, ← HCK.out, HCA.out, HBD.out, if_neg (by decide)])
            refine wR (v := .bool true) rfl (ix_leq rfl rfl rfl (decide_eq_true hla)) ?_
            simp only [Act.put, zzA, zz0, zz1]
            refine wR (v := .bool true) rfl (ix_pickF rfl rfl rfl) ?_
            simp only [Act.put, zzA, zz0, zz1]
            clear hla
            go_wp2_with fail
            go_ret
            rw [HRR9.out]
            exact ⟨rfl, ((((HT0.out.next HT2.out).next HTR.out).next HT3.out).next HT4.out)⟩
          · have HBD := Lib.hid (show fieldBad last f = if m.check f.2 = 0 then 0 else 41 from by unfold fieldBad; rw [HM.out]; show (if f.1 ≤ last then (52 : Int) else _) = _; rw [if_neg hla])
            refine wR (v := .bool false) rfl (ix_leq rfl rfl rfl (decide_eq_false hla)) ?_
            simp only [Act.put, zzA, zz0, zz1]
            refine wR (v := .bool false) rfl (ix_pickF rfl rfl rfl) ?_
            simp only [Act.put, zzA, zz0, zz1]
            clear hla
            go_upto_region 12 with fail
            refine wp_region_lit ?_
            refine wR (v := .pointer (some ⟨gm, 1, none⟩)) rfl (exec_field (off := 0) (d := 1) rfl rfl (by kernel_rfl)) ?_
            simp only [Act.put, zzA, zz0, zz1]
            refine wR (v := .slice (some ⟨bF, oF, none⟩) n c) rfl (exec_load1 rfl rfl (by kernel_rfl) (HB4.out.cell 1)) ?_
            simp only [Act.put, zzA, zz0, zz1]
            refine wR (v := .int .i64 (j : Int)) rfl (exec_move rfl rfl) ?_
            simp only [Act.put, zzA, zz0, zz1]
            refine wR (v := .pointer (some ⟨bF, oF + j * 2, none⟩)) rfl (gx_iaddr (i := j) (sz := 2) rfl rfl rfl Tryz.underlying22 size_field HLT.out (by omega)) ?_
            simp only [Act.put, zzA, zz0, zz1]
            refine wR (v := .pointer (some ⟨bF, oF + j * 2, none⟩)) rfl (exec_field (off := oF + j * 2) (d := 0) rfl rfl (by kernel_rfl)) ?_
            simp only [Act.put, zzA, zz0, zz1]
            refine wR (v := .int .i64 f.1) rfl (exec_load1 rfl rfl (by kernel_rfl) (HR4.out 0 _ rfl)) ?_
            simp only [Act.put, zzA, zz0, zz1]
            refine wR (v := .int .i64 f.1) rfl (gx_assign rfl rfl) ?_
            simp only [Act.put, zzA, zz0, zz1]
            go_upto_region 13 with fail
            have hS0 : (fun W : World => Blk W gm 24 #[.int .i64 ty, .slice (some ⟨bF, oF, none⟩) n c] ∧ Blk W g4 49 (fmA m) ∧ W.rangeAt bF (oF + j * 2) (fldA f).toList) w4.drew := ⟨HB4.out.drew, HBg4.out.drew, HR4.out⟩
            have HTD := Lib.hid (Turn.drew (Turn.refl nowhere w4))
            refine wp_region_alw (fun W => Blk W gm 24 #[.int .i64 ty, .slice (some ⟨bF, oF, none⟩) n c] ∧ Blk W g4 49 (fmA m) ∧ W.rangeAt bF (oF + j * 2) (fldA f).toList) (by kernel_rfl) ?_
            generalize w4.drew = w5 at *
            refine alw_take (i := 0) (v := .agg (fmA m)) rfl (by kernel_rfl) (by kernel_rfl) (fun _ _ _ h => h) (.inl ⟨by rfl, fun W hW => gx_loads rfl rfl (blk_range hW.2.1) Tryz.underlying49 rfl (by rw [size_form]; rfl)⟩) hS0 ?_
            simp only [Act.put, zzA, zz0, zz1]
            refine alw_take (i := 1) (v := .pointer (some ⟨gm, 1, none⟩)) rfl (by kernel_rfl) (by kernel_rfl) (fun _ _ _ h => h) (.inl ⟨by rfl, fun W hW => exec_field (off := 0) (d := 1) rfl rfl (by kernel_rfl)⟩) hS0 ?_
            simp only [Act.put, zzA, zz0, zz1]
            refine alw_take (i := 2) (v := .slice (some ⟨bF, oF, none⟩) n c) rfl (by kernel_rfl) (by kernel_rfl) (fun _ _ _ h => h) (.inl ⟨by rfl, fun W hW => exec_load1 rfl rfl (by kernel_rfl) (hW.1.cell 1)⟩) hS0 ?_
            simp only [Act.put, zzA, zz0, zz1]
            refine alw_take (i := 3) (v := .int .i64 (j : Int)) rfl (by kernel_rfl) (by kernel_rfl) (fun _ _ _ h => h) (.inl ⟨by rfl, fun W hW => exec_move rfl rfl⟩) hS0 ?_
            simp only [Act.put, zzA, zz0, zz1]
            refine alw_take (i := 4) (v := .pointer (some ⟨bF, oF + j * 2, none⟩)) rfl (by kernel_rfl) (by kernel_rfl) (fun _ _ _ h => h) (.inl ⟨by rfl, fun W hW => gx_iaddr (i := j) (sz := 2) rfl rfl rfl Tryz.underlying22 size_field HLT.out (by omega)⟩) hS0 ?_
            simp only [Act.put, zzA, zz0, zz1]
            refine alw_take (i := 5) (v := .pointer (some ⟨bF, oF + j * 2 + 1, none⟩)) rfl (by kernel_rfl) (by kernel_rfl) (fun _ _ _ h => h) (.inl ⟨by rfl, fun W hW => exec_field (off := oF + j * 2) (d := 1) rfl rfl (by kernel_rfl)⟩) hS0 ?_
            simp only [Act.put, zzA, zz0, zz1]
            refine alw_take (i := 6) (v := strV f.2) rfl (by kernel_rfl) (by kernel_rfl) (fun _ _ _ h => h) (.inl ⟨by rfl, fun W hW => exec_load1 rfl rfl (by kernel_rfl) (hW.2.2 1 _ rfl)⟩) hS0 ?_
            simp only [Act.put, zzA, zz0, zz1]
            refine alw_step (i := 7) (by kernel_rfl) rfl rfl ?_
            intro K1 HK1
            go_wp2_with fail
            refine (rcheck_walk (f := m) w5 HTF.out).mono ?_
            rintro e w6 ⟨rfl, ht6⟩
            have hS1 : (fun W : World => Blk W gm 24 #[.int .i64 ty, .slice (some ⟨bF, oF, none⟩) n c] ∧ Blk W g4 49 (fmA m) ∧ W.rangeAt bF (oF + j * 2) (fldA f).toList) w6 := ⟨hS0.1.turn ht6 (fun e => e), hS0.2.1.turn ht6 (fun e => e), fun i v hv => (ht6.cell (World.block_lt_of_cell? _ _ (hS0.2.2 i v hv)) (fun e => e)).trans (hS0.2.2 i v hv)⟩
            refine HK1.out _ _ ⟨hS1, ?_⟩
            have HT6 := Lib.hid ht6
            clear HK1 hS0 ht6
            try simp only [Act.put, zzA, zz0, zz1]
            by_cases hch : m.check f.2 = 0
            · refine alw_take (i := 8) (v := .bool false) rfl (by kernel_rfl) (by kernel_rfl) (fun _ _ _ h => h) (.inl ⟨by rfl, fun W hW => ix_neq rfl rfl rfl (by rw [hch]; decide)⟩) hS1 ?_
              simp only [Act.put, zzA, zz0, zz1]
              refine alw_done rfl ?_
              clear hS1
              refine NoPanic.normal ?_
              have HC2 := Lib.hid (show checkFs f.1 (fs.drop (j + 1)) = checkFs 0 fs from by rw [← HCK.out, HCA.out, HBD.out, if_pos hch, if_pos rfl])
              clear hch
              go_wp2_with fail
              go_roundg (gk - 1)
              case measure => have := HJL.out; have := HLT.out; omega
              case rel => exact ⟨j + 1, f.1, by have := HJL.out; have := HLT.out; omega, by go_num, rfl, HC2.out, ((((HTR.out.next HT3.out).next HT4.out).next HTD.out).next HT6.out)⟩
            · refine alw_take (i := 8) (v := .bool true) rfl (by kernel_rfl) (by kernel_rfl) (fun _ _ _ h => h) (.inl ⟨by rfl, fun W hW => ix_neq rfl rfl rfl (decide_eq_true hch)⟩) hS1 ?_
              simp only [Act.put, zzA, zz0, zz1]
              refine alw_done rfl ?_
              clear hS1
              refine NoPanic.normal ?_
              have HRR9 := Lib.hid (show mcheck ty fs = 41 from by rw [HMC.out, ← HCK.out, HCA.out, HBD.out, if_neg hch, if_neg (by decide)])
              clear hch
              go_wp2_with fail
              go_ret
              rw [HRR9.out]
              exact ⟨rfl, ((((((HT0.out.next HT2.out).next HTR.out).next HT3.out).next HT4.out).next HTD.out).next HT6.out)⟩
      · have HRR9 := Lib.hid (show mcheck ty fs = 0 from by rw [HMC.out, ← HCK.out, List.drop_eq_nil_of_le (by rw [HNL.out]; omega)]; rfl)
        refine wR (v := .bool false) rfl (ix_lss rfl rfl rfl (decide_eq_false (by omega))) ?_
        simp only [Act.put, zzA, zz0, zz1]
        clear hlt
        go_wp2_with fail
        go_ret
        rw [HRR9.out]
        exact ⟨rfl, ((HT0.out.next HT2.out).next HTR.out)⟩
end Go.Proofs.YticofobhkmabiaaGreatDoor
namespace Go.Proofs.YticofobhkmabiaaGreatDoor
open Go.RowKit
open Fdd
set_option linter.unusedVariables false
set_option linter.unusedSimpArgs false
theorem smf : ∀ (fn : Fn) (first cap : Array Value) (w : World), (Instr.makeFunc fn first cap).run Tryz.prog w = .ok (.func fn first cap) w := fun _ _ _ _ => rfl
def moreV (q : Nat) : Value := .func (.func 33) #[] #[.pointer (some ⟨q, 0, none⟩)]
theorem exec_mf {P : Program} {a : Act} {o : Oper} {W : World} {fn : Fn} {x : Operand} {u : Value} (ho : o.op = .makeFunc fn #[] #[x]) (hx : a.eval x = u) : (execOp a.eval o).run P W = .ok (.value (.func fn #[] #[u])) W := by
  unfold execOp
  simp only [ho, List.map_toArray, List.map_cons, List.map_nil, hx]
  rfl
theorem build_fldM (no : Int) (t : List UInt8) (W : World) : (Instr.build 40 #[(0, .int .i64 no), (1, strV t)]).run Tryz.prog W = .ok (.agg (fldA (no, t))) W := by kernel_rfl
theorem build_msg2 (ty : Int) (A : Option Addr) (n c : Nat) (W : World) : (Instr.build 24 #[(0, .int .i64 ty), (1, .slice A n c)]).run Tryz.prog W = .ok (.agg #[.int .i64 ty, .slice A n c]) W := by kernel_rfl
theorem build_msg1 (ty : Int) (W : World) : (Instr.build 24 #[(0, .int .i64 ty)]).run Tryz.prog W = .ok (.agg #[.int .i64 ty, .slice none 0 0]) W := by kernel_rfl
theorem gx_build1 {P : Program} {a : Act} {o : Oper} {t : TypeId} {x0 : Operand} {u0 r : Value} {W : World} (ho : o.op = .build t #[(0, x0)]) (h0 : a.eval x0 = u0)
    (h : (Instr.build t #[(0, u0)]).run P W = .ok r W) : (execOp a.eval o).run P W = .ok (.value r) W := by
  unfold execOp
  simp only [ho, List.map_toArray, List.map_cons, List.map_nil, h0, h, Sem.run_bind, Sem.run_pure, Result.andThen_ok]
theorem bx_slice1 {P : Program} {a : Act} {o : Oper} {t : TypeId} {x : Operand} {u q : Value} {W W' : World} (ho : o.op = .buildSlice t 1 #[(0, x)]) (hx : a.eval x = u)
    (h : (Instr.buildSlice t 1 #[(0, u)]).run P W = .ok q W') : (execOp a.eval o).run P W = .ok (.value q) W' := by
  unfold execOp
  simp only [ho, List.map_toArray, List.map_cons, List.map_nil, hx, h, Sem.run_bind, Sem.run_pure, Result.andThen_ok]
/-- where the first field with a greater number stands, or -1 -/
def idxV (no : Int) (l : List Fld) : Int := if atM no l < l.length then ((atM no l : Nat) : Int) else -1
theorem more_walk {w : World} {f : Fld} {q : Nat} {no : Int} (hq : Blk w q 3 #[.int .i64 no]) :
    Calls Tryz.prog 33 #[.agg (fldA f), .pointer (some ⟨q, 0, none⟩)] w fun e w' => e = .returned (.bool (decide (no < f.1))) ∧ Turn nowhere w w' := by
  have hb0 := Blk.new w 40 (fldA f)
  have hu0 := (Turn.refl nowhere w).alloc (.cells (fldA f) 40)
  have HQ := Lib.hid (hq.turn hu0 (fun e => e))
  clear hq
  go_enter Tryz.func33, Tryz.ntmps33
  go_upto_region 1 with fail
  obtain ⟨g0, hg0⟩ : ∃ g, g = w.heap.size := ⟨_, rfl⟩
  rw [← hg0] at hb0 ⊢
  clear hg0
  have HB := Lib.hid hb0
  have HU := Lib.hid hu0
  clear hb0 hu0
  generalize w.alloc (.cells (fldA f) 40) = w1 at *
  refine wp_region_lit ?_
  refine wR (v := .pointer (some ⟨g0, 0, none⟩)) rfl (exec_field (off := 0) (d := 0) rfl rfl (by kernel_rfl)) ?_
  simp only [Act.put, zzA, zz0, zz1]
  refine wR (v := .int .i64 f.1) rfl (exec_load1 rfl rfl (by kernel_rfl) (HB.out.cell 0)) ?_
  simp only [Act.put, zzA, zz0, zz1]
  refine wR (v := .int .i64 no) rfl (exec_load1 rfl rfl (by kernel_rfl) (HQ.out.cell 0)) ?_
  simp only [Act.put, zzA, zz0, zz1]
  refine wR (v := .bool (decide (no < f.1))) rfl (ix_gtr rfl rfl rfl rfl) ?_
  simp only [Act.put, zzA, zz0, zz1]
  refine wR (v := .bool (decide (no < f.1))) rfl (gx_assign rfl rfl) ?_
  simp only [Act.put, zzA, zz0, zz1]
  go_wp2_with fail
  go_ret
  exact ⟨rfl, HU.out⟩
set_option maxRecDepth 20000 in
theorem indexF_walk {w : World} {A : Option Addr} {n c q : Nat} {l : List Fld} {no : Int} (hf : Fl w A n l) (hq : Blk w q 3 #[.int .i64 no]) :
    Calls Tryz.prog 32 #[.slice A n c, moreV q] w fun e w' => e = .returned (.int .i64 (idxV no l)) ∧ Turn nowhere w w' := by
  have HF := Lib.hid hf
  have HN := Lib.hid hf.1
  have HQ := Lib.hid hq
  have y9 : (n : Int) ≤ 140737488355328 := by
    have := hf.2.1
    omega
  clear hf hq
  unfold moreV
  go_enter Tryz.func32, Tryz.ntmps32
  go_upto_region 1 with fail
  refine wp_region_lit ?_
  refine wR (v := .slice A n c) rfl (exec_move rfl rfl) ?_
  simp only [Act.put, zzA, zz0, zz1]
  refine wR (v := .int .i64 (n : Int)) rfl (gx_len rfl rfl Tryz.underlying22) ?_
  simp only [Act.put, zzA, zz0, zz1]
  refine wR (v := .int .i64 0) rfl (exec_move rfl rfl) ?_
  simp only [Act.put, zzA, zz0, zz1]
  go_wp2_with fail
  go_loopg [8] n (fun gk jv wr => ∃ j : Nat, j + gk = n ∧ jv = .int .i64 (j : Int) ∧ Turn nowhere w wr ∧ atM no l = j + atM no (l.drop j))
  case atStart => exact ⟨0, by omega, rfl, Turn.refl _ _, by rw [Nat.zero_add, List.drop_zero]⟩
  obtain ⟨j, hjl, rfl, htr, hat⟩ := hrel
  have HJL := Lib.hid hjl
  have HTR := Lib.hid htr
  have HAT := Lib.hid hat
  clear hjl htr hat
  go_upto_region 2 with fail
  refine wp_region_lit ?_
  by_cases hlt : j < n
  · have HLT := Lib.hid hlt
    have y1 : (j : Int) < (n : Int) := by omega
    obtain ⟨bF, oF, rfl, hr⟩ := HF.out.2.2 (by omega)
    obtain ⟨f, hf⟩ : ∃ f, l[j]? = some f := ⟨_, List.getElem?_eq_getElem (show j < l.length from by rw [HN.out]; exact hlt)⟩
    have HRR := Lib.hid (show wr.rangeAt bF (oF + j * 2) (fldA f).toList from fun i v hv => (HTR.out.cell (World.block_lt_of_cell? _ _ (hr j f hf i v hv)) (fun e => e)).trans (hr j f hf i v hv))
    have HST := Lib.hid (at_step (no := no) hf)
    clear hr hf hlt
    refine wR (v := .bool true) rfl (ix_lss rfl rfl rfl (decide_eq_true y1)) ?_
    simp only [Act.put, zzA, zz0, zz1]
    go_upto_region 3 with fail
    refine wp_region_lit ?_
    refine wR (v := .int .i64 (j : Int)) rfl (exec_move rfl rfl) ?_
    simp only [Act.put, zzA, zz0, zz1]
    refine wR (v := .int .i64 (j : Int)) rfl (gx_assign rfl rfl) ?_
    simp only [Act.put, zzA, zz0, zz1]
    go_upto_region 4 with fail
    refine wp_region_lit ?_
    refine wR (v := .func (.func 33) #[] #[.pointer (some ⟨q, 0, none⟩)]) rfl (exec_move rfl rfl) ?_
    simp only [Act.put, zzA, zz0, zz1]
    refine wR (v := .slice (some ⟨bF, oF, none⟩) n c) rfl (exec_move rfl rfl) ?_
    simp only [Act.put, zzA, zz0, zz1]
    refine wR (v := .int .i64 (j : Int)) rfl (exec_move rfl rfl) ?_
    simp only [Act.put, zzA, zz0, zz1]
    refine wR (v := .pointer (some ⟨bF, oF + j * 2, none⟩)) rfl (gx_iaddr (i := j) (sz := 2) rfl rfl rfl Tryz.underlying22 size_field HLT.out (by omega)) ?_
    simp only [Act.put, zzA, zz0, zz1]
    refine wR (v := .agg (fldA f)) rfl (gx_loads rfl rfl HRR.out Tryz.underlying40 rfl (by rw [size_field]; rfl)) ?_
    simp only [Act.put, zzA, zz0, zz1]
    refine wpList_op rfl fun K9 HK9 => ?_
    go_wp2_with fail
    refine (more_walk (HQ.out.turn HTR.out (fun e => e))).mono ?_
    rintro e w3 ⟨rfl, ht3⟩
    refine HK9.out _ _ ?_
    clear HK9
    try simp only [Act.put, zzA, zz0, zz1]
    have HT3 := Lib.hid (HTR.out.next ht3)
    clear ht3
    by_cases hlt : no < f.1
    · have HE := Lib.hid (show idxV no l = (j : Int) from by
        unfold idxV
        have h := HAT.out
        rw [HST.out, if_pos hlt] at h
        rw [if_pos (by have := HLT.out; have := HN.out; omega)]
        omega)
      rw [decide_eq_true hlt]
      clear hlt
      go_wp2_with fail
      go_ret
      rw [HE.out]
      exact ⟨rfl, HT3.out⟩
    · have HA2 := Lib.hid (show atM no l = (j + 1) + atM no (l.drop (j + 1)) from by
        have h := HAT.out
        rw [HST.out, if_neg hlt] at h
        omega)
      rw [decide_eq_false hlt]
      clear hlt
      go_wp2_with fail
      go_roundg (gk - 1)
      case measure => have := HJL.out; have := HLT.out; omega
      case rel => exact ⟨j + 1, by have := HJL.out; have := HLT.out; omega, by go_num, HT3.out, HA2.out⟩
  · refine wR (v := .bool false) rfl (ix_lss rfl rfl rfl (decide_eq_false (by omega))) ?_
    simp only [Act.put, zzA, zz0, zz1]
    have HE := Lib.hid (show idxV no l = -1 from by
      unfold idxV
      have h := HAT.out
      have := HN.out
      rw [at_end (by omega)] at h
      rw [if_neg (by omega)])
    clear hlt
    go_wp2_with fail
    go_ret
    rw [HE.out]
    exact ⟨rfl, HTR.out⟩
end Go.Proofs.YticofobhkmabiaaGreatDoor
