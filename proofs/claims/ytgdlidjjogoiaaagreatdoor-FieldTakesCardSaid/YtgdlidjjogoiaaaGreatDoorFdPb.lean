/-
  The reference's bytes of a right text, in plain data, are those that a form puts. No conditions; nothing of the program.
-/
import Derived.Test.YtgdlidjjogoiaaaGreatDoorFdR
namespace Go.Proofs.YtgdlidjjogoiaaaGreatDoor.Fdd
set_option linter.unusedVariables false
def ebc (c : UInt8) : UInt8 := if dec.contains c then c + 192 else if 65 ≤ c.toNat ∧ c.toNat ≤ 73 then c + 128 else if 74 ≤ c.toNat ∧ c.toNat ≤ 82 then c + 135 else if 83 ≤ c.toNat ∧ c.toNat ≤ 90 then c + 143 else 64
def vOf (c : UInt8) : Nat := if dec.contains c then c.toNat - 48 else c.toNat - 87
def upc (c : UInt8) : UInt8 := if 97 ≤ c.toNat then c - 32 else c
def rpack : List UInt8 → List UInt8
  | a :: b :: r => UInt8.ofNat (16 * vOf a + vOf b) :: rpack r
  | _ => []
def rsigns (code : Int) (t : List UInt8) : List UInt8 := if code = 3 then t.map ebc else t
def rdigits (code : Int) (t : List UInt8) : List UInt8 := if code = 2 then rpack (padded t) else rsigns code t
def rbytes (f : Fm) (t : List UInt8) : List UInt8 :=
  if f.kind = 1 then rdigits f.code t else if f.kind = 2 then rdigits f.code (two t.length) ++ rdigits f.code t else
  if f.kind = 5 then rsigns f.code (t.take 1) ++ rdigits f.code (t.drop 1) else if f.kind = 3 then rsigns f.code t else
  if f.code ≠ 1 then rpack (padded t) else t.map upc
theorem ebc_dec : ∀ c ∈ dec, one dec eDec c = ebc c := by decide +kernel
theorem ebc_sgn : ∀ c ∈ sgn, one sgn eSgn c = ebc c := by decide +kernel
theorem ebc_mk : ∀ c ∈ mk, one mk eMk c = ebc c := by decide +kernel
theorem id_dec : ∀ c ∈ dec, one dec dec c = c := by decide +kernel
theorem id_sgn : ∀ c ∈ sgn, one sgn sgn c = c := by decide +kernel
theorem id_mk : ∀ c ∈ mk, one mk mk c = c := by decide +kernel
theorem up_hex : ∀ c ∈ hexs, one hexs hexU c = upc c := by decide +kernel
theorem v_hex : ∀ c ∈ hexs, hexs.idxOf c = vOf c := by decide +kernel
theorem v_dec : ∀ c ∈ dec, dec.idxOf c = vOf c := by decide +kernel
theorem rpack_of {ch : List UInt8} (h : ∀ c ∈ ch, ch.idxOf c = vOf c) : ∀ t : List UInt8, (∀ c ∈ t, c ∈ ch) → rpack t = pack ch t
  | [], _ => rfl
  | [_], _ => rfl
  | a :: b :: r, ht => by
    have ha := h a (ht a (List.mem_cons_self ..))
    have hb := h b (ht b (List.mem_cons_of_mem _ (List.mem_cons_self ..)))
    have hr := rpack_of h r fun c hc => ht c (List.mem_cons_of_mem _ (List.mem_cons_of_mem _ hc))
    unfold rpack pack
    rw [ha, hb, hr]
theorem padded_in {ch t : List UInt8} (h0 : (48 : UInt8) ∈ ch) (ht : ∀ c ∈ t, c ∈ ch) : ∀ c ∈ padded t, c ∈ ch := by
  unfold padded
  split
  · intro c hc
    rcases List.mem_cons.1 hc with rfl | hc
    · exact h0
    · exact ht c hc
  · exact ht
theorem only_in {l cs : List UInt8} (h : onlyOf l cs = true) : ∀ c ∈ l, c ∈ cs := fun _ hc => onlyOf_mem h hc
theorem map_in {f g : UInt8 → UInt8} {cs : List UInt8} (h : ∀ c ∈ cs, f c = g c) {t : List UInt8} (ht : onlyOf t cs = true) : t.map f = t.map g :=
  List.map_congr_left fun c hc => h c (onlyOf_mem ht hc)
theorem enc_dig {n : Nat} {c : Nat} (hc : 1 ≤ c ∧ c ≤ 3) {t : List UInt8} (ht : onlyOf t dec = true) : (⟨n, dec, (rws c).d⟩ : Pt).enc t = rdigits (c : Int) t := by
  have hcc : c = 1 ∨ c = 2 ∨ c = 3 := by omega
  rcases hcc with rfl | rfl | rfl
  · show t.map (one dec dec) = t
    rw [map_in id_dec ht, List.map_id' t]
  · show pack dec (padded t) = rpack (padded t)
    exact (rpack_of v_dec _ (padded_in (by decide) (only_in ht))).symm
  · exact map_in ebc_dec ht
theorem enc_sgn {n : Nat} {c : Nat} (hc : 1 ≤ c ∧ c ≤ 3) {t : List UInt8} (ht : onlyOf t sgn = true) : (⟨n, sgn, (rws c).s⟩ : Pt).enc t = rsigns (c : Int) t := by
  have hcc : c = 1 ∨ c = 2 ∨ c = 3 := by omega
  rcases hcc with rfl | rfl | rfl
  · show t.map (one sgn sgn) = t
    rw [map_in id_sgn ht, List.map_id' t]
  · show t.map (one sgn sgn) = t
    rw [map_in id_sgn ht, List.map_id' t]
  · exact map_in ebc_sgn ht
theorem enc_mk {n : Nat} {c : Nat} (hc : 1 ≤ c ∧ c ≤ 3) {t : List UInt8} (ht : onlyOf t mk = true) : (⟨n, mk, (rws c).m⟩ : Pt).enc t = rsigns (c : Int) t := by
  have hcc : c = 1 ∨ c = 2 ∨ c = 3 := by omega
  rcases hcc with rfl | rfl | rfl
  · show t.map (one mk mk) = t
    rw [map_in id_mk ht, List.map_id' t]
  · show t.map (one mk mk) = t
    rw [map_in id_mk ht, List.map_id' t]
  · exact map_in ebc_mk ht
theorem enc_hex {n : Nat} {c : Nat} (hc : 1 ≤ c ∧ c ≤ 3) {t : List UInt8} (ht : onlyOf t hexs = true) : (⟨n, hexs, (rws c).h⟩ : Pt).enc t = if (c : Int) ≠ 1 then rpack (padded t) else t.map upc := by
  have hcc : c = 1 ∨ c = 2 ∨ c = 3 := by omega
  rcases hcc with rfl | rfl | rfl
  · exact map_in up_hex ht
  · show pack hexs (padded t) = rpack (padded t)
    exact (rpack_of v_hex _ (padded_in (by decide) (only_in ht))).symm
  · show pack hexs (padded t) = rpack (padded t)
    exact (rpack_of v_hex _ (padded_in (by decide) (only_in ht))).symm
theorem right_one {p : Pt} {t : List UInt8} (h : rightAll [p] t = true) : onlyOf t p.chars = true ∧ t.length = p.n := by
  unfold rightAll rightAll at h
  simp only [Bool.and_eq_true, decide_eq_true_eq, beq_iff_eq, List.drop_eq_nil_iff] at h
  obtain ⟨h1, h2, h3⟩ := h
  rw [List.take_of_length_le h3] at h2
  exact ⟨h2, by omega⟩
theorem enc_one {p : Pt} {t : List UInt8} (h : t.length = p.n) : encAll [p] t = p.enc t := by
  unfold encAll encAll
  rw [List.append_nil, List.take_of_length_le (by omega)]
theorem right_two {p q : Pt} {t : List UInt8} (h : rightAll [p, q] t = true) : p.n ≤ t.length ∧ onlyOf (t.take p.n) p.chars = true ∧ rightAll [q] (t.drop p.n) = true := by
  unfold rightAll at h
  simp only [Bool.and_eq_true, decide_eq_true_eq] at h
  exact h
theorem rbytes_put {k s c : Nat} {t : List UInt8} (hk : 1 ≤ k ∧ k ≤ 5) (hc : 1 ≤ c ∧ c ≤ 3) (hs : 1 ≤ s ∧ s ≤ 64) (hr : (nf k s c).right t = true) : rbytes (nf k s c) t = (nf k s c).put t := by
  have hkk : k = 1 ∨ k = 2 ∨ k = 3 ∨ k = 4 ∨ k = 5 := by omega
  have hcn : (c : Int).toNat = c := Int.toNat_natCast c
  rcases hkk with rfl | rfl | rfl | rfl | rfl
  · rw [right_nl (by decide)] at hr
    rw [put_nl (by decide)]
    have e : ptsOf ((1 : Nat) : Int) (c : Int) s = [⟨s, dec, (rws c).d⟩] := by
      show [(⟨s, dec, (rws (c : Int).toNat).d⟩ : Pt)] = _
      rw [hcn]
    rw [e] at hr ⊢
    obtain ⟨h1, h2⟩ := right_one hr
    rw [enc_one h2, enc_dig hc h1]
    rfl
  · obtain ⟨hl, hr2⟩ := ll_right hr
    rw [put_ll]
    have e1 : ptsOf 1 (c : Int) 2 = [⟨2, dec, (rws c).d⟩] := by
      show [(⟨2, dec, (rws (c : Int).toNat).d⟩ : Pt)] = _
      rw [hcn]
    have e2 : ptsOf 2 (c : Int) t.length = [⟨t.length, dec, (rws c).d⟩] := by
      show [(⟨t.length, dec, (rws (c : Int).toNat).d⟩ : Pt)] = _
      rw [hcn]
    rw [e2] at hr2
    rw [e1, e2]
    obtain ⟨h1, h2⟩ := right_one hr2
    rw [enc_one h2, enc_one (two_len _), enc_dig hc h1, enc_dig hc (two_ok (show t.length ≤ 99 by omega)).2]
    rfl
  · rw [right_nl (by decide)] at hr
    rw [put_nl (by decide)]
    have e : ptsOf ((3 : Nat) : Int) (c : Int) s = [⟨s, sgn, (rws c).s⟩] := by
      show [(⟨s, sgn, (rws (c : Int).toNat).s⟩ : Pt)] = _
      rw [hcn]
    rw [e] at hr ⊢
    obtain ⟨h1, h2⟩ := right_one hr
    rw [enc_one h2, enc_sgn hc h1]
    rfl
  · rw [right_nl (by decide)] at hr
    rw [put_nl (by decide)]
    have e : ptsOf ((4 : Nat) : Int) (c : Int) s = [⟨2 * s, hexs, (rws c).h⟩] := by
      show [(⟨2 * s, hexs, (rws (c : Int).toNat).h⟩ : Pt)] = _
      rw [hcn]
    rw [e] at hr ⊢
    obtain ⟨h1, h2⟩ := right_one hr
    rw [enc_one h2, enc_hex hc h1]
    rfl
  · rw [right_nl (by decide)] at hr
    rw [put_nl (by decide)]
    have e : ptsOf ((5 : Nat) : Int) (c : Int) s = [⟨1, mk, (rws c).m⟩, ⟨s, dec, (rws c).d⟩] := by
      show [(⟨1, mk, (rws (c : Int).toNat).m⟩ : Pt), ⟨s, dec, (rws (c : Int).toNat).d⟩] = _
      rw [hcn]
    rw [e] at hr ⊢
    obtain ⟨h1, h2, h3⟩ := right_two hr
    obtain ⟨h4, h5⟩ := right_one h3
    have e2 : encAll [⟨1, mk, (rws c).m⟩, ⟨s, dec, (rws c).d⟩] t = (⟨1, mk, (rws c).m⟩ : Pt).enc (t.take 1) ++ encAll [⟨s, dec, (rws c).d⟩] (t.drop 1) := rfl
    rw [e2, enc_one h5, enc_mk hc h2, enc_dig hc h4]
    rfl
end Go.Proofs.YtgdlidjjogoiaaaGreatDoor.Fdd
