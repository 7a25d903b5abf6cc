/-
  Several texts in one file, in their order:
  - The reference's bytes of a right text, in plain data, are those that a form puts. No conditions; nothing of the program.
  - message's takeMap. Conditions: the tables and the errors read as the program's text lays them.
  - message's takeFields: its first loop (the forms). Conditions: the tables and the errors read as the program's text lays them; at most 200 numbers.
  - message's takeFields. Conditions: the tables and the errors read as the program's text lays them; at most 200 numbers.
  - message's decode. Conditions: the tables and the errors read as the program's text lays them.
  - message's Decode. Conditions: the tables and the errors read as the program's text lays them.
  - The reference's tests of bytes and texts. No conditions.
  - The reference's right. No conditions.
  - The reference's Same.
  - Operations in general, more of them: a new variable that is stored into at once, slices built of some elements, worlds one behind the other. No conditions; it imports nothing of the program.
  - The reference's Check, and general parts. Conditions: the rows read as the program's text lays them.
  - The reference's bytes: a digit's value, signs, digits in pairs. No conditions.
  - groatlaw05's shown: the examples' message. Conditions: the tables and the errors read as the program's text lays them.
  - Small facts for the laws of message. Conditions: the tables and the errors read as the program's text lays them.
  - message's Form. Conditions: the tables and the errors read as the program's text lays them.
  - The reference's there and Form. No conditions.
-/
import Derived.Test.YtkbdijkoedmgnaaGreatDoorJa0
import Derived.Test.YtkbdijkoedmgnaaGreatDoorJa2
import Derived.Test.YtkbdijkoedmgnaaGreatDoorJa1
import Derived.IntWalk
namespace Go.Proofs.YtkbdijkoedmgnaaGreatDoor
open Go.RowKit
theorem zzA {α : Type} (l : List α) (i : Nat) (a : α) : l.toArray.setIfInBounds i a = (l.set i a).toArray := List.setIfInBounds_toArray l i a
theorem zz0 {α : Type} {x : α} {xs : List α} {a : α} : (x :: xs).set 0 a = a :: xs := List.set_cons_zero
theorem zz1 {α : Type} {x : α} {xs : List α} {i : Nat} {a : α} : (x :: xs).set (i + 1) a = x :: xs.set i a := List.set_cons_succ
theorem wR {P : Program} {ops : Array Oper} {rest : List Oper} {o : Oper} {a : Act} {w : World} {Q : Exit → Act → World → Prop} (hgd : Region.wanted o (yielded ops a.tmps) = true) {v : Value} {w' : World} (hr : (execOp a.eval o).run P w = .ok (.value v) w') (h : wpList P ops Q rest (a.put o.dst v) w') : wpList P ops Q (o :: rest) a w := wpList_run hgd hr h
theorem Turn.next {F : Nat → Prop} {w w1 w' : World} (h : Turn F w w1) (g : Turn F w1 w') : Turn F w w' := h.trans g (fun _ _ e => e)
end Go.Proofs.YtkbdijkoedmgnaaGreatDoor
namespace Go.Proofs.YtkbdijkoedmgnaaGreatDoor.Fdd
theorem dec_hex : ∀ c ∈ dec, c ∈ hexs := by decide +kernel
end Go.Proofs.YtkbdijkoedmgnaaGreatDoor.Fdd
namespace Go.Proofs.YtkbdijkoedmgnaaGreatDoor.Fdd
set_option linter.unusedVariables false
def ebc (c : UInt8) : UInt8 := if dec.contains c then c + 192 else if 65 ≤ c.toNat ∧ c.toNat ≤ 73 then c + 128 else if 74 ≤ c.toNat ∧ c.toNat ≤ 82 then c + 135 else if 83 ≤ c.toNat ∧ c.toNat ≤ 90 then c + 143 else 64
def vOf (c : UInt8) : Nat := if dec.contains c then c.toNat - 48 else c.toNat - 87
def upc (c : UInt8) : UInt8 := if 97 ≤ c.toNat then c - 32 else c
def rpack : List UInt8 → List UInt8
  | a :: b :: r => UInt8.ofNat (16 * vOf a + vOf b) :: rpack r
  | _ => []
def rsigns (code : Int) (t : List UInt8) : List UInt8 := if code = 3 then t.map ebc else t
def rdigits (code : Int) (t : List UInt8) : List UInt8 := if code = 2 then rpack (padded t) else rsigns code t
def rbytes (f : Fm) (t : List UInt8) : List UInt8 :=
  if f.kind = 1 then rdigits f.code t else if f.kind = 2 then rdigits f.code (two t.length) ++ rdigits f.code t else
  if f.kind = 5 then rsigns f.code (t.take 1) ++ rdigits f.code (t.drop 1) else if f.kind = 3 then rsigns f.code t else
  if f.code ≠ 1 then rpack (padded t) else t.map upc
theorem ebc_dec : ∀ c ∈ dec, one dec eDec c = ebc c := by decide +kernel
theorem ebc_sgn : ∀ c ∈ sgn, one sgn eSgn c = ebc c := by decide +kernel
theorem ebc_mk : ∀ c ∈ mk, one mk eMk c = ebc c := by decide +kernel
theorem id_dec : ∀ c ∈ dec, one dec dec c = c := by decide +kernel
theorem id_sgn : ∀ c ∈ sgn, one sgn sgn c = c := by decide +kernel
theorem id_mk : ∀ c ∈ mk, one mk mk c = c := by decide +kernel
theorem up_hex : ∀ c ∈ hexs, one hexs hexU c = upc c := by decide +kernel
theorem v_hex : ∀ c ∈ hexs, hexs.idxOf c = vOf c := by decide +kernel
theorem v_dec : ∀ c ∈ dec, dec.idxOf c = vOf c := by decide +kernel
theorem rpack_of {ch : List UInt8} (h : ∀ c ∈ ch, ch.idxOf c = vOf c) : ∀ t : List UInt8, (∀ c ∈ t, c ∈ ch) → rpack t = pack ch t
  | [], _ => rfl
  | [_], _ => rfl
  | a :: b :: r, ht => by
    have ha := h a (ht a (List.mem_cons_self ..))
    have hb := h b (ht b (List.mem_cons_of_mem _ (List.mem_cons_self ..)))
    have hr := rpack_of h r fun c hc => ht c (List.mem_cons_of_mem _ (List.mem_cons_of_mem _ hc))
    unfold rpack pack
    rw [ha, hb, hr]
theorem padded_in {ch t : List UInt8} (h0 : (48 : UInt8) ∈ ch) (ht : ∀ c ∈ t, c ∈ ch) : ∀ c ∈ padded t, c ∈ ch := by
  unfold padded
  split
  · intro c hc
    rcases List.mem_cons.1 hc with rfl | hc
    · exact h0
    · exact ht c hc
  · exact ht
theorem only_in {l cs : List UInt8} (h : onlyOf l cs = true) : ∀ c ∈ l, c ∈ cs := fun _ hc => onlyOf_mem h hc
theorem map_in {f g : UInt8 → UInt8} {cs : List UInt8} (h : ∀ c ∈ cs, f c = g c) {t : List UInt8} (ht : onlyOf t cs = true) : t.map f = t.map g :=
  List.map_congr_left fun c hc => h c (onlyOf_mem ht hc)
theorem enc_dig {n : Nat} {c : Nat} (hc : 1 ≤ c ∧ c ≤ 3) {t : List UInt8} (ht : onlyOf t dec = true) : (⟨n, dec, (rws c).d⟩ : Pt).enc t = rdigits (c : Int) t := by
  have hcc : c = 1 ∨ c = 2 ∨ c = 3 := by omega
  rcases hcc with rfl | rfl | rfl
  · show t.map (one dec dec) = t
    rw [map_in id_dec ht, List.map_id' t]
  · show pack dec (padded t) = rpack (padded t)
    exact (rpack_of v_dec _ (padded_in (by decide) (only_in ht))).symm
  · exact map_in ebc_dec ht
theorem enc_sgn {n : Nat} {c : Nat} (hc : 1 ≤ c ∧ c ≤ 3) {t : List UInt8} (ht : onlyOf t sgn = true) : (⟨n, sgn, (rws c).s⟩ : Pt).enc t = rsigns (c : Int) t := by
  have hcc : c = 1 ∨ c = 2 ∨ c = 3 := by omega
  rcases hcc with rfl | rfl | rfl
  · show t.map (one sgn sgn) = t
    rw [map_in id_sgn ht, List.map_id' t]
  · show t.map (one sgn sgn) = t
    rw [map_in id_sgn ht, List.map_id' t]
  · exact map_in ebc_sgn ht
theorem enc_mk {n : Nat} {c : Nat} (hc : 1 ≤ c ∧ c ≤ 3) {t : List UInt8} (ht : onlyOf t mk = true) : (⟨n, mk, (rws c).m⟩ : Pt).enc t = rsigns (c : Int) t := by
  have hcc : c = 1 ∨ c = 2 ∨ c = 3 := by omega
  rcases hcc with rfl | rfl | rfl
  · show t.map (one mk mk) = t
    rw [map_in id_mk ht, List.map_id' t]
  · show t.map (one mk mk) = t
    rw [map_in id_mk ht, List.map_id' t]
  · exact map_in ebc_mk ht
theorem enc_hex {n : Nat} {c : Nat} (hc : 1 ≤ c ∧ c ≤ 3) {t : List UInt8} (ht : onlyOf t hexs = true) : (⟨n, hexs, (rws c).h⟩ : Pt).enc t = if (c : Int) ≠ 1 then rpack (padded t) else t.map upc := by
  have hcc : c = 1 ∨ c = 2 ∨ c = 3 := by omega
  rcases hcc with rfl | rfl | rfl
  · exact map_in up_hex ht
  · show pack hexs (padded t) = rpack (padded t)
    exact (rpack_of v_hex _ (padded_in (by decide) (only_in ht))).symm
  · show pack hexs (padded t) = rpack (padded t)
    exact (rpack_of v_hex _ (padded_in (by decide) (only_in ht))).symm
theorem right_one {p : Pt} {t : List UInt8} (h : rightAll [p] t = true) : onlyOf t p.chars = true ∧ t.length = p.n := by
  unfold rightAll rightAll at h
  simp only [Bool.and_eq_true, decide_eq_true_eq, beq_iff_eq, List.drop_eq_nil_iff] at h
  obtain ⟨h1, h2, h3⟩ := h
  rw [List.take_of_length_le h3] at h2
  exact ⟨h2, by omega⟩
theorem enc_one {p : Pt} {t : List UInt8} (h : t.length = p.n) : encAll [p] t = p.enc t := by
  unfold encAll encAll
  rw [List.append_nil, List.take_of_length_le (by omega)]
theorem right_two {p q : Pt} {t : List UInt8} (h : rightAll [p, q] t = true) : p.n ≤ t.length ∧ onlyOf (t.take p.n) p.chars = true ∧ rightAll [q] (t.drop p.n) = true := by
  unfold rightAll at h
  simp only [Bool.and_eq_true, decide_eq_true_eq] at h
  exact h
theorem rbytes_put {k s c : Nat} {t : List UInt8} (hk : 1 ≤ k ∧ k ≤ 5) (hc : 1 ≤ c ∧ c ≤ 3) (hs : 1 ≤ s ∧ s ≤ 64) (hr : (nf k s c).right t = true) : rbytes (nf k s c) t = (nf k s c).put t := by
  have hkk : k = 1 ∨ k = 2 ∨ k = 3 ∨ k = 4 ∨ k = 5 := by omega
  have hcn : (c : Int).toNat = c := Int.toNat_natCast c
  rcases hkk with rfl | rfl | rfl | rfl | rfl
  · rw [right_nl (by decide)] at hr
    rw [put_nl (by decide)]
    have e : ptsOf ((1 : Nat) : Int) (c : Int) s = [⟨s, dec, (rws c).d⟩] := by
      show [(⟨s, dec, (rws (c : Int).toNat).d⟩ : Pt)] = _
      rw [hcn]
    rw [e] at hr ⊢
    obtain ⟨h1, h2⟩ := right_one hr
    rw [enc_one h2, enc_dig hc h1]
    rfl
  · obtain ⟨hl, hr2⟩ := ll_right hr
    rw [put_ll]
    have e1 : ptsOf 1 (c : Int) 2 = [⟨2, dec, (rws c).d⟩] := by
      show [(⟨2, dec, (rws (c : Int).toNat).d⟩ : Pt)] = _
      rw [hcn]
    have e2 : ptsOf 2 (c : Int) t.length = [⟨t.length, dec, (rws c).d⟩] := by
      show [(⟨t.length, dec, (rws (c : Int).toNat).d⟩ : Pt)] = _
      rw [hcn]
    rw [e2] at hr2
    rw [e1, e2]
    obtain ⟨h1, h2⟩ := right_one hr2
    rw [enc_one h2, enc_one (two_len _), enc_dig hc h1, enc_dig hc (two_ok (show t.length ≤ 99 by omega)).2]
    rfl
  · rw [right_nl (by decide)] at hr
    rw [put_nl (by decide)]
    have e : ptsOf ((3 : Nat) : Int) (c : Int) s = [⟨s, sgn, (rws c).s⟩] := by
      show [(⟨s, sgn, (rws (c : Int).toNat).s⟩ : Pt)] = _
      rw [hcn]
    rw [e] at hr ⊢
    obtain ⟨h1, h2⟩ := right_one hr
    rw [enc_one h2, enc_sgn hc h1]
    rfl
  · rw [right_nl (by decide)] at hr
    rw [put_nl (by decide)]
    have e : ptsOf ((4 : Nat) : Int) (c : Int) s = [⟨2 * s, hexs, (rws c).h⟩] := by
      show [(⟨2 * s, hexs, (rws (c : Int).toNat).h⟩ : Pt)] = _
      rw [hcn]
    rw [e] at hr ⊢
    obtain ⟨h1, h2⟩ := right_one hr
    rw [enc_one h2, enc_hex hc h1]
    rfl
  · rw [right_nl (by decide)] at hr
    rw [put_nl (by decide)]
    have e : ptsOf ((5 : Nat) : Int) (c : Int) s = [⟨1, mk, (rws c).m⟩, ⟨s, dec, (rws c).d⟩] := by
      show [(⟨1, mk, (rws (c : Int).toNat).m⟩ : Pt), ⟨s, dec, (rws (c : Int).toNat).d⟩] = _
      rw [hcn]
    rw [e] at hr ⊢
    obtain ⟨h1, h2, h3⟩ := right_two hr
    obtain ⟨h4, h5⟩ := right_one h3
    have e2 : encAll [⟨1, mk, (rws c).m⟩, ⟨s, dec, (rws c).d⟩] t = (⟨1, mk, (rws c).m⟩ : Pt).enc (t.take 1) ++ encAll [⟨s, dec, (rws c).d⟩] (t.drop 1) := rfl
    rw [e2, enc_one h5, enc_mk hc h2, enc_dig hc h4]
    rfl
end Go.Proofs.YtkbdijkoedmgnaaGreatDoor.Fdd
namespace Go.Proofs.YtkbdijkoedmgnaaGreatDoor
open Go.RowKit
open Fdd
set_option linter.unusedVariables false
set_option linter.unusedSimpArgs false
theorem irow_base {w : World} {B B' : Nat} {v : Value} {l : List Int} (h : IRow w B v l) (hB : B' ≤ B) : IRow w B' v l := by
  refine ⟨h.1, ?_⟩
  rcases h.2 with h0 | ⟨g, cap, cur, rfl, hb1, rest⟩
  · exact .inl h0
  · exact .inr ⟨g, cap, cur, rfl, Nat.le_trans hB hb1, rest⟩
theorem irow_turn {w w' : World} {B : Nat} {v : Value} {l : List Int} {F : Nat → Prop} (h : IRow w B v l) (ht : Turn F w w') (hF : ∀ k, v.ownBlock = some k → ¬ F k) : IRow w' B v l := by
  refine ⟨h.1, ?_⟩
  rcases h.2 with h0 | ⟨g, cap, cur, rfl, hb1, hgg, rest⟩
  · exact .inl h0
  · exact .inr ⟨g, cap, cur, rfl, hb1, (ht.block g (Array.getElem?_eq_some_iff.1 hgg).1 (hF g rfl)).trans hgg, rest⟩
def MapP (s : Sents) (g d : Nat) (r : Except Int (List Int × List UInt8)) (w0 w : World) (e : Ending) (w' : World) : Prop :=
  (match r with
    | .ok (l, rest) => ∃ A c, e = .returned (.tuple #[.slice A l.length c, .nilIface]) ∧ IRow w' w0.heap.size (.slice A l.length c) l ∧ Rd w0 w' g d rest
    | .error k => ∃ v, e = .returned (.tuple #[.slice none 0 0, v]) ∧ ErrV s v k ∧ k ≠ 0) ∧ Turn (only g) w w' ∧ Turn nowhere w0 w'
theorem half_lt {d h : Nat} {b rest : List UInt8} (hd : 1 ≤ d ∧ d ≤ 3) (hk : takeHalf d b = .ok (h, rest)) : h < 2 ^ 64 := (takeHalf_one hd hk).2
theorem and_top {h : Nat} : h &&& 2 ^ 63 = if h.testBit 63 = true then 2 ^ 63 else 0 := by
  refine Nat.eq_of_testBit_eq fun i => ?_
  rw [Nat.testBit_and, Nat.testBit_two_pow]
  by_cases hi : 63 = i
  · subst hi
    cases hb : h.testBit 63
    · simp
    · rw [if_pos rfl, Nat.testBit_two_pow]
      simp
  · cases hb : h.testBit 63
    · simp [hi]
    · rw [if_pos rfl, Nat.testBit_two_pow]
      simp [hi]
set_option maxRecDepth 20000 in
set_option maxHeartbeats 1000000 in
theorem takeMap_walk {s : Sents} {w0 w : World} {g d : Nat} {b : List UInt8} (hd : 1 ≤ d ∧ d ≤ 3) (he : Env s w0) (h0 : Turn nowhere w0 w) (hg0 : w0.heap.size ≤ g) (hr : Rd w0 w g d b) :
    Calls Tryz.prog 58 #[.pointer (some ⟨g, 0, none⟩)] w (MapP s g d (takeMap d b) w0 w) := by
  have HD := Lib.hid hd
  have HE := Lib.hid he
  have H0 := Lib.hid h0
  have HG0 := Lib.hid hg0
  have hb1 := takeBits_walk (s := s) hd he h0 hg0 hr
  cases hk : takeHalf d b with
  | error k =>
    rw [hk] at hb1
    have HB1 := Lib.hid hb1
    have HF := Lib.hid (show takeMap d b = .error k from by unfold takeMap; rw [hk])
    clear hd he h0 hg0 hr hk hb1
    go_enter Tryz.func58, Tryz.ntmps58
    go_upto_region 1 with fail
    refine wp_region_lit ?_
    refine wR (v := .pointer (some ⟨g, 0, none⟩)) rfl (exec_move rfl rfl) ?_
    simp only [Act.put, zzA, zz0, zz1]
    refine wpList_op rfl fun K9 HK9 => ?_
    go_wp2_with fail
    refine (HB1.out).mono ?_
    rintro e w1 ⟨⟨v, rfl, hv, hk0⟩, ho1, h1⟩
    refine HK9.out _ _ ?_
    clear HK9
    try simp only [Act.put, zzA, zz0, zz1]
    have HV := Lib.hid hv
    have HK0 := Lib.hid hk0
    have HO1 := Lib.hid ho1
    have H1 := Lib.hid h1
    obtain ⟨t9, x9, rfl⟩ := errV_some hv hk0
    clear hv hk0 ho1 h1
    refine wR (v := .tuple #[.int .u64 0, .iface t9 x9]) rfl (exec_move rfl rfl) ?_
    simp only [Act.put, zzA, zz0, zz1]
    refine wR (v := .int .u64 0) rfl (ix_extract rfl rfl rfl) ?_
    simp only [Act.put, zzA, zz0, zz1]
    refine wR (v := .iface t9 x9) rfl (ix_extract rfl rfl rfl) ?_
    simp only [Act.put, zzA, zz0, zz1]
    refine wR (v := .int .u64 0) rfl (gx_assign rfl rfl) ?_
    simp only [Act.put, zzA, zz0, zz1]
    refine wR (v := .iface t9 x9) rfl (gx_assign rfl rfl) ?_
    simp only [Act.put, zzA, zz0, zz1]
    go_wp2_with fail
    go_ret2
    unfold MapP
    rw [HF.out]
    exact ⟨⟨_, rfl, HV.out, HK0.out⟩, HO1.out, H1.out⟩
  | ok p =>
    obtain ⟨h, r1⟩ := p
    rw [hk] at hb1
    have HB1 := Lib.hid hb1
    have HL := Lib.hid (half_lt hd hk)
    have HF := Lib.hid (show takeMap d b = if h.testBit 63 = false then .ok (nums h 0, r1) else match takeHalf d r1 with
      | .error e => .error e
      | .ok (h2, r2) => if h2 = 0 then .error 53 else .ok (nums (h % 2 ^ 63) 0 ++ nums h2 64, r2) from by unfold takeMap; rw [hk]; rfl)
    clear hd he h0 hg0 hr hk hb1
    go_enter Tryz.func58, Tryz.ntmps58
    go_upto_region 1 with fail
    refine wp_region_lit ?_
    refine wR (v := .pointer (some ⟨g, 0, none⟩)) rfl (exec_move rfl rfl) ?_
    simp only [Act.put, zzA, zz0, zz1]
    refine wpList_op rfl fun K9 HK9 => ?_
    go_wp2_with fail
    refine (HB1.out).mono ?_
    rintro e w1 ⟨⟨rfl, hr1⟩, ho1, h1⟩
    refine HK9.out _ _ ?_
    clear HK9
    try simp only [Act.put, zzA, zz0, zz1]
    have HR1 := Lib.hid hr1
    have HO1 := Lib.hid ho1
    have H1 := Lib.hid h1
    clear hr1 ho1 h1 HB1
    refine wR (v := .tuple #[.int .u64 (h : Int), .nilIface]) rfl (exec_move rfl rfl) ?_
    simp only [Act.put, zzA, zz0, zz1]
    refine wR (v := .int .u64 (h : Int)) rfl (ix_extract rfl rfl rfl) ?_
    simp only [Act.put, zzA, zz0, zz1]
    refine wR (v := .nilIface) rfl (ix_extract rfl rfl rfl) ?_
    simp only [Act.put, zzA, zz0, zz1]
    refine wR (v := .int .u64 (h : Int)) rfl (gx_assign rfl rfl) ?_
    simp only [Act.put, zzA, zz0, zz1]
    refine wR (v := .nilIface) rfl (gx_assign rfl rfl) ?_
    simp only [Act.put, zzA, zz0, zz1]
    go_upto_region 4 with fail
    refine wp_region_lit ?_
    refine wR (v := .int .u64 (h : Int)) rfl (exec_move rfl rfl) ?_
    simp only [Act.put, zzA, zz0, zz1]
    refine wpList_op rfl fun K9 HK9 => ?_
    go_wp2_with fail
    refine (bit_walk (n := 1) (by decide)).mono ?_
    rintro e w1 ⟨rfl, rfl⟩
    refine HK9.out _ _ ?_
    clear HK9
    try simp only [Act.put, zzA, zz0, zz1]
    obtain ⟨q, hq⟩ : ∃ q, q = h &&& 2 ^ 63 := ⟨_, rfl⟩
    have HQ := Lib.hid hq
    have HQA := Lib.hid (show q = if h.testBit 63 = true then 2 ^ 63 else 0 from by rw [hq]; exact and_top)
    clear hq
    refine wR (v := .int .u64 (q : Int)) rfl (ux_and (m := 2 ^ 63) rfl rfl rfl HL.out (by decide) HQ.out.symm) ?_
    simp only [Act.put, zzA, zz0, zz1]
    cases hb : h.testBit 63 with
    | false =>
      have hq0 : q = 0 := by rw [HQA.out, hb]; rfl
      subst hq0
      have HF2 := Lib.hid (show takeMap d b = .ok (nums h 0, r1) from by rw [HF.out, if_pos hb])
      refine wR (v := .bool true) rfl (ux_eql (m := 0) rfl rfl rfl rfl) ?_
      simp only [Act.put, zzA, zz0, zz1]
      clear hb HF HQ HQA
      go_upto_region 5 with fail
      refine wp_region_lit ?_
      refine wR (v := .int .u64 (h : Int)) rfl (exec_move rfl rfl) ?_
      simp only [Act.put, zzA, zz0, zz1]
      refine wpList_op rfl fun K9 HK9 => ?_
      go_wp2_with fail
      refine (numbers_walk (a := 0) HL.out (by decide)).mono ?_
      rintro e w2 ⟨A2, c2, rfl, hrow, ht2⟩
      refine HK9.out _ _ ?_
      clear HK9
      try simp only [Act.put, zzA, zz0, zz1]
      have HRW := Lib.hid (irow_base hrow H1.out.size)
      have HT2 := Lib.hid ht2
      clear hrow ht2
      refine wR (v := .slice A2 (nums h 0).length c2) rfl (gx_assign rfl rfl) ?_
      simp only [Act.put, zzA, zz0, zz1]
      refine wR (v := .nilIface) rfl (gx_assign rfl rfl) ?_
      simp only [Act.put, zzA, zz0, zz1]
      go_wp2_with fail
      go_ret2
      unfold MapP
      rw [HF2.out]
      exact ⟨⟨_, _, rfl, HRW.out, HR1.out.still HT2.out⟩, only_still HO1.out HT2.out, H1.out.next HT2.out⟩
    | true =>
      have hq0 : q = 2 ^ 63 := by rw [HQA.out, hb]; rfl
      have HF2 := Lib.hid (show takeMap d b = match takeHalf d r1 with
        | .error e => .error e
        | .ok (h2, r2) => if h2 = 0 then .error 53 else .ok (nums (h % 2 ^ 63) 0 ++ nums h2 64, r2) from by rw [HF.out, if_neg (by rw [hb]; decide)])
      have HGE := Lib.hid (show 2 ^ 63 ≤ h from Nat.ge_two_pow_of_testBit hb)
      refine wR (v := .bool false) rfl (ux_eql (m := 0) rfl rfl rfl (by rw [hq0]; rfl)) ?_
      simp only [Act.put, zzA, zz0, zz1]
      clear hb hq0 HF HQ HQA
      have hb2 := takeBits_walk (s := s) HD.out HE.out H1.out HG0.out HR1.out
      go_upto_region 6 with fail
      refine wp_region_lit ?_
      refine wR (v := .pointer (some ⟨g, 0, none⟩)) rfl (exec_move rfl rfl) ?_
      simp only [Act.put, zzA, zz0, zz1]
      cases hk2 : takeHalf d r1 with
      | error k =>
        rw [hk2] at hb2
        have HB2 := Lib.hid hb2
        have HF3 := Lib.hid (show takeMap d b = .error k from by rw [HF2.out, hk2])
        clear hk2 hb2
        refine wpList_op rfl fun K9 HK9 => ?_
        go_wp2_with fail
        refine (HB2.out).mono ?_
        rintro e w2 ⟨⟨v, rfl, hv, hk0⟩, ho2, h2⟩
        refine HK9.out _ _ ?_
        clear HK9
        try simp only [Act.put, zzA, zz0, zz1]
        have HV := Lib.hid hv
        have HK0 := Lib.hid hk0
        have HO2 := Lib.hid (only_trans HO1.out ho2)
        have H2 := Lib.hid h2
        obtain ⟨t9, x9, rfl⟩ := errV_some hv hk0
        clear hv hk0 ho2 h2
        refine wR (v := .tuple #[.int .u64 0, .iface t9 x9]) rfl (exec_move rfl rfl) ?_
        simp only [Act.put, zzA, zz0, zz1]
        refine wR (v := .int .u64 0) rfl (ix_extract rfl rfl rfl) ?_
        simp only [Act.put, zzA, zz0, zz1]
        refine wR (v := .iface t9 x9) rfl (ix_extract rfl rfl rfl) ?_
        simp only [Act.put, zzA, zz0, zz1]
        refine wR (v := .int .u64 0) rfl (gx_assign rfl rfl) ?_
        simp only [Act.put, zzA, zz0, zz1]
        refine wR (v := .iface t9 x9) rfl (gx_assign rfl rfl) ?_
        simp only [Act.put, zzA, zz0, zz1]
        go_wp2_with fail
        go_ret2
        unfold MapP
        rw [HF3.out]
        exact ⟨⟨_, rfl, HV.out, HK0.out⟩, HO2.out, H2.out⟩
      | ok p2 =>
        obtain ⟨h2n, r2⟩ := p2
        rw [hk2] at hb2
        have HB2 := Lib.hid hb2
        have HL2 := Lib.hid (half_lt HD.out hk2)
        have HF3 := Lib.hid (show takeMap d b = if h2n = 0 then .error 53 else .ok (nums (h % 2 ^ 63) 0 ++ nums h2n 64, r2) from by rw [HF2.out, hk2])
        clear hk2 hb2
        refine wpList_op rfl fun K9 HK9 => ?_
        go_wp2_with fail
        refine (HB2.out).mono ?_
        rintro e w2 ⟨⟨rfl, hr2⟩, ho2, h2⟩
        refine HK9.out _ _ ?_
        clear HK9
        try simp only [Act.put, zzA, zz0, zz1]
        have HR2 := Lib.hid hr2
        have HO2 := Lib.hid (only_trans HO1.out ho2)
        have H2 := Lib.hid h2
        clear hr2 ho2 h2 HB2 HR1 HO1
        refine wR (v := .tuple #[.int .u64 (h2n : Int), .nilIface]) rfl (exec_move rfl rfl) ?_
        simp only [Act.put, zzA, zz0, zz1]
        refine wR (v := .int .u64 (h2n : Int)) rfl (ix_extract rfl rfl rfl) ?_
        simp only [Act.put, zzA, zz0, zz1]
        refine wR (v := .nilIface) rfl (ix_extract rfl rfl rfl) ?_
        simp only [Act.put, zzA, zz0, zz1]
        refine wR (v := .int .u64 (h2n : Int)) rfl (gx_assign rfl rfl) ?_
        simp only [Act.put, zzA, zz0, zz1]
        refine wR (v := .nilIface) rfl (gx_assign rfl rfl) ?_
        simp only [Act.put, zzA, zz0, zz1]
        by_cases hz : h2n = 0
        · have HF4 := Lib.hid (show takeMap d b = .error 53 from by rw [HF3.out, if_pos hz])
          have y1 : (h2n : Int) = 0 := by omega
          have g4 : w2.cell? ⟨4, 0, none⟩ = some (errS s.map) := (HE.out.turn H2.out).sen.map.1
          clear hz
          go_upto_region 10 with fail
          have hS0 : w2.drew.cell? ⟨4, 0, none⟩ = some (errS s.map) := g4
          have H5 : Hid (Turn nowhere w0 w2.drew) := Lib.hid H2.out.drew
          have HO5 : Hid (Turn (only g) w w2.drew) := Lib.hid HO2.out.drew
          clear HR2 g4 H2 HO2
          refine wp_region_alw (fun W => W.cell? ⟨4, 0, none⟩ = some (errS s.map)) (by kernel_rfl) ?_
          generalize w2.drew = w5 at *
          refine alw_take (i := 0) (v := errS s.map) rfl (by kernel_rfl) (by kernel_rfl) (fun _ _ _ h => h) (.inl ⟨by rfl, fun W hW => exec_load1 rfl rfl (by kernel_rfl) hW⟩) hS0 ?_
          simp only [Act.put, zzA, zz0, zz1]
          refine alw_take (i := 1) (v := .slice none 0 0) rfl (by kernel_rfl) (by kernel_rfl) (fun _ _ _ h => h) (.inl ⟨by rfl, fun W hW => gx_assign rfl rfl⟩) hS0 ?_
          simp only [Act.put, zzA, zz0, zz1]
          refine alw_take (i := 2) (v := errS s.map) rfl (by kernel_rfl) (by kernel_rfl) (fun _ _ _ h => h) (.inl ⟨by rfl, fun W hW => gx_assign rfl rfl⟩) hS0 ?_
          simp only [Act.put, zzA, zz0, zz1]
          refine alw_done rfl ?_
          clear hS0
          refine NoPanic.normal ?_
          go_wp2_with fail
          go_ret2
          unfold MapP
          rw [HF4.out]
          exact ⟨⟨_, rfl, ErrV.map, by decide⟩, HO5.out, H5.out⟩
        · have HF4 := Lib.hid (show takeMap d b = .ok (nums (h % 2 ^ 63) 0 ++ nums h2n 64, r2) from by rw [HF3.out, if_neg hz])
          have y1 : ¬ ((h2n : Int) = 0) := by omega
          have HNN := Lib.hid (show nums h2n 64 ≠ [] from by
            obtain ⟨L, _, hL, a1, a2⟩ := bitLen_rng hz HL2.out
            rw [nums_top (a := 64) hL a1 a2]
            exact fun h => by cases h)
          clear hz
          go_upto_region 11 with fail
          refine wp_region_lit ?_
          refine wR (v := .int .u64 (h : Int)) rfl (exec_move rfl rfl) ?_
          simp only [Act.put, zzA, zz0, zz1]
          refine wpList_op rfl fun K9 HK9 => ?_
          go_wp2_with fail
          refine (bit_walk (n := 1) (by decide)).mono ?_
          rintro e w2 ⟨rfl, rfl⟩
          refine HK9.out _ _ ?_
          clear HK9
          try simp only [Act.put, zzA, zz0, zz1]
          obtain ⟨q9, hq9⟩ : ∃ q9, q9 = h % 2 ^ 63 := ⟨_, rfl⟩
          have HQ9 := Lib.hid (show h &&& (18446744073709551615 - 2 ^ 63) = q9 from by rw [hq9]; exact andNot_top (by decide) HGE.out HL.out HL.out)
          have HQL := Lib.hid (show q9 < 2 ^ 64 from by rw [hq9]; omega)
          rw [← hq9] at HF4
          clear hq9
          refine wR (v := .int .u64 (q9 : Int)) rfl (ux_andNot (m := 2 ^ 63) rfl rfl rfl HL.out (by decide) HQ9.out) ?_
          simp only [Act.put, zzA, zz0, zz1]
          refine wpList_op rfl fun K9 HK9 => ?_
          go_wp2_with fail
          refine (numbers_walk (a := 0) HQL.out (by decide)).mono ?_
          rintro e w3 ⟨A3, c3, rfl, hrow3, ht3⟩
          refine HK9.out _ _ ?_
          clear HK9
          try simp only [Act.put, zzA, zz0, zz1]
          have HRW3 := Lib.hid hrow3
          have HT3 := Lib.hid ht3
          clear hrow3 ht3
          refine wR (v := .int .u64 (h2n : Int)) rfl (exec_move rfl rfl) ?_
          simp only [Act.put, zzA, zz0, zz1]
          refine wpList_op rfl fun K9 HK9 => ?_
          go_wp2_with fail
          refine (numbers_walk (a := 64) HL2.out (by decide)).mono ?_
          rintro e w4 ⟨A4, c4, rfl, hrow4, ht4⟩
          refine HK9.out _ _ ?_
          clear HK9
          try simp only [Act.put, zzA, zz0, zz1]
          have HRW4 := Lib.hid hrow4
          have HRW34 := Lib.hid (irow_turn HRW3.out ht4 (fun _ _ e=>e))
          have HT4 := Lib.hid (HT3.out.next ht4)
          clear hrow4 ht4
          obtain ⟨l3, hl3⟩ : ∃ l3, l3 = nums q9 0 := ⟨_, rfl⟩
          obtain ⟨l4, hl4⟩ : ∃ l4, l4 = nums h2n 64 := ⟨_, rfl⟩
          have HLS := Lib.hid (show l3.length + l4.length ≤ 1000 from by
            have a1 := nums_len q9 0
            have a2 := nums_len h2n 64
            rw [hl3, hl4]
            omega)
          rw [← hl3] at HF4 HRW3 HRW34 ⊢
          rw [← hl4] at HF4 HRW4 HNN ⊢
          clear hl3 hl4
          have hform : ∃ g4, A4 = some ⟨g4, 0, none⟩ := by
            rcases HRW4.out.2 with ⟨e, h0⟩ | ⟨g4, cap, cur, e, _⟩
            · exact absurd (List.eq_nil_of_length_eq_zero h0) HNN.out
            · injection e with e _ _
              exact ⟨g4, e⟩
          obtain ⟨g4, rfl⟩ := hform
          have hap := ints_append (W1 := w2) (w := w4) (ty := 75) (c := c4) (m := l4.length) (news := l4) (A := ⟨g4, 0, none⟩) HRW34.out HT4.out rfl (fun j u hj => World.ownsRow.cells (g := g4) HRW4.out rfl j u hj) HLS.out
          obtain ⟨A5, c5, w5, hrun, hrow5, ht5⟩ := hap
          have HRUN := Lib.hid hrun
          have HRW5 := Lib.hid (irow_base hrow5 H2.out.size)
          have HT5 := Lib.hid ht5
          clear hrun hrow5 ht5
          refine wR (v := .slice A5 (l3.length + l4.length) c5) (w' := w5) rfl (exec_append rfl rfl rfl HRUN.out) ?_
          simp only [Act.put, zzA, zz0, zz1]
          refine wR (v := .slice A5 (l3.length + l4.length) c5) rfl (gx_assign rfl rfl) ?_
          simp only [Act.put, zzA, zz0, zz1]
          refine wR (v := .nilIface) rfl (gx_assign rfl rfl) ?_
          simp only [Act.put, zzA, zz0, zz1]
          clear HRUN
          go_wp2_with fail
          go_ret2
          unfold MapP
          rw [HF4.out]
          have HLN : (l3 ++ l4).length = l3.length + l4.length := List.length_append
          simp only []
          rw [HLN]
          exact ⟨⟨_, _, rfl, HRW5.out, HR2.out.still HT5.out⟩, only_still HO2.out HT5.out, H2.out.next HT5.out⟩
end Go.Proofs.YtkbdijkoedmgnaaGreatDoor
namespace Go.Proofs.YtkbdijkoedmgnaaGreatDoor
open Go.RowKit
open Fdd
set_option linter.unusedVariables false
set_option linter.unusedSimpArgs false
theorem make_forms (n : Nat) (hn : n ≤ 200) (w : World) : (Instr.makeSlice 144 (.int .i64 (n : Int)) (.int .i64 (n : Int))).run Tryz.prog w = .ok (.slice (some ⟨w.heap.size, 0, none⟩) n n) (w.alloc (.cells (madeCells #[.int .i64 0, .int .i64 0, .int .i64 0] (n * 3)) 24)) := by
  have hi : (Tryz.prog.info? 24).map (fun i => (i.zero, i.size, i.bytes)) = some (some (.agg #[.int .i64 0, .int .i64 0, .int .i64 0]), 3, 24) := by kernel_rfl
  obtain ⟨j0, hj0, hjz, hj1, hj2⟩ := info_parts hi
  have h := run_makeSlice (P := Tryz.prog) w 144 24 j0 _ Tryz.underlying144 hj0 hjz .i64 .i64 (n : Int) (n : Int) (by omega) (by omega) (by rw [hj1]; omega) (by rw [hj2]; omega) (by omega)
  rw [h, hj1]
  rfl
theorem make_fields (n : Nat) (hn : n ≤ 200) (w : World) : (Instr.makeSlice 29 (.int .i64 (n : Int)) (.int .i64 (n : Int))).run Tryz.prog w = .ok (.slice (some ⟨w.heap.size, 0, none⟩) n n) (w.alloc (.cells (madeCells #[.int .i64 0, strV []] (n * 2)) 46)) := by
  have hi : (Tryz.prog.info? 46).map (fun i => (i.zero, i.size, i.bytes)) = some (some (.agg #[.int .i64 0, strV []]), 2, 24) := by kernel_rfl
  obtain ⟨j0, hj0, hjz, hj1, hj2⟩ := info_parts hi
  have h := run_makeSlice (P := Tryz.prog) w 29 46 j0 _ Tryz.underlying29 hj0 hjz .i64 .i64 (n : Int) (n : Int) (by omega) (by omega) (by rw [hj1]; omega) (by rw [hj2]; omega) (by omega)
  rw [h, hj1]
  rfl
/-- forms in a row, the first of them set -/
def Fms (w : World) (gf d n : Nat) (l : List Int) (j : Nat) : Prop := ∃ C, Blk w gf 24 C ∧ C.size = n * 3 ∧ ∀ i no, i < j → l[i]? = some no → ∃ m, mform d no = some m ∧ C[i * 3]? = some (.int .i64 m.kind) ∧ C[i * 3 + 1]? = some (.int .i64 m.size) ∧ C[i * 3 + 2]? = some (.int .i64 m.code)
theorem Fms.turn {w w' : World} {gf d n j : Nat} {l : List Int} {F : Nat → Prop} (h : Fms w gf d n l j) (ht : Turn F w w') (hF : ¬ F gf) : Fms w' gf d n l j := by
  obtain ⟨C, h1, h2, h3⟩ := h
  exact ⟨C, h1.turn ht hF, h2, h3⟩
theorem Fms.range {w : World} {gf d n j i : Nat} {l : List Int} {no : Int} {m : Fm} (h : Fms w gf d n l j) (hi : i < j) (hn : l[i]? = some no) (hm : mform d no = some m) : w.rangeAt gf (i * 3) [.int .i64 m.kind, .int .i64 m.size, .int .i64 m.code] := by
  obtain ⟨C, h1, h2, h3⟩ := h
  obtain ⟨m', hm', a0, a1, a2⟩ := h3 i no hi hn
  rw [hm] at hm'
  injection hm' with hm'
  subst hm'
  intro k u hk
  rw [h1.cell]
  match k, hk with
  | 0, hk => injection hk with hk; subst hk; exact a0
  | 1, hk => injection hk with hk; subst hk; exact a1
  | 2, hk => injection hk with hk; subst hk; exact a2
theorem irow_cell {w : World} {B n c : Nat} {A : Option Addr} {l : List Int} (h : IRow w B (.slice A n c) l) {j : Nat} {x : Int} (hx : l[j]? = some x) : ∃ gl, A = some ⟨gl, 0, none⟩ ∧ w.cell? ⟨gl, j, none⟩ = some (.int .i64 x) := by
  have hj := (List.getElem?_eq_some_iff.1 hx).1
  rcases id h.2 with ⟨e, h0⟩ | ⟨g, cap, cur, e, _⟩
  · omega
  · injection e with e _ _
    subst e
    refine ⟨g, rfl, ?_⟩
    have := World.ownsRow.cells (g := g) h rfl j (.int .i64 x) (by rw [List.getElem?_map, hx]; rfl)
    rwa [add_nat, Nat.zero_add] at this
theorem irow_ne {w : World} {B n c g : Nat} {A : Option Addr} {l : List Int} {t : TypeId} {cs : Array Value} (h : IRow w B (.slice A n c) l) (hg : Blk w g t cs) (ht : t ≠ 3) : ∀ k, (Value.slice A n c).ownBlock = some k → k ≠ g := by
  intro k hk e
  subst e
  rcases h.2 with ⟨e, _⟩ | ⟨g', cap, cur, e, _, hg', _⟩
  · injection e with e _ _
    subst e
    cases hk
  · injection e with e _ _
    subst e
    have hk' : g' = k := Option.some.inj hk
    subst hk'
    exact (show Blk w g' 3 cur from hg').ne_ hg (fun h => ht h.symm) rfl
end Go.Proofs.YtkbdijkoedmgnaaGreatDoor
namespace Go.Proofs.YtkbdijkoedmgnaaGreatDoor
open Go.RowKit
open Fdd
set_option linter.unusedVariables false
set_option linter.unusedSimpArgs false
def FsP (s : Sents) (g d : Nat) (r : Except Int (List Fld × List UInt8)) (w0 w : World) (e : Ending) (w' : World) : Prop :=
  (match r with
    | .ok (fs, rest) => ∃ gF, e = .returned (.tuple #[.slice (some ⟨gF, 0, none⟩) fs.length fs.length, .nilIface]) ∧ Fl w' (some ⟨gF, 0, none⟩) fs.length fs ∧ w0.heap.size ≤ gF ∧ w.heap.size ≤ gF ∧ Rd w0 w' g d rest
    | .error k => ∃ v, e = .returned (.tuple #[.slice none 0 0, v]) ∧ ErrV s v k ∧ k ≠ 0) ∧ Turn (only g) w w' ∧ Turn nowhere w0 w'
theorem build_fld (no : Int) (x : List UInt8) (W : World) : (Instr.build 46 #[(0, .int .i64 no), (1, strV x)]).run Tryz.prog W = .ok (.agg (fldA (no, x))) W := by kernel_rfl
def contF (fs : List Fld) : Except Int (List Fld × List UInt8) → Except Int (List Fld × List UInt8)
  | .ok (fs2, r) => .ok (fs ++ fs2, r)
  | .error e => .error e
def fsR (d : Nat) (l : List Int) (b : List UInt8) : Except Int (List Fld × List UInt8) := if allForms d l = true then takeFs d l b else .error 52
theorem takeFs_at {d : Nat} {l : List Int} {j : Nat} {no : Int} {m : Fm} {b : List UInt8} {fs : List Fld} {X : Except Int (List Fld × List UInt8)} (hn : l[j]? = some no) (hm : mform d no = some m) (h : contF fs (takeFs d (l.drop j) b) = X) :
    (∀ e, m.take b = .error e → X = .error e) ∧ ∀ t r, m.take b = .ok (t, r) → contF (fs ++ [(no, unsaid d no ++ t)]) (takeFs d (l.drop (j + 1)) r) = X := by
  obtain ⟨hj, hnj⟩ := List.getElem?_eq_some_iff.1 hn
  have hd : l.drop j = no :: l.drop (j + 1) := by rw [← hnj]; exact List.drop_eq_getElem_cons hj
  rw [hd] at h
  unfold takeFs at h
  rw [hm] at h
  simp only [] at h
  refine ⟨fun e he => ?_, fun t r hr => ?_⟩
  · rw [he] at h
    exact h.symm
  · rw [hr] at h
    simp only [] at h
    rw [← h]
    cases takeFs d (l.drop (j + 1)) r with
    | error e => rfl
    | ok p =>
      obtain ⟨fs2, r2⟩ := p
      simp [contF]
theorem right_small {k s c : Nat} {t : List UInt8} (hk : 1 ≤ k ∧ k ≤ 5) (hs : 1 ≤ s ∧ s ≤ 64) (h : (nf k s c).right t = true) : t.length ≤ 130 := by
  by_cases h2 : k = 2
  · subst h2
    obtain ⟨hl, _⟩ := ll_right h
    omega
  · rw [right_nl h2] at h
    rw [right_len _ _ h]
    exact pts_sum (c := c) (by omega) hs.2
set_option maxRecDepth 40000 in
set_option maxHeartbeats 2000000 in
theorem takeFields_walk {s : Sents} {w0 w : World} {g d B n c : Nat} {A : Option Addr} {l : List Int} {b : List UInt8} (hd : 1 ≤ d ∧ d ≤ 3) (he : Env s w0) (h0 : Turn nowhere w0 w) (hg0 : w0.heap.size ≤ g) (hr : Rd w0 w g d b) (hn : l.length = n) (hl : IRow w B (.slice A n c) l) (hn2 : n ≤ 200) :
    Calls Tryz.prog 59 #[.pointer (some ⟨g, 0, none⟩), .slice A n c] w (FsP s g d (fsR d l b) w0 w) := by
  have HD := Lib.hid hd
  have HE := Lib.hid he
  have H0 := Lib.hid h0
  have HG0 := Lib.hid hg0
  have HR := Lib.hid hr
  have HN := Lib.hid hn
  have HL := Lib.hid hl
  have HN2 := Lib.hid hn2
  have y9 : (n : Int) ≤ 200 := by omega
  clear hd he h0 hg0 hr hn hl hn2
  go_enter Tryz.func59, Tryz.ntmps59
  go_upto_region 1 with fail
  refine wp_region_lit ?_
  refine wR (v := .slice A n c) rfl (exec_move rfl rfl) ?_
  simp only [Act.put, zzA, zz0, zz1]
  refine wR (v := .int .i64 (n : Int)) rfl (gx_len rfl rfl Tryz.underlying75) ?_
  simp only [Act.put, zzA, zz0, zz1]
  refine wR (v := .slice (some ⟨w.heap.size, 0, none⟩) n n) (w' := w.alloc (.cells (madeCells #[.int .i64 0, .int .i64 0, .int .i64 0] (n * 3)) 24)) rfl (gx_make rfl rfl rfl (make_forms n HN2.out w)) ?_
  simp only [Act.put, zzA, zz0, zz1]
  refine wR (v := .slice (some ⟨w.heap.size, 0, none⟩) n n) rfl (gx_assign rfl rfl) ?_
  simp only [Act.put, zzA, zz0, zz1]
  have hms : (madeCells #[.int .i64 0, .int .i64 0, .int .i64 0] (n * 3)).size = n * 3 := size_madeCells _ _
  generalize madeCells #[.int .i64 0, .int .i64 0, .int .i64 0] (n * 3) = CS at *
  have hbF := Blk.new w 24 CS
  have huF := (Turn.refl nowhere w).alloc (.cells CS 24)
  obtain ⟨gf, hgf⟩ : ∃ gf, gf = w.heap.size := ⟨_, rfl⟩
  rw [← hgf] at hbF ⊢
  have HGF := Lib.hid hgf
  have HNG := Lib.hid (show g ≠ gf from by
    obtain ⟨_, _, _, h, _⟩ := HR.out
    have := h.lt
    omega)
  clear hgf
  generalize w.alloc (.cells CS 24) = w1 at *
  have HF1 := Lib.hid (show Fms w1 gf d n l 0 from ⟨CS, hbF, hms, fun i no hi => by omega⟩)
  have HU1 := Lib.hid huF
  clear hbF huF hms
  go_wp2_with fail
  go_loopg [21] n (fun gk jv wr => ∃ j : Nat, j + gk = n ∧ jv = .int .i64 (j : Int) ∧ Fms wr gf d n l j ∧ Turn (only gf) w1 wr)
  case atStart => exact ⟨0, by omega, rfl, HF1.out, Turn.refl _ _⟩
  obtain ⟨j, hjl, rfl, hfm, htr⟩ := hrel
  have HJL := Lib.hid hjl
  have HFM := Lib.hid hfm
  have HTW := Lib.hid (show Turn nowhere w wr from HU1.out.trans htr (fun k hk e => by
    have := HGF.out
    have e : k = gf := e
    omega))
  have HT0 := Lib.hid (H0.out.next HTW.out)
  have HTR := Lib.hid htr
  clear hjl hfm htr
  by_cases hlt : j < n
  · have y1 : (j : Int) < (n : Int) := by omega
    have HLT := Lib.hid hlt
    obtain ⟨no, hno⟩ : ∃ no, l[j]? = some no := ⟨_, List.getElem?_eq_getElem (show j < l.length from by rw [HN.out]; exact hlt)⟩
    obtain ⟨gl, rfl, cno⟩ := irow_cell (irow_turn HL.out HTW.out (fun _ _ e=>e)) hno
    have HNO := Lib.hid hno
    clear hlt hno
    go_upto_region 4 with fail
    refine wp_region_lit ?_
    refine wR (v := .int .i64 (j : Int)) rfl (exec_move rfl rfl) ?_
    simp only [Act.put, zzA, zz0, zz1]
    refine wR (v := .pointer (some ⟨gl, j, none⟩)) rfl (gx_iaddr (i := j) (sz := 1) rfl rfl rfl Tryz.underlying75 (by kernel_rfl) HLT.out (by omega)) ?_
    simp only [Act.put, zzA, zz0, zz1]
    refine wR (v := .int .i64 no) rfl (exec_load1 rfl rfl (by kernel_rfl) cno) ?_
    simp only [Act.put, zzA, zz0, zz1]
    refine wR (v := .int .i64 (j : Int)) rfl (gx_assign rfl rfl) ?_
    simp only [Act.put, zzA, zz0, zz1]
    refine wR (v := .int .i64 no) rfl (gx_assign rfl rfl) ?_
    simp only [Act.put, zzA, zz0, zz1]
    obtain ⟨Ar, nr, cr, hgr, _⟩ := id (HR.out.still HTW.out)
    have HGR := Lib.hid hgr
    clear cno hgr
    go_upto_region 5 with fail
    refine wp_region_lit ?_
    refine wR (v := .pointer (some ⟨g, 0, none⟩)) rfl (exec_move rfl rfl) ?_
    simp only [Act.put, zzA, zz0, zz1]
    refine wR (v := .pointer (some ⟨g, 0, none⟩)) rfl (exec_nil rfl rfl) ?_
    simp only [Act.put, zzA, zz0, zz1]
    refine wR (v := .pointer (some ⟨g, 0, none⟩)) rfl (exec_field (off := 0) (d := 0) rfl rfl (by kernel_rfl)) ?_
    simp only [Act.put, zzA, zz0, zz1]
    refine wR (v := tongV d) rfl (gx_loads rfl rfl (rd_range HGR.out) Tryz.underlying51 rfl (by rw [size_tongue]; rfl)) ?_
    simp only [Act.put, zzA, zz0, zz1]
    refine wR (v := .int .i64 no) rfl (exec_move rfl rfl) ?_
    simp only [Act.put, zzA, zz0, zz1]
    refine wpList_op rfl fun K9 HK9 => ?_
    go_wp2_with fail
    refine (form_walk (s := s) (d := d) (HE.out.turn HT0.out).tab (HE.out.turn HT0.out).sen).mono ?_
    rintro e w2 ⟨rfl, ht2⟩
    refine HK9.out _ _ ?_
    clear HK9
    try simp only [Act.put, zzA, zz0, zz1]
    have HU2 := Lib.hid (HTW.out.next ht2)
    have HR2 := Lib.hid (only_still HTR.out ht2)
    have HF2 := Lib.hid (HFM.out.turn ht2 (fun e => e))
    clear ht2 HGR HFM HTW HT0 HTR
    cases hm : mform d no with
    | none =>
      have hfr : formR s d no = .tuple #[.agg #[.int .i64 0, .int .i64 0, .int .i64 0], feV no s.field] := by unfold formR; rw [hm]; rfl
      have HAF := Lib.hid (show fsR d l b = .error 52 from by
        unfold fsR
        rw [if_neg]
        intro h
        unfold allForms at h
        rw [List.all_eq_true] at h
        have := h no (List.mem_of_getElem? HNO.out)
        rw [hm] at this
        cases this)
      rw [hfr]
      clear hfr hm
      refine wR (v := .tuple #[.agg #[.int .i64 0, .int .i64 0, .int .i64 0], feV no s.field]) rfl (exec_move rfl rfl) ?_
      simp only [Act.put, zzA, zz0, zz1]
      refine wR (v := .agg #[.int .i64 0, .int .i64 0, .int .i64 0]) rfl (ix_extract rfl rfl rfl) ?_
      simp only [Act.put, zzA, zz0, zz1]
      refine wR (v := feV no s.field) rfl (ix_extract rfl rfl rfl) ?_
      simp only [Act.put, zzA, zz0, zz1]
      refine wR (v := .pointer (some ⟨w2.heap.size, 0, none⟩)) (w' := w2.alloc (.cells #[.int .i64 0, .int .i64 0, .int .i64 0] 24)) rfl (gx_alloc rfl (mzero_form _)) ?_
      simp only [Act.put, zzA, zz0, zz1]
      have hb8 := Blk.new w2 24 #[.int .i64 0, .int .i64 0, .int .i64 0]
      have hu8 := HU2.out.alloc (.cells #[.int .i64 0, .int .i64 0, .int .i64 0] 24)
      have hr8 := HR2.out.alloc (.cells #[.int .i64 0, .int .i64 0, .int .i64 0] 24)
      have hf8 := HF2.out.turn ((Turn.refl nowhere w2).alloc (.cells #[.int .i64 0, .int .i64 0, .int .i64 0] 24)) (fun e => e)
      have hlt8 : gf < w2.heap.size := by
        obtain ⟨_, h, _⟩ := HF2.out
        exact h.lt
      obtain ⟨g8, hg8⟩ : ∃ g8, g8 = w2.heap.size := ⟨_, rfl⟩
      rw [← hg8] at hb8 ⊢
      have HG8 := Lib.hid (show w.heap.size ≤ g8 from by rw [hg8]; exact HU2.out.size)
      have HG81 := Lib.hid (show w1.heap.size ≤ g8 from by rw [hg8]; exact HR2.out.size)
      have HN8 := Lib.hid (show gf ≠ g8 from by omega)
      clear hg8 hlt8
      generalize w2.alloc (.cells #[.int .i64 0, .int .i64 0, .int .i64 0] 24) = w3 at *
      refine wpList_store_row rfl 24 (.tmp 9) (.tmp 33) rfl #[.int .i64 0, .int .i64 0, .int .i64 0] hb8 rfl rfl rfl (by rw [size_form]; rfl) (fm3_one _ _ _) ?_
      intro w4 hb4 hu4
      have HB4 := Lib.hid hb4
      have HF4 := Lib.hid (hf8.turn hu4 (fun e => HN8.out e))
      have HU4 := Lib.hid (hu8.trans hu4 (fun k hk e => by
        have := HG8.out
        have e : k = g8 := e
        omega))
      have HR4 := Lib.hid (hr8.trans (hu4.mono (G := fun k => k = g8) (fun _ _ e=>e)) (fun k hk e => by
        have := HG81.out
        omega))
      clear hb8 hu8 hr8 hf8 hb4 hu4 HU2 HR2 HF2
      simp only [Act.put, zzA, zz0, zz1]
      unfold feV
      go_wp2_with fail
      go_ret2
      unfold FsP
      rw [HAF.out]
      exact ⟨⟨_, rfl, ErrV.field no, by decide⟩, still_only HU4.out, H0.out.next HU4.out⟩
    | some m =>
      have hfr : formR s d no = .tuple #[fmV m, .nilIface] := by unfold formR; rw [hm]
      rw [hfr]
      have HM := Lib.hid hm
      clear hfr hm
      refine wR (v := .tuple #[fmV m, .nilIface]) rfl (exec_move rfl rfl) ?_
      simp only [Act.put, zzA, zz0, zz1]
      refine wR (v := fmV m) rfl (ix_extract rfl rfl rfl) ?_
      simp only [Act.put, zzA, zz0, zz1]
      refine wR (v := .nilIface) rfl (ix_extract rfl rfl rfl) ?_
      simp only [Act.put, zzA, zz0, zz1]
      refine wR (v := .pointer (some ⟨w2.heap.size, 0, none⟩)) (w' := w2.alloc (.cells #[.int .i64 0, .int .i64 0, .int .i64 0] 24)) rfl (gx_alloc rfl (mzero_form _)) ?_
      simp only [Act.put, zzA, zz0, zz1]
      have hb8 := Blk.new w2 24 #[.int .i64 0, .int .i64 0, .int .i64 0]
      have hu8 := HU2.out.alloc (.cells #[.int .i64 0, .int .i64 0, .int .i64 0] 24)
      have hr8 := HR2.out.alloc (.cells #[.int .i64 0, .int .i64 0, .int .i64 0] 24)
      have hf8 := HF2.out.turn ((Turn.refl nowhere w2).alloc (.cells #[.int .i64 0, .int .i64 0, .int .i64 0] 24)) (fun e => e)
      have hlt8 : gf < w2.heap.size := by
        obtain ⟨_, h, _⟩ := HF2.out
        exact h.lt
      obtain ⟨g8, hg8⟩ : ∃ g8, g8 = w2.heap.size := ⟨_, rfl⟩
      rw [← hg8] at hb8 ⊢
      have HG8 := Lib.hid (show w.heap.size ≤ g8 from by rw [hg8]; exact HU2.out.size)
      have HG81 := Lib.hid (show w1.heap.size ≤ g8 from by rw [hg8]; exact HR2.out.size)
      have HN8 := Lib.hid (show gf ≠ g8 from by omega)
      clear hg8 hlt8
      generalize w2.alloc (.cells #[.int .i64 0, .int .i64 0, .int .i64 0] 24) = w3 at *
      refine wpList_store_row rfl 24 (.tmp 9) (.tmp 33) rfl #[.int .i64 m.kind, .int .i64 m.size, .int .i64 m.code] hb8 rfl rfl rfl (by rw [size_form]; rfl) (fm3_one _ _ _) ?_
      intro w4 hb4 hu4
      have HB4 := Lib.hid hb4
      have HF4 := Lib.hid (hf8.turn hu4 (fun e => HN8.out e))
      have HU4 := Lib.hid (hu8.trans hu4 (fun k hk e => by
        have := HG8.out
        have e : k = g8 := e
        omega))
      have HR4 := Lib.hid (hr8.trans (hu4.mono (G := fun k => k = g8) (fun _ _ e=>e)) (fun k hk e => by
        have := HG81.out
        omega))
      clear hb8 hu8 hr8 hf8 hb4 hu4 HU2 HR2 HF2
      simp only [Act.put, zzA, zz0, zz1]
      go_upto_region 8 with fail
      refine wp_region_lit ?_
      refine wR (v := .slice (some ⟨gf, 0, none⟩) n n) rfl (exec_move rfl rfl) ?_
      simp only [Act.put, zzA, zz0, zz1]
      refine wR (v := .int .i64 (j : Int)) rfl (exec_move rfl rfl) ?_
      simp only [Act.put, zzA, zz0, zz1]
      refine wR (v := fmV m) rfl (gx_loads rfl rfl (blk_range HB4.out) Tryz.underlying24 rfl (by rw [size_form]; rfl)) ?_
      simp only [Act.put, zzA, zz0, zz1]
      refine wR (v := .pointer (some ⟨gf, j * 3, none⟩)) rfl (gx_iaddr (i := j) (sz := 3) rfl rfl rfl Tryz.underlying144 size_form HLT.out (by omega)) ?_
      simp only [Act.put, zzA, zz0, zz1]
      obtain ⟨C4, hC4, hsz4, hall4⟩ := HF4.out
      refine wpList_store_mid rfl 24 (.tmp 41) (.tmp 40) rfl #[.int .i64 m.kind, .int .i64 m.size, .int .i64 m.code] hC4 rfl rfl (show j * 3 + 3 ≤ C4.size from by have := HLT.out; omega) (by rw [size_form]; rfl) (fm3_one _ _ _) ?_
      intro w5 C5 hb5 hs5 hc5 hu5
      have HF5 := Lib.hid (show Fms w5 gf d n l (j + 1) from ⟨C5, hb5, by omega, fun i no2 hi hno2 => by
        by_cases hij : i < j
        · obtain ⟨m2, q0, q1, q2, q3⟩ := hall4 i no2 hij hno2
          refine ⟨m2, q0, ?_, ?_, ?_⟩
          · rw [hc5, if_neg (by omega)]; exact q1
          · rw [hc5, if_neg (by omega)]; exact q2
          · rw [hc5, if_neg (by omega)]; exact q3
        · have hij2 : i = j := by omega
          subst hij2
          have e2 : no2 = no := by
            have := HNO.out
            rw [hno2] at this
            exact Option.some.inj this
          subst e2
          refine ⟨m, HM.out, ?_, ?_, ?_⟩
          · rw [hc5, if_pos ⟨by omega, by simp; try omega⟩, Nat.sub_self]; rfl
          · rw [hc5, if_pos ⟨by omega, by simp; try omega⟩, show i * 3 + 1 - i * 3 = 1 from by omega]; rfl
          · rw [hc5, if_pos ⟨by omega, by simp; try omega⟩, show i * 3 + 2 - i * 3 = 2 from by omega]; rfl⟩)
      have HR5 := Lib.hid (HR4.out.next hu5)
      clear hC4 hsz4 hall4 hb5 hs5 hc5 hu5 HF4 HR4
      simp only [Act.put, zzA, zz0, zz1]
      go_wp2_with fail
      go_roundg (gk - 1)
      case measure => have := HJL.out; have := HLT.out; omega
      case rel => exact ⟨j + 1, by have := HJL.out; have := HLT.out; omega, by go_num, HF5.out, HR5.out⟩
  · have y1 : ¬ ((j : Int) < (n : Int)) := by omega
    have hjn : j = n := by have := HJL.out; omega
    have HAF := Lib.hid (show fsR d l b = takeFs d l b from by
      unfold fsR
      rw [if_pos]
      unfold allForms
      rw [List.all_eq_true]
      intro x hx
      obtain ⟨i, hi⟩ := List.mem_iff_getElem?.1 hx
      obtain ⟨C, _, _, h⟩ := HFM.out
      obtain ⟨m, hm, _⟩ := h i x (by have := (List.getElem?_eq_some_iff.1 hi).1; have := HN.out; omega) hi
      rw [hm]
      rfl)
    have HFA : Hid (Fms wr gf d n l n) := Lib.hid (by rw [← hjn]; rw [hjn]; have := HFM.out; rw [hjn] at this; exact this)
    clear hlt hjn HFM HJL
    go_upto_region 10 with fail
    refine wp_region_lit ?_
    refine wR (v := .slice A n c) rfl (exec_move rfl rfl) ?_
    simp only [Act.put, zzA, zz0, zz1]
    refine wR (v := .int .i64 (n : Int)) rfl (gx_len rfl rfl Tryz.underlying75) ?_
    simp only [Act.put, zzA, zz0, zz1]
    refine wR (v := .slice (some ⟨wr.heap.size, 0, none⟩) n n) (w' := wr.alloc (.cells (madeCells #[.int .i64 0, strV []] (n * 2)) 46)) rfl (gx_make rfl rfl rfl (make_fields n HN2.out wr)) ?_
    simp only [Act.put, zzA, zz0, zz1]
    refine wR (v := .slice (some ⟨wr.heap.size, 0, none⟩) n n) rfl (gx_assign rfl rfl) ?_
    simp only [Act.put, zzA, zz0, zz1]
    have hms : (madeCells #[.int .i64 0, strV []] (n * 2)).size = n * 2 := size_madeCells _ _
    generalize madeCells #[.int .i64 0, strV []] (n * 2) = CS at *
    have hbF := Blk.new wr 46 CS
    have huF := (Turn.refl nowhere wr).alloc (.cells CS 46)
    obtain ⟨gF, hgF⟩ : ∃ gF, gF = wr.heap.size := ⟨_, rfl⟩
    rw [← hgF] at hbF ⊢
    have HGFF := Lib.hid (show w.heap.size ≤ gF from by rw [hgF]; exact HTW.out.size)
    have HGF0 := Lib.hid (show w0.heap.size ≤ gF from by rw [hgF]; exact HT0.out.size)
    have HNGF := Lib.hid (show g ≠ gF from by
      obtain ⟨_, _, _, h, _⟩ := HR.out.still HTW.out
      have := h.lt
      omega)
    have HNFF := Lib.hid (show gf ≠ gF from by
      obtain ⟨_, h, _⟩ := HFA.out
      have := h.lt
      omega)
    clear hgF
    generalize wr.alloc (.cells CS 46) = w3 at *
    have HU3 := Lib.hid (HTW.out.next huF)
    have HR3 := Lib.hid (HR.out.still HU3.out)
    have HF3 := Lib.hid (HFA.out.turn huF (fun e => e))
    have HB3 := Lib.hid (show ∃ C, Blk w3 gF 46 C ∧ C.size = n * 2 from ⟨CS, hbF, hms⟩)
    clear hbF huF hms HTW HT0 HTR HFA HF1 HU1
    go_wp2_with fail
    go_loopg [48] n (fun gk jv wr => ∃ (j : Nat) (fs : List Fld) (bj : List UInt8) (C : Array Value), j + gk = n ∧ jv = .int .i64 (j : Int) ∧ fs.length = j ∧ Blk wr gF 46 C ∧ C.size = n * 2 ∧ (∀ i f, fs[i]? = some f → C[i * 2]? = some (.int .i64 f.1) ∧ C[i * 2 + 1]? = some (strV f.2)) ∧ contF fs (takeFs d (l.drop j) bj) = takeFs d l b ∧ Rd w0 wr g d bj ∧ Fms wr gf d n l n ∧ Turn (only g) w wr)
    case atStart =>
      obtain ⟨C, h1, h2⟩ := HB3.out
      refine ⟨0, [], b, C, by omega, rfl, rfl, h1, h2, fun i f hf => by simp at hf, ?_, HR3.out, HF3.out, still_only HU3.out⟩
      show contF [] (takeFs d l b) = takeFs d l b
      cases takeFs d l b with
      | error e => rfl
      | ok p => rfl
    obtain ⟨j, fs, bj, C, hjl, rfl, hfl, hbC, hCs, hCa, hco, hrd, hfm, htr⟩ := hrel
    have HJL := Lib.hid hjl
    have HFL := Lib.hid hfl
    have HBC := Lib.hid hbC
    have HCS := Lib.hid hCs
    have HCA := Lib.hid hCa
    have HCO := Lib.hid hco
    have HRD := Lib.hid hrd
    have HFM := Lib.hid hfm
    have HTR := Lib.hid htr
    have HT0 := Lib.hid (above H0.out HG0.out htr)
    clear hjl hfl hbC hCs hCa hco hrd hfm htr
    by_cases hlt : j < n
    · have y1 : (j : Int) < (n : Int) := by omega
      have HLT := Lib.hid hlt
      obtain ⟨no, hno⟩ : ∃ no, l[j]? = some no := ⟨_, List.getElem?_eq_getElem (show j < l.length from by rw [HN.out]; exact hlt)⟩
      have hir := irow_turn HL.out HTR.out (fun k hk e => by
        obtain ⟨_, _, _, hg, _⟩ := HR.out
        exact irow_ne HL.out hg (by decide) k hk e)
      obtain ⟨gl, rfl, cno⟩ := irow_cell hir hno
      obtain ⟨m, hm⟩ : ∃ m, mform d no = some m := by
        obtain ⟨_, _, _, h⟩ := HFM.out
        obtain ⟨m, hm, _⟩ := h j no hlt hno
        exact ⟨m, hm⟩
      have HM := Lib.hid hm
      have HRG := Lib.hid (HFM.out.range hlt hno hm)
      have HAT := Lib.hid (takeFs_at hno hm HCO.out)
      clear hlt hno hir hm
      go_upto_region 13 with fail
      refine wp_region_lit ?_
      refine wR (v := .int .i64 (j : Int)) rfl (exec_move rfl rfl) ?_
      simp only [Act.put, zzA, zz0, zz1]
      refine wR (v := .pointer (some ⟨gl, j, none⟩)) rfl (gx_iaddr (i := j) (sz := 1) rfl rfl rfl Tryz.underlying75 (by kernel_rfl) HLT.out (by omega)) ?_
      simp only [Act.put, zzA, zz0, zz1]
      refine wR (v := .int .i64 no) rfl (exec_load1 rfl rfl (by kernel_rfl) cno) ?_
      simp only [Act.put, zzA, zz0, zz1]
      refine wR (v := .int .i64 (j : Int)) rfl (gx_assign rfl rfl) ?_
      simp only [Act.put, zzA, zz0, zz1]
      refine wR (v := .int .i64 no) rfl (gx_assign rfl rfl) ?_
      simp only [Act.put, zzA, zz0, zz1]
      clear cno
      go_upto_region 14 with fail
      refine wp_region_lit ?_
      refine wR (v := .pointer (some ⟨g, 0, none⟩)) rfl (exec_move rfl rfl) ?_
      simp only [Act.put, zzA, zz0, zz1]
      refine wR (v := .int .i64 no) rfl (exec_move rfl rfl) ?_
      simp only [Act.put, zzA, zz0, zz1]
      refine wR (v := .slice (some ⟨gf, 0, none⟩) n n) rfl (exec_move rfl rfl) ?_
      simp only [Act.put, zzA, zz0, zz1]
      refine wR (v := .int .i64 (j : Int)) rfl (exec_move rfl rfl) ?_
      simp only [Act.put, zzA, zz0, zz1]
      refine wR (v := .pointer (some ⟨gf, j * 3, none⟩)) rfl (gx_iaddr (i := j) (sz := 3) rfl rfl rfl Tryz.underlying144 size_form HLT.out (by omega)) ?_
      simp only [Act.put, zzA, zz0, zz1]
      refine wR (v := fmV m) rfl (gx_loads rfl rfl HRG.out Tryz.underlying24 rfl (by rw [size_form]; rfl)) ?_
      simp only [Act.put, zzA, zz0, zz1]
      refine wpList_op rfl fun K9 HK9 => ?_
      go_wp2_with fail
      refine (mtake_walk (s := s) (no := no) (f := m) HE.out HT0.out HG0.out HRD.out).mono ?_
      rintro e w5 ⟨rfl, hr5, ho5, h5⟩
      refine HK9.out _ _ ?_
      clear HK9
      try simp only [Act.put, zzA, zz0, zz1]
      have HR5 := Lib.hid hr5
      have HT5 := Lib.hid (only_trans HTR.out ho5)
      have H5 := Lib.hid h5
      have HF5 := Lib.hid (HFM.out.turn ho5 (fun e => by
        have e : gf = g := e
        exact HNG.out e.symm))
      have HB5 := Lib.hid (HBC.out.turn ho5 (fun e => by
        have e : gF = g := e
        exact HNGF.out e.symm))
      clear hr5 ho5 h5 HRG HRD HFM HBC HTR HT0
      cases hk : m.take bj with
      | error k =>
        obtain ⟨k1, s1, hm1, hk1, hs1, _⟩ := form_nf HM.out
        have hk4 : k = 42 ∨ k = 43 := take_err (k := k1) (s := s1) (c := d) (may_nf hk1 HD.out hs1) (by rw [← hm1]; exact hk)
        have HK := Lib.hid hk4
        have HX := Lib.hid (show fsR d l b = .error k from by rw [HAF.out]; exact HAT.out.1 k hk)
        have HV := Lib.hid (errV_wrap (s := s) (no := no) hk4)
        obtain ⟨t9, x9, hv9⟩ := errV_some HV.out (by omega)
        rw [show tk (.error k) = (([] : List UInt8), ([] : List UInt8), k) from rfl]
        simp only []
        rw [hv9] at HV ⊢
        clear hk hk4 hv9 hm1 hk1 hs1
        refine wR (v := .tuple #[strV [], .iface t9 x9]) rfl (exec_move rfl rfl) ?_
        simp only [Act.put, zzA, zz0, zz1]
        refine wR (v := strV []) rfl (ix_extract rfl rfl rfl) ?_
        simp only [Act.put, zzA, zz0, zz1]
        refine wR (v := .iface t9 x9) rfl (ix_extract rfl rfl rfl) ?_
        simp only [Act.put, zzA, zz0, zz1]
        refine wR (v := strV []) rfl (gx_assign rfl rfl) ?_
        simp only [Act.put, zzA, zz0, zz1]
        refine wR (v := .iface t9 x9) rfl (gx_assign rfl rfl) ?_
        simp only [Act.put, zzA, zz0, zz1]
        go_wp2_with fail
        go_ret2
        unfold FsP
        rw [HX.out]
        exact ⟨⟨_, rfl, HV.out, by have := HK.out; omega⟩, HT5.out, H5.out⟩
      | ok p =>
        obtain ⟨t, rest⟩ := p
        have HX := Lib.hid (HAT.out.2 t rest hk)
        have HTL := Lib.hid (show t.length ≤ 130 from by
          obtain ⟨k1, s1, hm1, hk1, hs1, _⟩ := form_nf HM.out
          obtain ⟨h1, _⟩ := fm_one (k := k1) (s := s1) (c := d) hk1 HD.out hs1 (by rw [← hm1]; exact hk)
          exact right_small hk1 hs1 h1)
        have HR6 : Hid (Rd w0 w5 g d rest) := Lib.hid (by have := HR5.out; rw [hk] at this; exact this)
        rw [show wrapV s no (tk (.ok (t, rest))).2.2 = .nilIface from rfl, show (tk (.ok (t, rest))).1 = t from rfl]
        obtain ⟨Ar, nr, cr, hgr, _⟩ := id HR6.out
        have HGR := Lib.hid hgr
        clear hk HR5 hgr
        refine wR (v := .tuple #[strV t, .nilIface]) rfl (exec_move rfl rfl) ?_
        simp only [Act.put, zzA, zz0, zz1]
        refine wR (v := strV t) rfl (ix_extract rfl rfl rfl) ?_
        simp only [Act.put, zzA, zz0, zz1]
        refine wR (v := .nilIface) rfl (ix_extract rfl rfl rfl) ?_
        simp only [Act.put, zzA, zz0, zz1]
        refine wR (v := strV t) rfl (gx_assign rfl rfl) ?_
        simp only [Act.put, zzA, zz0, zz1]
        refine wR (v := .nilIface) rfl (gx_assign rfl rfl) ?_
        simp only [Act.put, zzA, zz0, zz1]
        go_upto_region 17 with fail
        refine wp_region_lit ?_
        refine wR (v := .slice (some ⟨gF, 0, none⟩) n n) rfl (exec_move rfl rfl) ?_
        simp only [Act.put, zzA, zz0, zz1]
        refine wR (v := .int .i64 (j : Int)) rfl (exec_move rfl rfl) ?_
        simp only [Act.put, zzA, zz0, zz1]
        refine wR (v := .int .i64 no) rfl (exec_move rfl rfl) ?_
        simp only [Act.put, zzA, zz0, zz1]
        refine wR (v := .pointer (some ⟨g, 0, none⟩)) rfl (exec_move rfl rfl) ?_
        simp only [Act.put, zzA, zz0, zz1]
        refine wR (v := .pointer (some ⟨g, 0, none⟩)) rfl (exec_nil rfl rfl) ?_
        simp only [Act.put, zzA, zz0, zz1]
        refine wR (v := .pointer (some ⟨g, 0, none⟩)) rfl (exec_field (off := 0) (d := 0) rfl rfl (by kernel_rfl)) ?_
        simp only [Act.put, zzA, zz0, zz1]
        refine wR (v := tongV d) rfl (gx_loads rfl rfl (rd_range HGR.out) Tryz.underlying51 rfl (by rw [size_tongue]; rfl)) ?_
        simp only [Act.put, zzA, zz0, zz1]
        refine wR (v := .int .i64 no) rfl (exec_move rfl rfl) ?_
        simp only [Act.put, zzA, zz0, zz1]
        refine wpList_op rfl fun K9 HK9 => ?_
        go_wp2_with fail
        refine (unsaid_walk d no _).mono ?_
        rintro e w6 ⟨rfl, ht6⟩
        refine HK9.out _ _ ?_
        clear HK9
        try simp only [Act.put, zzA, zz0, zz1]
        refine wR (v := strV t) rfl (exec_move rfl rfl) ?_
        simp only [Act.put, zzA, zz0, zz1]
        refine wR (v := strV (unsaid d no ++ t)) rfl (exec_sadd rfl rfl rfl (by have := HTL.out; rcases unsaid_len d no with h | ⟨h, _⟩ <;> rw [h] <;> simp only [List.length_nil, List.length_cons] <;> omega)) ?_
        simp only [Act.put, zzA, zz0, zz1]
        refine wR (v := .agg (fldA (no, unsaid d no ++ t))) rfl (gx_build2 rfl rfl rfl (build_fld _ _ _)) ?_
        simp only [Act.put, zzA, zz0, zz1]
        refine wR (v := .pointer (some ⟨gF, j * 2, none⟩)) rfl (gx_iaddr (i := j) (sz := 2) rfl rfl rfl Tryz.underlying29 size_field HLT.out (by omega)) ?_
        simp only [Act.put, zzA, zz0, zz1]
        have HB6 := Lib.hid (HB5.out.turn ht6 (fun e => e))
        have HT6 := Lib.hid (only_still HT5.out ht6)
        have HR7 := Lib.hid (HR6.out.still ht6)
        have HF6 := Lib.hid (HF5.out.turn ht6 (fun e => e))
        clear ht6 HB5 HT5 HR6 HF5 HGR
        refine wpList_store_mid rfl 46 (.tmp 78) (.tmp 77) rfl (fldA (no, unsaid d no ++ t)) HB6.out rfl rfl (show j * 2 + 2 ≤ C.size from by have := HLT.out; have := HCS.out; omega) (by rw [size_field]; rfl) (fldA_one _) ?_
        intro w7 C7 hb7 hs7 hc7 hu7
        have HB7 := Lib.hid hb7
        have HS7 := Lib.hid (show C7.size = n * 2 from by rw [hs7]; exact HCS.out)
        have HC7 := Lib.hid (show ∀ i f, (fs ++ [(no, unsaid d no ++ t)])[i]? = some f → C7[i * 2]? = some (.int .i64 f.1) ∧ C7[i * 2 + 1]? = some (strV f.2) from fun i f hf => by
          by_cases hij : i < fs.length
          · rw [List.getElem?_append_left hij] at hf
            obtain ⟨q1, q2⟩ := HCA.out i f hf
            have := HFL.out
            exact ⟨by rw [hc7, if_neg (by omega)]; exact q1, by rw [hc7, if_neg (by omega)]; exact q2⟩
          · have hfl := HFL.out
            have hil := (List.getElem?_eq_some_iff.1 hf).1
            rw [List.length_append] at hil
            have hij2 : i = j := by have := HFL.out; simp at hil; omega
            subst hij2
            rw [List.getElem?_append_right (by omega), show i - fs.length = 0 from by omega] at hf
            simp only [List.getElem?_cons_zero, Option.some.injEq] at hf
            subst hf
            have hsz : (fldA (no, unsaid d no ++ t)).size = 2 := rfl
            refine ⟨?_, ?_⟩
            · rw [hc7, if_pos ⟨by omega, by omega⟩, Nat.sub_self]; rfl
            · rw [hc7, if_pos ⟨by omega, by omega⟩, show i * 2 + 1 - i * 2 = 1 from by omega]; rfl)
        have HR8 := Lib.hid (show Rd w0 w7 g d rest from rd_turn HR7.out hu7 HNGF.out HGF0.out HB6.out (by decide))
        have HF7 := Lib.hid (HF6.out.turn hu7 (fun e => HNFF.out e))
        have HT7 := Lib.hid (show Turn (only g) w w7 from HT6.out.trans hu7 (fun k hk e => by
          have := HGFF.out
          have e : k = gF := e
          omega))
        clear hb7 hs7 hc7 hu7 HB6 HT6 HR7 HF6
        simp only [Act.put, zzA, zz0, zz1]
        go_wp2_with fail
        go_roundg (gk - 1)
        case measure => have := HJL.out; have := HLT.out; omega
        case rel => exact ⟨j + 1, _, rest, C7, by have := HJL.out; have := HLT.out; omega, by go_num, by rw [List.length_append]; have := HFL.out; simp; omega, HB7.out, HS7.out, HC7.out, HX.out, HR8.out, HF7.out, HT7.out⟩
    · have y1 : ¬ ((j : Int) < (n : Int)) := by omega
      have hjn : j = n := by have := HJL.out; omega
      have HX := Lib.hid (show fsR d l b = .ok (fs, bj) from by
        have h := HCO.out
        rw [List.drop_eq_nil_iff.2 (by rw [HN.out]; omega)] at h
        rw [HAF.out, ← h]
        show contF fs (.ok ([], bj)) = _
        simp [contF])
      have HFN := Lib.hid (show fs.length = n from by rw [HFL.out, hjn])
      clear hlt hjn
      go_wp2_with fail
      go_ret2
      unfold FsP
      rw [HX.out]
      refine ⟨⟨gF, by rw [HFN.out]; rfl, ⟨rfl, by rw [HFN.out]; have := HN2.out; omega, fun _ => ⟨gF, 0, rfl, fun i f hf k u hk => ?_⟩⟩, HGF0.out, HGFF.out, HRD.out⟩, HTR.out, HT0.out⟩
      obtain ⟨q1, q2⟩ := HCA.out i f hf
      rw [HBC.out.cell]
      match k, hk with
      | 0, hk => injection hk with hk; subst hk; rw [Nat.zero_add]; exact q1
      | 1, hk => injection hk with hk; subst hk; rw [Nat.zero_add]; exact q2
end Go.Proofs.YtkbdijkoedmgnaaGreatDoor
namespace Go.Proofs.YtkbdijkoedmgnaaGreatDoor
open Go.RowKit
open Fdd
set_option linter.unusedVariables false
set_option linter.unusedSimpArgs false
theorem zero_msg (w : World) : (zeroValue 31).run Tryz.prog w = .ok (.agg #[.int .i64 0, .slice none 0 0]) w := by kernel_rfl
theorem build_msg0 (W : World) : (Instr.build 31 #[]).run Tryz.prog W = .ok (.agg #[.int .i64 0, .slice none 0 0]) W := by kernel_rfl
theorem zero_rd (w : World) : (zeroValue 98).run Tryz.prog w = .ok (.agg #[.int .i64 0, strV [], strV [], .slice none 0 0]) w := by kernel_rfl
theorem build_rd (d m c : Nat) (A : Option Addr) (W : World) : (Instr.build 98 #[(0, tongV d), (1, .slice A m c)]).run Tryz.prog W = .ok (.agg (rdA d (.slice A m c))) W := by kernel_rfl
theorem size_rd : (Tryz.prog.info? 98).map (·.size) = some 4 := by kernel_rfl
theorem msg0_one : ∀ v ∈ (#[.int .i64 0, .slice none 0 0] : Array Value).toList, v.oneCell' = true := fun v hv => by
  simp only [List.mem_cons, List.not_mem_nil, or_false] at hv
  rcases hv with rfl | rfl <;> rfl
theorem msgA_one (ty : Int) (A : Option Addr) (n c : Nat) : ∀ v ∈ (#[.int .i64 ty, .slice A n c] : Array Value).toList, v.oneCell' = true := fun v hv => by
  simp only [List.mem_cons, List.not_mem_nil, or_false] at hv
  rcases hv with rfl | rfl <;> rfl
theorem rdA_one (d m c : Nat) (A : Option Addr) : ∀ v ∈ (rdA d (.slice A m c)).toList, v.oneCell' = true := fun v hv => by
  unfold rdA at hv
  simp only [List.mem_cons, List.not_mem_nil, or_false] at hv
  rcases hv with rfl | rfl | rfl | rfl <;> rfl
theorem gx_min {a : Act} {o : Oper} {W : World} {x y : Operand} {t1 t2 : TypeId} {n m : Nat} {r : Nat} (ho : o.op = .call { callee := .builtin .min, args := #[x, y], argTypes := #[t1, t2] }) (hx : a.eval x = .int .i64 (n : Int)) (hy : a.eval y = .int .i64 (m : Int)) (hr : r = min n m) : (execOp a.eval o).run Tryz.prog W = .ok (.value (.int .i64 (r : Int))) W := by
  have e : (if m < n then (m : Int) else (n : Int)) = (r : Int) := by split <;> omega
  unfold execOp
  simp [ho, hx, hy, resolve, invoke, builtin, Builtin.min_, Builtin.min2, Result.andThen, e]
theorem bs_take8 {W : World} {A : Option Addr} {n i : Nat} {l : List UInt8} (h : Bs W A n l) (hi : i ≤ n) : Bs W A i (l.take i) := by
  obtain ⟨h1, h2, h3⟩ := h
  refine ⟨by rw [List.length_take]; omega, Nat.le_trans hi h2, fun h0 => ?_⟩
  obtain ⟨b, off, rfl, hc⟩ := h3 (by omega)
  refine ⟨b, off, rfl, fun j hj => ?_⟩
  rw [hc j (by omega)]
  have : (l.take i).getD j 0 = l.getD j 0 := by
    simp only [List.getD_eq_getElem?_getD, List.getElem?_take]
    rw [if_pos hj]
  rw [this]
theorem bs_low {W : World} {A : Option Addr} {n : Nat} {l : List UInt8} (h : Bs W A n l) (hn : 0 < n) : ∀ b9 o9 s9, A = some ⟨b9, o9, s9⟩ → b9 < W.heap.size := fun b9 o9 s9 e => by
  obtain ⟨b, off, e2, hc⟩ := h.2.2 hn
  rw [e2] at e
  cases e
  exact World.block_lt_of_cell? _ _ (hc 0 hn)
theorem takeMap_cap {d : Nat} {b r : List UInt8} {l : List Int} (h : takeMap d b = .ok (l, r)) : l.length ≤ 200 := by
  unfold takeMap at h
  cases h1 : takeHalf d b with
  | error e => rw [h1] at h; cases h
  | ok p =>
    obtain ⟨h9, r1⟩ := p
    rw [h1] at h
    simp only [] at h
    split at h
    · injection h with h
      injection h with h h2
      have := nums_len h9 0
      rw [← h]
      omega
    · cases h3 : takeHalf d r1 with
      | error e => rw [h3] at h; cases h
      | ok p =>
        obtain ⟨h8, r2⟩ := p
        rw [h3] at h
        simp only [] at h
        split at h
        · cases h
        · injection h with h
          injection h with h h2
          have a1 := nums_len (h9 % 2 ^ 63) 0
          have a2 := nums_len h8 64
          rw [← h, List.length_append]
          omega
def DecP (s : Sents) (r : Except Int (Int × List Fld)) (w : World) (e : Ending) (w' : World) : Prop :=
  (match r with
    | .ok (ty, fs) => ∃ gF, e = .returned (.tuple #[msgV ty (some ⟨gF, 0, none⟩) fs.length fs.length, .nilIface]) ∧ Fl w' (some ⟨gF, 0, none⟩) fs.length fs ∧ w.heap.size ≤ gF
    | .error k => ∃ v, e = .returned (.tuple #[msgV 0 none 0 0, v]) ∧ ErrV s v k ∧ k ≠ 0) ∧ Turn nowhere w w'
theorem decP_err {s : Sents} {r : Except Int (Int × List Fld)} {k : Int} {w w' : World} {v : Value} (hr : r = .error k) (hv : ErrV s v k) (hk : k ≠ 0) (ht : Turn nowhere w w') : DecP s r w (.returned (.tuple #[msgV 0 none 0 0, v])) w' := by
  subst hr
  exact ⟨⟨v, rfl, hv, hk⟩, ht⟩
set_option maxRecDepth 20000 in
set_option maxHeartbeats 1000000 in
theorem decode_walk {s : Sents} {w : World} {dd : Int} {A : Option Addr} {n c : Nat} {b : List UInt8} (he : Env s w) (hbs : Bs w A n b) (hnc : n ≤ c) (hnm : n ≤ 140737488355328) :
    Calls Tryz.prog 38 #[.int .i64 dd, .slice A n c] w (DecP s (mdecode dd b) w) := by
  have hu := (Turn.refl nowhere w).alloc (.cells #[.int .i64 0, .slice none 0 0] 31)
  have hb := Blk.new w 31 #[.int .i64 0, .slice none 0 0]
  obtain ⟨gr, hgr⟩ : ∃ gr, gr = w.heap.size := ⟨_, rfl⟩
  rw [← hgr] at hb
  have HGRE := Lib.hid hgr
  have HGR := Lib.hid (show w.heap.size ≤ gr from by omega)
  have HE := Lib.hid he
  have HBS := Lib.hid hbs
  have HNC := Lib.hid hnc
  have HNM := Lib.hid hnm
  have HU := Lib.hid hu
  have HB := Lib.hid hb
  clear he hbs hnc hnm hu hb hgr
  go_enter Tryz.func38, Tryz.ntmps38
  go_upto_region 1 with fail
  have e2 := HGRE.out
  rw [← e2]
  clear e2 HGRE
  change Code.wp _ _ _ _ (w.alloc (.cells #[.int .i64 0, .slice none 0 0] 31))
  generalize World.alloc w (.cells #[.int .i64 0, .slice none 0 0] 31) = w1 at *
  refine wp_region_lit ?_
  refine wR (v := .int .i64 dd) rfl (exec_move rfl rfl) ?_
  simp only [Act.put, zzA, zz0, zz1]
  by_cases hd : 1 ≤ dd ∧ dd ≤ 3
  · obtain ⟨d, hdn⟩ : ∃ d : Nat, dd = (d : Int) := ⟨dd.toNat, by omega⟩
    subst hdn
    have hd2 : 1 ≤ d ∧ d ≤ 3 := by omega
    have HD := Lib.hid hd2
    have HX := Lib.hid (show mdecode (d : Int) b = match takeType d (b.take 512) with
      | .error e => .error e
      | .ok (ty, b1) => match takeMap d b1 with
        | .error e => .error e
        | .ok (l, b2) => match fsR d l b2 with
          | .error e => .error e
          | .ok (fs, b3) => if b3 = [] then .ok (ty, fs) else .error 54 from by
      unfold mdecode fsR
      rw [if_pos hd, Int.toNat_natCast]
      cases takeType d (b.take 512) with
      | error e => rfl
      | ok p =>
        obtain ⟨ty, b1⟩ := p
        simp only []
        cases takeMap d b1 with
        | error e => rfl
        | ok p =>
          obtain ⟨l, b2⟩ := p
          simp only []
          by_cases hl : allForms d l = true
          · rw [if_pos hl, if_pos hl]
            cases takeFs d l b2 <;> rfl
          · rw [if_neg hl, if_neg hl])
    clear hd hd2
    refine wpList_op rfl fun K9 HK9 => ?_
    go_wp2_with fail
    refine (tongueOf_ok (s := s) HD.out (HE.out.turn HU.out).tab).mono ?_
    rintro e w2 ⟨rfl, ht2⟩
    refine HK9.out _ _ ?_
    clear HK9
    try simp only [Act.put, zzA, zz0, zz1]
    have HU2 := Lib.hid (HU.out.next ht2)
    have HB2 := Lib.hid (HB.out.turn ht2 (fun e => e))
    clear ht2 HB HU
    refine wR (v := .tuple #[tongV d, .nilIface]) rfl (exec_move rfl rfl) ?_
    simp only [Act.put, zzA, zz0, zz1]
    refine wR (v := tongV d) rfl (ix_extract rfl rfl rfl) ?_
    simp only [Act.put, zzA, zz0, zz1]
    refine wR (v := .nilIface) rfl (ix_extract rfl rfl rfl) ?_
    simp only [Act.put, zzA, zz0, zz1]
    refine wR (v := .pointer (some ⟨w2.heap.size, 0, none⟩)) (w' := w2.alloc (.cells #[.int .i64 0, strV [], strV []] 51)) rfl (gx_alloc rfl (zero_tongue _)) ?_
    simp only [Act.put, zzA, zz0, zz1]
    have hb8 := Blk.new w2 51 #[.int .i64 0, strV [], strV []]
    have hu8 := HU2.out.alloc (.cells #[.int .i64 0, strV [], strV []] 51)
    have hbm8 := HB2.out.alloc (.cells #[.int .i64 0, strV [], strV []] 51)
    obtain ⟨bt, hbt⟩ : ∃ bt, bt = w2.heap.size := ⟨_, rfl⟩
    rw [← hbt] at hb8 ⊢
    have HG8 := Lib.hid (show w.heap.size ≤ bt from by rw [hbt]; exact HU2.out.size)
    have HN8 := Lib.hid (show gr ≠ bt from by have := HB2.out.lt; omega)
    clear hbt
    generalize w2.alloc (.cells #[.int .i64 0, strV [], strV []] 51) = w5 at *
    refine wpList_store_row rfl 51 (.tmp 6) (.tmp 14) rfl (tongA d) hb8 rfl rfl rfl (by rw [size_tongue]; rfl) (tongA_one d) ?_
    intro w6 hb6 hu6
    have HBT := Lib.hid hb6
    have HBM := Lib.hid (hbm8.turn hu6 (fun e => HN8.out e))
    have HU6 := Lib.hid (hu8.trans hu6 (fun k hk e => by
      have := HG8.out
      have e : k = bt := e
      omega))
    clear hb8 hu8 hbm8 hb6 hu6 HB2 HU2
    simp only [Act.put, zzA, zz0, zz1]
    refine wR (v := .nilIface) rfl (gx_assign rfl rfl) ?_
    simp only [Act.put, zzA, zz0, zz1]
    obtain ⟨m, hm⟩ : ∃ m, m = min n 512 := ⟨_, rfl⟩
    have HM := Lib.hid hm
    have HMN := Lib.hid (show m ≤ n from by omega)
    have HBS5 := Lib.hid (show Bs w A m (b.take 512) from by
      have h := bs_take8 HBS.out (show m ≤ n from by omega)
      have e : b.take 512 = b.take m := by
        have := HBS.out.1
        rw [List.take_eq_take_min, show min 512 b.length = m from by omega]
      rw [e]
      exact h)
    clear hm
    go_upto_region 4 with fail
    have hS0 : Blk w6.drew bt 51 (tongA d) := HBT.out.drew
    have HBMd := Lib.hid HBM.out.drew
    have HUd := Lib.hid HU6.out.drew
    clear HBT HBM HU6
    refine wp_region_alw (fun W => Blk W bt 51 (tongA d)) (by kernel_rfl) ?_
    generalize w6.drew = w7 at *
    refine alw_take (i := 0) (v := tongV d) rfl (by kernel_rfl) (by kernel_rfl) (fun _ _ _ h => h) (.inl ⟨by rfl, fun W hW => gx_loads rfl rfl (blk_range hW) Tryz.underlying51 rfl (by rw [size_tongue]; rfl)⟩) hS0 ?_
    simp only [Act.put, zzA, zz0, zz1]
    refine alw_take (i := 1) (v := .slice A n c) rfl (by kernel_rfl) (by kernel_rfl) (fun _ _ _ h => h) (.inl ⟨by rfl, fun W hW => exec_move rfl rfl⟩) hS0 ?_
    simp only [Act.put, zzA, zz0, zz1]
    refine alw_take (i := 2) (v := .slice A n c) rfl (by kernel_rfl) (by kernel_rfl) (fun _ _ _ h => h) (.inl ⟨by rfl, fun W hW => exec_move rfl rfl⟩) hS0 ?_
    simp only [Act.put, zzA, zz0, zz1]
    refine alw_take (i := 3) (v := .int .i64 (n : Int)) rfl (by kernel_rfl) (by kernel_rfl) (fun _ _ _ h => h) (.inl ⟨by rfl, fun W hW => gx_len rfl rfl Tryz.underlying32⟩) hS0 ?_
    simp only [Act.put, zzA, zz0, zz1]
    refine alw_take (i := 4) (v := .int .i64 (m : Int)) rfl (by kernel_rfl) (by kernel_rfl) (fun _ _ _ h => h) (.inl ⟨by rfl, fun W hW => gx_min (n := n) (m := 512) rfl rfl rfl HM.out⟩) hS0 ?_
    simp only [Act.put, zzA, zz0, zz1]
    refine alw_take (i := 5) (v := .slice A m c) rfl (by kernel_rfl) (by kernel_rfl) (fun _ _ _ h => h) (.inl ⟨by rfl, fun W hW => exec_slice rfl rfl rfl rfl rfl (slice_to_any A n c m HMN.out HNC.out W)⟩) hS0 ?_
    simp only [Act.put, zzA, zz0, zz1]
    refine alw_take (i := 6) (v := .agg (rdA d (.slice A m c))) rfl (by kernel_rfl) (by kernel_rfl) (fun _ _ _ h => h) (.inl ⟨by rfl, fun W hW => gx_build2 rfl rfl rfl (build_rd d m c A _)⟩) hS0 ?_
    simp only [Act.put, zzA, zz0, zz1]
    refine alw_step (i := 7) (by kernel_rfl) rfl rfl ?_
    intro K1 HK1
    refine wp_run (v := .pointer (some ⟨w7.heap.size, 0, none⟩)) (w' := w7.alloc (.cells #[.int .i64 0, strV [], strV [], .slice none 0 0] 98)) (gx_alloc rfl (zero_rd _)) ?_
    have hb9 := Blk.new w7 98 #[.int .i64 0, strV [], strV [], .slice none 0 0]
    have hu9 := HUd.out.alloc (.cells #[.int .i64 0, strV [], strV [], .slice none 0 0] 98)
    have hbm9 := HBMd.out.alloc (.cells #[.int .i64 0, strV [], strV [], .slice none 0 0] 98)
    have hS1 := hS0.alloc (.cells #[.int .i64 0, strV [], strV [], .slice none 0 0] 98)
    refine HK1.out _ _ ⟨hS1, ?_⟩
    obtain ⟨gR, hgR⟩ : ∃ gR, gR = w7.heap.size := ⟨_, rfl⟩
    rw [← hgR] at hb9 ⊢
    have HGd := Lib.hid (show w.heap.size ≤ gR from by rw [hgR]; exact HUd.out.size)
    have HNR := Lib.hid (show gR ≠ gr from by have := HBMd.out.lt; omega)
    have HNT := Lib.hid (show bt ≠ gR from by have := hS0.lt; omega)
    clear hgR HK1 hS0 HBMd HUd
    generalize w7.alloc (.cells #[.int .i64 0, strV [], strV [], .slice none 0 0] 98) = w8 at *
    simp only [Act.put, zzA, zz0, zz1]
    refine alw_step (i := 8) (by kernel_rfl) rfl rfl ?_
    intro K1 HK1
    refine wp_store_rowU 98 (.tmp 8) (.tmp 26) rfl (rdA d (.slice A m c)) hb9 rfl rfl rfl (by rw [size_rd]; rfl) (rdA_one d m c A) ?_
    intro w9 hb10 hu10
    have HU9 := Lib.hid (above hu9 HGd.out hu10)
    have HR9 := Lib.hid (show Rd w w9 gR d (b.take 512) from ⟨A, m, c, hb10, bs_still HBS5.out HU9.out, by have := HMN.out; have := HNC.out; omega, by have := HMN.out; have := HNM.out; omega, fun hp b9 o9 s9 e => .inl (bs_low HBS5.out hp b9 o9 s9 e)⟩)
    have HB9 := Lib.hid (hbm9.turn hu10 (fun e => HNR.out e.symm))
    refine HK1.out _ _ ⟨hS1.turn hu10 (fun e => HNT.out e), ?_⟩
    clear HK1 hS1 hb9 hu9 hbm9 hb10 hu10 HM HMN HBS5 HBS HNC HNM
    simp only [Act.put, zzA, zz0, zz1]
    refine alw_done rfl ?_
    refine NoPanic.normal ?_
    go_upto_region 5 with fail
    refine wp_region_lit ?_
    refine wR (v := .pointer (some ⟨w9.heap.size, 0, none⟩)) (w' := w9.alloc (.cells #[.int .i64 0, .slice none 0 0] 31)) rfl (gx_alloc rfl (zero_msg _)) ?_
    simp only [Act.put, zzA, zz0, zz1]
    have hb11 := Blk.new w9 31 #[.int .i64 0, .slice none 0 0]
    have hu11 := (Turn.refl nowhere w9).alloc (.cells #[.int .i64 0, .slice none 0 0] 31)
    obtain ⟨gm, hgm⟩ : ∃ gm, gm = w9.heap.size := ⟨_, rfl⟩
    rw [← hgm] at hb11 ⊢
    have HGM := Lib.hid (show w.heap.size ≤ gm from by rw [hgm]; exact HU9.out.size)
    have HNM := Lib.hid (show gm ≠ gr from by have := HB9.out.lt; omega)
    have HNMR := Lib.hid (show gR ≠ gm from by
      obtain ⟨_, _, _, h, _⟩ := HR9.out
      have := h.lt
      omega)
    clear hgm
    generalize w9.alloc (.cells #[.int .i64 0, .slice none 0 0] 31) = w10 at *
    have HBM := Lib.hid hb11
    have HU := Lib.hid (HU9.out.next hu11)
    have HBR := Lib.hid (HB9.out.turn hu11 (fun e => e))
    have HR := Lib.hid (HR9.out.still hu11)
    clear hb11 hu11 HU9 HB9 HR9
    have hp1 := takeType_walk (s := s) HD.out HE.out HU.out HGd.out HR.out
    cases hk : takeType d (b.take 512) with
    | error k =>
      rw [hk] at hp1
      have HP := Lib.hid hp1
      have HX1 := Lib.hid (show mdecode (d : Int) b = .error k from by rw [HX.out, hk])
      clear hk hp1 HX HR
      go_upto_region 6 with fail
      refine wp_region_lit ?_
      refine wpList_op rfl fun K9 HK9 => ?_
      go_wp2_with fail
      refine (HP.out).mono ?_
      rintro e w2 ⟨⟨v, rfl, hv, hk0⟩, ho1, h1⟩
      refine HK9.out _ _ ?_
      clear HK9
      try simp only [Act.put, zzA, zz0, zz1]
      have HV := Lib.hid hv
      have HK := Lib.hid hk0
      obtain ⟨t9, x9, rfl⟩ := errV_some hv hk0
      have HU2 := Lib.hid h1
      have HB2 := Lib.hid (HBM.out.turn ho1 (fun e => HNMR.out e.symm))
      have HB3 := Lib.hid (HBR.out.turn ho1 (fun e => HNR.out e.symm))
      clear hv hk0 ho1 h1
      refine wR (v := .tuple #[.int .i64 0, .iface t9 x9]) rfl (exec_move rfl rfl) ?_
      simp only [Act.put, zzA, zz0, zz1]
      refine wR (v := .int .i64 0) rfl (ix_extract rfl rfl rfl) ?_
      simp only [Act.put, zzA, zz0, zz1]
      refine wR (v := .iface t9 x9) rfl (ix_extract rfl rfl rfl) ?_
      simp only [Act.put, zzA, zz0, zz1]
      refine wR (v := .pointer (some ⟨gm, 0, none⟩)) rfl (exec_field (off := 0) (d := 0) rfl rfl (by kernel_rfl)) ?_
      simp only [Act.put, zzA, zz0, zz1]
      refine wpList_store1 (v := .int .i64 0) rfl 3 (.tmp 31) (.tmp 29) rfl (i := 0) HB2.out rfl rfl (show 0 < 2 by decide) rfl rfl (by kernel_rfl) ?_
      intro hb3 hu3
      obtain ⟨w3, hwn⟩ : ∃ wn, wn = w2.setCell ⟨gm, 0, none⟩ (.int .i64 0) := ⟨_, rfl⟩
      rw [← hwn] at hb3 hu3 ⊢
      clear hwn
      have HU3 := Lib.hid (above HU2.out HGM.out hu3)
      have HBR3 := Lib.hid (HB3.out.turn hu3 (fun e => HNM.out e.symm))
      clear hb3 hu3 HB2 HB3 HU2 HBM HBR HU
      simp only [Act.put, zzA, zz0, zz1]
      refine wR (v := .iface t9 x9) rfl (gx_assign rfl rfl) ?_
      simp only [Act.put, zzA, zz0, zz1]
      go_upto_region 8 with fail
      refine wp_region_lit ?_
      refine wR (v := .agg #[.int .i64 0, .slice none 0 0]) rfl (exec_bld rfl (build_msg0 _)) ?_
      simp only [Act.put, zzA, zz0, zz1]
      refine wR (v := .iface t9 x9) rfl (exec_move rfl rfl) ?_
      simp only [Act.put, zzA, zz0, zz1]
      refine wpList_store_row rfl 31 (.tmp 4) (.tmp 34) rfl #[.int .i64 0, .slice none 0 0] HBR3.out rfl rfl rfl (by rw [size_msg]; rfl) msg0_one ?_
      intro wz hbz huz
      have HBZ := Lib.hid hbz
      have HUZ := Lib.hid (above HU3.out HGR.out huz)
      clear hbz huz
      simp only [Act.put, zzA, zz0, zz1]
      refine wR (v := .iface t9 x9) rfl (gx_assign rfl rfl) ?_
      simp only [Act.put, zzA, zz0, zz1]
      go_wp2_with fail
      refine bodyPost_ret (v := .tuple #[.agg #[.int .i64 0, .slice none 0 0], .iface t9 x9]) (ret_cell2 rfl _ _ gr _ _ _ rfl rfl HBZ.out Tryz.underlying31 rfl (by rw [size_msg]; rfl)) rfl ?_
      exact decP_err HX1.out HV.out HK.out HUZ.out
    | ok p =>
      obtain ⟨ty, b1⟩ := p
      rw [hk] at hp1
      have HP := Lib.hid hp1
      have HX1 := Lib.hid (show mdecode (d : Int) b = match takeMap d b1 with
        | .error e => .error e
        | .ok (l, b2) => match fsR d l b2 with
          | .error e => .error e
          | .ok (fs, b3) => if b3 = [] then .ok (ty, fs) else .error 54 from by rw [HX.out, hk])
      clear hk hp1 HX HR
      go_upto_region 6 with fail
      refine wp_region_lit ?_
      refine wpList_op rfl fun K9 HK9 => ?_
      go_wp2_with fail
      refine (HP.out).mono ?_
      rintro e w2 ⟨⟨rfl, hr2⟩, ho1, h1⟩
      refine HK9.out _ _ ?_
      clear HK9
      try simp only [Act.put, zzA, zz0, zz1]
      have HU2 := Lib.hid h1
      have HR2 := Lib.hid hr2
      have HB2 := Lib.hid (HBM.out.turn ho1 (fun e => HNMR.out e.symm))
      have HB3 := Lib.hid (HBR.out.turn ho1 (fun e => HNR.out e.symm))
      clear hr2 ho1 h1
      refine wR (v := .tuple #[.int .i64 ty, .nilIface]) rfl (exec_move rfl rfl) ?_
      simp only [Act.put, zzA, zz0, zz1]
      refine wR (v := .int .i64 ty) rfl (ix_extract rfl rfl rfl) ?_
      simp only [Act.put, zzA, zz0, zz1]
      refine wR (v := .nilIface) rfl (ix_extract rfl rfl rfl) ?_
      simp only [Act.put, zzA, zz0, zz1]
      refine wR (v := .pointer (some ⟨gm, 0, none⟩)) rfl (exec_field (off := 0) (d := 0) rfl rfl (by kernel_rfl)) ?_
      simp only [Act.put, zzA, zz0, zz1]
      refine wpList_store1 (v := .int .i64 ty) rfl 3 (.tmp 31) (.tmp 29) rfl (i := 0) HB2.out rfl rfl (show 0 < 2 by decide) rfl rfl (by kernel_rfl) ?_
      intro hb3 hu3
      obtain ⟨w3, hwn⟩ : ∃ wn, wn = w2.setCell ⟨gm, 0, none⟩ (.int .i64 ty) := ⟨_, rfl⟩
      rw [← hwn] at hb3 hu3 ⊢
      clear hwn
      have HU3 := Lib.hid (above HU2.out HGM.out hu3)
      have HBR3 := Lib.hid (HB3.out.turn hu3 (fun e => HNM.out e.symm))
      have HBM3 := Lib.hid (show Blk w3 gm 31 #[.int .i64 ty, .slice none 0 0] from hb3)
      have HR3 := Lib.hid (rd_turn HR2.out hu3 HNMR.out HGM.out HB2.out (by decide))
      clear hb3 hu3 HB2 HB3 HU2 HR2 HBM HBR HU HP
      simp only [Act.put, zzA, zz0, zz1]
      refine wR (v := .nilIface) rfl (gx_assign rfl rfl) ?_
      simp only [Act.put, zzA, zz0, zz1]
      have hp1 := takeMap_walk (s := s) HD.out HE.out HU3.out HGd.out HR3.out
      cases hk : takeMap d b1 with
      | error k =>
        rw [hk] at hp1
        have HP := Lib.hid hp1
        have HX2 := Lib.hid (show mdecode (d : Int) b = .error k from by rw [HX1.out, hk])
        clear hk hp1 HX1 HR3
        go_upto_region 9 with fail
        refine wp_region_lit ?_
        refine wpList_op rfl fun K9 HK9 => ?_
        go_wp2_with fail
        refine (HP.out).mono ?_
        rintro e w4 ⟨⟨v, rfl, hv, hk0⟩, ho1, h1⟩
        refine HK9.out _ _ ?_
        clear HK9
        try simp only [Act.put, zzA, zz0, zz1]
        have HV := Lib.hid hv
        have HK := Lib.hid hk0
        obtain ⟨t9, x9, rfl⟩ := errV_some hv hk0
        have H4U := Lib.hid h1
        have H4M := Lib.hid (HBM3.out.turn ho1 (fun e => HNMR.out e.symm))
        have H4R := Lib.hid (HBR3.out.turn ho1 (fun e => HNR.out e.symm))
        clear hv hk0 ho1 h1
        refine wR (v := .tuple #[.slice none 0 0, .iface t9 x9]) rfl (exec_move rfl rfl) ?_
        simp only [Act.put, zzA, zz0, zz1]
        refine wR (v := .slice none 0 0) rfl (ix_extract rfl rfl rfl) ?_
        simp only [Act.put, zzA, zz0, zz1]
        refine wR (v := .iface t9 x9) rfl (ix_extract rfl rfl rfl) ?_
        simp only [Act.put, zzA, zz0, zz1]
        refine wR (v := .slice none 0 0) rfl (gx_assign rfl rfl) ?_
        simp only [Act.put, zzA, zz0, zz1]
        refine wR (v := .iface t9 x9) rfl (gx_assign rfl rfl) ?_
        simp only [Act.put, zzA, zz0, zz1]
        go_upto_region 11 with fail
        refine wp_region_lit ?_
        refine wR (v := .agg #[.int .i64 0, .slice none 0 0]) rfl (exec_bld rfl (build_msg0 _)) ?_
        simp only [Act.put, zzA, zz0, zz1]
        refine wR (v := .iface t9 x9) rfl (exec_move rfl rfl) ?_
        simp only [Act.put, zzA, zz0, zz1]
        refine wpList_store_row rfl 31 (.tmp 4) (.tmp 42) rfl #[.int .i64 0, .slice none 0 0] H4R.out rfl rfl rfl (by rw [size_msg]; rfl) msg0_one ?_
        intro wz hbz huz
        have HBZ := Lib.hid hbz
        have HUZ := Lib.hid (above H4U.out HGR.out huz)
        clear hbz huz
        simp only [Act.put, zzA, zz0, zz1]
        refine wR (v := .iface t9 x9) rfl (gx_assign rfl rfl) ?_
        simp only [Act.put, zzA, zz0, zz1]
        go_wp2_with fail
        refine bodyPost_ret (v := .tuple #[.agg #[.int .i64 0, .slice none 0 0], .iface t9 x9]) (ret_cell2 rfl _ _ gr _ _ _ rfl rfl HBZ.out Tryz.underlying31 rfl (by rw [size_msg]; rfl)) rfl ?_
        exact decP_err HX2.out HV.out HK.out HUZ.out
      | ok p =>
        obtain ⟨l, b2⟩ := p
        have HCP := Lib.hid (takeMap_cap hk)
        rw [hk] at hp1
        have HP := Lib.hid hp1
        have HX2 := Lib.hid (show mdecode (d : Int) b = match fsR d l b2 with
          | .error e => .error e
          | .ok (fs, b3) => if b3 = [] then .ok (ty, fs) else .error 54 from by rw [HX1.out, hk])
        clear hk hp1 HX1 HR3
        go_upto_region 9 with fail
        refine wp_region_lit ?_
        refine wpList_op rfl fun K9 HK9 => ?_
        go_wp2_with fail
        refine (HP.out).mono ?_
        rintro e w4 ⟨⟨AL, cl, rfl, hrow, hr4⟩, ho1, h1⟩
        refine HK9.out _ _ ?_
        clear HK9
        try simp only [Act.put, zzA, zz0, zz1]
        have H4U := Lib.hid h1
        have H4D := Lib.hid hr4
        have HRW := Lib.hid hrow
        have H4M := Lib.hid (HBM3.out.turn ho1 (fun e => HNMR.out e.symm))
        have H4R := Lib.hid (HBR3.out.turn ho1 (fun e => HNR.out e.symm))
        clear hr4 ho1 h1 hrow HP
        refine wR (v := .tuple #[.slice AL l.length cl, .nilIface]) rfl (exec_move rfl rfl) ?_
        simp only [Act.put, zzA, zz0, zz1]
        refine wR (v := .slice AL l.length cl) rfl (ix_extract rfl rfl rfl) ?_
        simp only [Act.put, zzA, zz0, zz1]
        refine wR (v := .nilIface) rfl (ix_extract rfl rfl rfl) ?_
        simp only [Act.put, zzA, zz0, zz1]
        refine wR (v := .slice AL l.length cl) rfl (gx_assign rfl rfl) ?_
        simp only [Act.put, zzA, zz0, zz1]
        refine wR (v := .nilIface) rfl (gx_assign rfl rfl) ?_
        simp only [Act.put, zzA, zz0, zz1]
        have hp1 := takeFields_walk (s := s) HD.out HE.out H4U.out HGd.out H4D.out rfl HRW.out HCP.out
        cases hk : fsR d l b2 with
        | error k =>
          rw [hk] at hp1
          have HP := Lib.hid hp1
          have HX3 := Lib.hid (show mdecode (d : Int) b = .error k from by rw [HX2.out, hk])
          clear hk hp1 HX2 H4D
          go_upto_region 12 with fail
          refine wp_region_lit ?_
          refine wR (v := .slice AL l.length cl) rfl (exec_move rfl rfl) ?_
          simp only [Act.put, zzA, zz0, zz1]
          refine wpList_op rfl fun K9 HK9 => ?_
          go_wp2_with fail
          refine (HP.out).mono ?_
          rintro e w5 ⟨⟨v, rfl, hv, hk0⟩, ho1, h1⟩
          refine HK9.out _ _ ?_
          clear HK9
          try simp only [Act.put, zzA, zz0, zz1]
          have HV := Lib.hid hv
          have HK := Lib.hid hk0
          obtain ⟨t9, x9, rfl⟩ := errV_some hv hk0
          have H5U := Lib.hid h1
          have H5M := Lib.hid (H4M.out.turn ho1 (fun e => HNMR.out e.symm))
          have H5R := Lib.hid (H4R.out.turn ho1 (fun e => HNR.out e.symm))
          clear hv hk0 ho1 h1
          refine wR (v := .tuple #[.slice none 0 0, .iface t9 x9]) rfl (exec_move rfl rfl) ?_
          simp only [Act.put, zzA, zz0, zz1]
          refine wR (v := .slice none 0 0) rfl (ix_extract rfl rfl rfl) ?_
          simp only [Act.put, zzA, zz0, zz1]
          refine wR (v := .iface t9 x9) rfl (ix_extract rfl rfl rfl) ?_
          simp only [Act.put, zzA, zz0, zz1]
          refine wR (v := .pointer (some ⟨gm, 1, none⟩)) rfl (exec_field (off := 0) (d := 1) rfl rfl (by kernel_rfl)) ?_
          simp only [Act.put, zzA, zz0, zz1]
          refine wpList_store1 (v := .slice none 0 0) rfl 29 (.tmp 49) (.tmp 47) rfl (i := 1) H5M.out rfl rfl (show 1 < 2 by decide) rfl rfl (by kernel_rfl) ?_
          intro hb3 hu3
          obtain ⟨w6, hwn⟩ : ∃ wn, wn = w5.setCell ⟨gm, 1, none⟩ (.slice none 0 0) := ⟨_, rfl⟩
          rw [← hwn] at hb3 hu3 ⊢
          clear hwn
          have HU6 := Lib.hid (above H5U.out HGM.out hu3)
          have HBR6 := Lib.hid (H5R.out.turn hu3 (fun e => HNM.out e.symm))
          clear hb3 hu3 H5M H5R H5U
          simp only [Act.put, zzA, zz0, zz1]
          refine wR (v := .iface t9 x9) rfl (gx_assign rfl rfl) ?_
          simp only [Act.put, zzA, zz0, zz1]
          go_upto_region 14 with fail
          refine wp_region_lit ?_
          refine wR (v := .agg #[.int .i64 0, .slice none 0 0]) rfl (exec_bld rfl (build_msg0 _)) ?_
          simp only [Act.put, zzA, zz0, zz1]
          refine wR (v := .iface t9 x9) rfl (exec_move rfl rfl) ?_
          simp only [Act.put, zzA, zz0, zz1]
          refine wpList_store_row rfl 31 (.tmp 4) (.tmp 52) rfl #[.int .i64 0, .slice none 0 0] HBR6.out rfl rfl rfl (by rw [size_msg]; rfl) msg0_one ?_
          intro wz hbz huz
          have HBZ := Lib.hid hbz
          have HUZ := Lib.hid (above HU6.out HGR.out huz)
          clear hbz huz
          simp only [Act.put, zzA, zz0, zz1]
          refine wR (v := .iface t9 x9) rfl (gx_assign rfl rfl) ?_
          simp only [Act.put, zzA, zz0, zz1]
          go_wp2_with fail
          refine bodyPost_ret (v := .tuple #[.agg #[.int .i64 0, .slice none 0 0], .iface t9 x9]) (ret_cell2 rfl _ _ gr _ _ _ rfl rfl HBZ.out Tryz.underlying31 rfl (by rw [size_msg]; rfl)) rfl ?_
          exact decP_err HX3.out HV.out HK.out HUZ.out
        | ok p =>
          obtain ⟨fs, b3⟩ := p
          rw [hk] at hp1
          have HP := Lib.hid hp1
          have HX3 := Lib.hid (show mdecode (d : Int) b = if b3 = [] then .ok (ty, fs) else .error 54 from by rw [HX2.out, hk])
          clear hk hp1 HX2 H4D
          go_upto_region 12 with fail
          refine wp_region_lit ?_
          refine wR (v := .slice AL l.length cl) rfl (exec_move rfl rfl) ?_
          simp only [Act.put, zzA, zz0, zz1]
          refine wpList_op rfl fun K9 HK9 => ?_
          go_wp2_with fail
          refine (HP.out).mono ?_
          rintro e w5 ⟨⟨gF, rfl, hfl, hgF, hgF2, hr5⟩, ho1, h1⟩
          refine HK9.out _ _ ?_
          clear HK9
          try simp only [Act.put, zzA, zz0, zz1]
          have H5U := Lib.hid h1
          have H5D := Lib.hid hr5
          have HFL := Lib.hid hfl
          have HGF := Lib.hid hgF
          have HNF := Lib.hid (show gm ≠ gF from by have := H4M.out.lt; omega)
          have HNF2 := Lib.hid (show gr ≠ gF from by have := H4R.out.lt; omega)
          have H5M := Lib.hid (H4M.out.turn ho1 (fun e => HNMR.out e.symm))
          have H5R := Lib.hid (H4R.out.turn ho1 (fun e => HNR.out e.symm))
          clear hfl hgF hgF2 hr5 ho1 h1 HP
          refine wR (v := .tuple #[.slice (some ⟨gF, 0, none⟩) fs.length fs.length, .nilIface]) rfl (exec_move rfl rfl) ?_
          simp only [Act.put, zzA, zz0, zz1]
          refine wR (v := .slice (some ⟨gF, 0, none⟩) fs.length fs.length) rfl (ix_extract rfl rfl rfl) ?_
          simp only [Act.put, zzA, zz0, zz1]
          refine wR (v := .nilIface) rfl (ix_extract rfl rfl rfl) ?_
          simp only [Act.put, zzA, zz0, zz1]
          refine wR (v := .pointer (some ⟨gm, 1, none⟩)) rfl (exec_field (off := 0) (d := 1) rfl rfl (by kernel_rfl)) ?_
          simp only [Act.put, zzA, zz0, zz1]
          refine wpList_store1 (v := .slice (some ⟨gF, 0, none⟩) fs.length fs.length) rfl 29 (.tmp 49) (.tmp 47) rfl (i := 1) H5M.out rfl rfl (show 1 < 2 by decide) rfl rfl (by kernel_rfl) ?_
          intro hb3 hu3
          obtain ⟨w6, hwn⟩ : ∃ wn, wn = w5.setCell ⟨gm, 1, none⟩ (.slice (some ⟨gF, 0, none⟩) fs.length fs.length) := ⟨_, rfl⟩
          rw [← hwn] at hb3 hu3 ⊢
          clear hwn
          have HU6 := Lib.hid (above H5U.out HGM.out hu3)
          have HBR6 := Lib.hid (H5R.out.turn hu3 (fun e => HNM.out e.symm))
          have HBM6 := Lib.hid (show Blk w6 gm 31 #[.int .i64 ty, .slice (some ⟨gF, 0, none⟩) fs.length fs.length] from hb3)
          have HR6 := Lib.hid (rd_turn H5D.out hu3 HNMR.out HGM.out H5M.out (by decide))
          have HFL6 := Lib.hid (show Fl w6 (some ⟨gF, 0, none⟩) fs.length fs from by
            obtain ⟨q1, q2, q3⟩ := HFL.out
            refine ⟨q1, q2, fun hp => ?_⟩
            obtain ⟨b9, o9, e9, h9⟩ := q3 hp
            refine ⟨b9, o9, e9, fun i f hf j v hv => ?_⟩
            have hc := h9 i f hf j v hv
            have hne : b9 ≠ gm := fun e3 => by
              cases e9
              exact HNF.out e3.symm
            exact (hu3.cell (World.block_lt_of_cell? _ _ hc) (fun e => hne e)).trans hc)
          clear hb3 hu3 H5M H5R H5U H5D HFL
          simp only [Act.put, zzA, zz0, zz1]
          refine wR (v := .nilIface) rfl (gx_assign rfl rfl) ?_
          simp only [Act.put, zzA, zz0, zz1]
          obtain ⟨A7, n7, c7, hg7, hb7, _⟩ := id HR6.out
          have HB7 := Lib.hid hb7
          have HG7 := Lib.hid hg7
          clear hg7 hb7
          go_upto_region 15 with fail
          refine wp_region_lit ?_
          refine wR (v := .pointer (some ⟨gR, 3, none⟩)) rfl (exec_field (off := 0) (d := 3) rfl rfl fieldOff_rest) ?_
          simp only [Act.put, zzA, zz0, zz1]
          refine wR (v := .slice A7 n7 c7) rfl (exec_load1 rfl rfl (by kernel_rfl) (HG7.out.cell 3)) ?_
          simp only [Act.put, zzA, zz0, zz1]
          refine wR (v := .int .i64 (n7 : Int)) rfl (gx_len rfl rfl Tryz.underlying32) ?_
          simp only [Act.put, zzA, zz0, zz1]
          by_cases hb30 : b3 = []
          · have hn7 : n7 = 0 := by rw [← HB7.out.1, hb30]; rfl
            subst hn7
            have HX4 := Lib.hid (show mdecode (d : Int) b = .ok (ty, fs) from by rw [HX3.out, if_pos hb30])
            clear hb30 HX3 HB7 HG7 HR6
            refine wR (v := .bool false) rfl (ix_gtr rfl rfl rfl (by decide)) ?_
            simp only [Act.put, zzA, zz0, zz1]
            go_upto_region 17 with fail
            refine wp_region_lit ?_
            refine wR (v := msgV ty (some ⟨gF, 0, none⟩) fs.length fs.length) rfl (gx_loads rfl rfl (blk_range HBM6.out) Tryz.underlying31 rfl (by rw [size_msg]; rfl)) ?_
            simp only [Act.put, zzA, zz0, zz1]
            refine wpList_store_row rfl 31 (.tmp 4) (.tmp 60) rfl #[.int .i64 ty, .slice (some ⟨gF, 0, none⟩) fs.length fs.length] HBR6.out rfl rfl rfl (by rw [size_msg]; rfl) (msgA_one ty _ _ _) ?_
            intro wz hbz huz
            have HBZ := Lib.hid hbz
            have HUZ := Lib.hid (above HU6.out HGR.out huz)
            have HFZ := Lib.hid (show Fl wz (some ⟨gF, 0, none⟩) fs.length fs from by
              obtain ⟨q1, q2, q3⟩ := HFL6.out
              refine ⟨q1, q2, fun hp => ?_⟩
              obtain ⟨b9, o9, e9, h9⟩ := q3 hp
              refine ⟨b9, o9, e9, fun i f hf j v hv => ?_⟩
              have hc := h9 i f hf j v hv
              have hne : b9 ≠ gr := fun e3 => by
                cases e9
                exact HNF2.out e3.symm
              exact (huz.cell (World.block_lt_of_cell? _ _ hc) (fun e => hne e)).trans hc)
            clear hbz huz HFL6
            simp only [Act.put, zzA, zz0, zz1]
            refine wR (v := .nilIface) rfl (gx_assign rfl rfl) ?_
            simp only [Act.put, zzA, zz0, zz1]
            go_wp2_with fail
            refine bodyPost_ret (v := .tuple #[.agg #[.int .i64 ty, .slice (some ⟨gF, 0, none⟩) fs.length fs.length], .nilIface]) (ret_cell2 rfl _ _ gr _ _ _ rfl rfl HBZ.out Tryz.underlying31 rfl (by rw [size_msg]; rfl)) rfl ?_
            unfold DecP
            rw [HX4.out]
            exact ⟨⟨gF, rfl, HFZ.out, HGF.out⟩, HUZ.out⟩
          · have hn7 : (0 : Int) < (n7 : Int) := by
              have h1 := HB7.out.1
              have h2 := List.length_pos_iff.2 hb30
              omega
            have HX4 := Lib.hid (show mdecode (d : Int) b = .error 54 from by rw [HX3.out, if_neg hb30])
            have HLE := Lib.hid (show 5 < w.heap.size from World.block_lt_of_cell? _ _ HE.out.sen.more.1)
            clear hb30 HX3 HB7 HG7 HR6
            refine wR (v := .bool true) rfl (ix_gtr rfl rfl rfl (by simpa using hn7)) ?_
            simp only [Act.put, zzA, zz0, zz1]
            go_upto_region 16 with fail
            have hS0 : w6.drew.cell? ⟨5, 0, none⟩ = some (errS s.more) := (HE.out.turn HU6.out).sen.more.1
            have HBd := Lib.hid HBR6.out.drew
            have HUd := Lib.hid HU6.out.drew
            clear HBR6 HU6 HBM6 HFL6
            refine wp_region_alw (fun W => W.cell? ⟨5, 0, none⟩ = some (errS s.more)) (by kernel_rfl) ?_
            generalize w6.drew = w7 at *
            refine alw_take (i := 0) (v := .agg #[.int .i64 0, .slice none 0 0]) rfl (by kernel_rfl) (by kernel_rfl) (fun _ _ _ h => h) (.inl ⟨by rfl, fun W hW => exec_bld rfl (build_msg0 _)⟩) hS0 ?_
            simp only [Act.put, zzA, zz0, zz1]
            refine alw_take (i := 1) (v := errS s.more) rfl (by kernel_rfl) (by kernel_rfl) (fun _ _ _ h => h) (.inl ⟨by rfl, fun W hW => exec_load1 rfl rfl (by kernel_rfl) hW⟩) hS0 ?_
            simp only [Act.put, zzA, zz0, zz1]
            refine alw_step (i := 2) (by kernel_rfl) rfl rfl ?_
            intro K1 HK1
            refine wp_store_rowU 31 (.tmp 4) (.tmp 58) rfl #[.int .i64 0, .slice none 0 0] HBd.out rfl rfl rfl (by rw [size_msg]; rfl) msg0_one ?_
            intro wz hbz huz
            have hS1 : wz.cell? ⟨5, 0, none⟩ = some (errS s.more) := (huz.cell (World.block_lt_of_cell? _ _ hS0) (fun e => by
              have e : 5 = gr := e
              have := HLE.out
              have := HGR.out
              omega)).trans hS0
            have HBZ := Lib.hid hbz
            have HUZ := Lib.hid (above HUd.out HGR.out huz)
            clear hbz huz HUd HBd hS0
            refine HK1.out _ _ ⟨hS1, ?_⟩
            clear HK1
            simp only [Act.put, zzA, zz0, zz1]
            refine alw_take (i := 3) (v := errS s.more) rfl (by kernel_rfl) (by kernel_rfl) (fun _ _ _ h => h) (.inl ⟨by rfl, fun W hW => gx_assign rfl rfl⟩) hS1 ?_
            simp only [Act.put, zzA, zz0, zz1]
            refine alw_done rfl ?_
            clear hS1
            refine NoPanic.normal ?_
            go_wp2_with fail
            refine bodyPost_ret (v := .tuple #[.agg #[.int .i64 0, .slice none 0 0], errS s.more]) (ret_cell2 rfl _ _ gr _ _ _ rfl rfl HBZ.out Tryz.underlying31 rfl (by rw [size_msg]; rfl)) rfl ?_
            exact decP_err HX4.out ErrV.more (by decide) HUZ.out
  · have HX := Lib.hid (show mdecode dd b = .error 50 from by unfold mdecode; rw [if_neg hd])
    refine wpList_op rfl fun K9 HK9 => ?_
    go_wp2_with fail
    refine (tongueOf_bad (s := s) hd (HE.out.turn HU.out).sen).mono ?_
    rintro e w2 ⟨rfl, ht2⟩
    refine HK9.out _ _ ?_
    clear HK9
    try simp only [Act.put, zzA, zz0, zz1]
    have HU2 := Lib.hid (HU.out.next ht2)
    have HB2 := Lib.hid (HB.out.turn ht2 (fun e => e))
    clear ht2 HB HU hd
    refine wR (v := .tuple #[.agg #[.int .i64 0, strV [], strV []], errS s.dialect]) rfl (exec_move rfl rfl) ?_
    simp only [Act.put, zzA, zz0, zz1]
    refine wR (v := .agg #[.int .i64 0, strV [], strV []]) rfl (ix_extract rfl rfl rfl) ?_
    simp only [Act.put, zzA, zz0, zz1]
    refine wR (v := errS s.dialect) rfl (ix_extract rfl rfl rfl) ?_
    simp only [Act.put, zzA, zz0, zz1]
    refine wR (v := .pointer (some ⟨w2.heap.size, 0, none⟩)) (w' := w2.alloc (.cells #[.int .i64 0, strV [], strV []] 51)) rfl (gx_alloc rfl (zero_tongue _)) ?_
    simp only [Act.put, zzA, zz0, zz1]
    have hb8 := Blk.new w2 51 #[.int .i64 0, strV [], strV []]
    have hu8 := HU2.out.alloc (.cells #[.int .i64 0, strV [], strV []] 51)
    have hbm8 := HB2.out.alloc (.cells #[.int .i64 0, strV [], strV []] 51)
    obtain ⟨bt, hbt⟩ : ∃ bt, bt = w2.heap.size := ⟨_, rfl⟩
    rw [← hbt] at hb8 ⊢
    have HG8 := Lib.hid (show w.heap.size ≤ bt from by rw [hbt]; exact HU2.out.size)
    have HN8 := Lib.hid (show gr ≠ bt from by have := HB2.out.lt; omega)
    clear hbt
    generalize w2.alloc (.cells #[.int .i64 0, strV [], strV []] 51) = w5 at *
    refine wpList_store_row rfl 51 (.tmp 6) (.tmp 14) rfl #[.int .i64 0, strV [], strV []] hb8 rfl rfl rfl (by rw [size_tongue]; rfl) zeroT_one ?_
    intro w6 hb6 hu6
    have HBT := Lib.hid hb6
    have HBM := Lib.hid (hbm8.turn hu6 (fun e => HN8.out e))
    have HU6 := Lib.hid (hu8.trans hu6 (fun k hk e => by
      have := HG8.out
      have e : k = bt := e
      omega))
    clear hb8 hu8 hbm8 hb6 hu6 HB2 HU2
    simp only [Act.put, zzA, zz0, zz1]
    refine wR (v := errS s.dialect) rfl (gx_assign rfl rfl) ?_
    simp only [Act.put, zzA, zz0, zz1]
    unfold errS
    go_upto_region 3 with fail
    refine wp_region_lit ?_
    refine wR (v := .agg #[.int .i64 0, .slice none 0 0]) rfl (exec_bld rfl (build_msg0 _)) ?_
    simp only [Act.put, zzA, zz0, zz1]
    refine wR (v := .iface 240 (.pointer (some s.dialect))) rfl (exec_move rfl rfl) ?_
    simp only [Act.put, zzA, zz0, zz1]
    refine wpList_store_row rfl 31 (.tmp 4) (.tmp 18) rfl #[.int .i64 0, .slice none 0 0] HBM.out rfl rfl rfl (by rw [size_msg]; rfl) msg0_one ?_
    intro wz hbz huz
    have HBZ := Lib.hid hbz
    have HUZ := Lib.hid (above HU6.out HGR.out huz)
    clear hbz huz
    simp only [Act.put, zzA, zz0, zz1]
    refine wR (v := .iface 240 (.pointer (some s.dialect))) rfl (gx_assign rfl rfl) ?_
    simp only [Act.put, zzA, zz0, zz1]
    go_wp2_with fail
    refine bodyPost_ret (v := .tuple #[.agg #[.int .i64 0, .slice none 0 0], .iface 240 (.pointer (some s.dialect))]) (ret_cell2 rfl _ _ gr _ _ _ rfl rfl HBZ.out Tryz.underlying31 rfl (by rw [size_msg]; rfl)) rfl ?_
    exact decP_err HX.out ErrV.dialect (by decide) HUZ.out
end Go.Proofs.YtkbdijkoedmgnaaGreatDoor
namespace Go.Proofs.YtkbdijkoedmgnaaGreatDoor
open Go.RowKit
open Fdd
set_option linter.unusedVariables false
set_option linter.unusedSimpArgs false
def msgE (r : Except Int (Int × List Fld)) : Int × List Fld := match r with
  | .ok p => p
  | .error _ => (0, [])
theorem fl_nil (w : World) : Fl w none 0 [] := ⟨rfl, by decide, fun h => absurd h (by decide)⟩
/-- what decode answers, in either case -/
theorem decP_any {s : Sents} {r : Except Int (Int × List Fld)} {w w' : World} {e : Ending} (h : DecP s r w e w') :
    ∃ A n c v, e = .returned (.tuple #[msgV (msgE r).1 A n c, v]) ∧ ErrV s v (codeE r) ∧ Fl w' A n (msgE r).2 ∧ (∀ b o t, A = some ⟨b, o, t⟩ → w.heap.size ≤ b) ∧ Turn nowhere w w' := by
  obtain ⟨h, ht⟩ := h
  cases r with
  | error k =>
    obtain ⟨v, rfl, hv, _⟩ := h
    exact ⟨none, 0, 0, v, rfl, hv, fl_nil w', fun _ _ _ e => (by cases e), ht⟩
  | ok p =>
    obtain ⟨ty, fs⟩ := p
    obtain ⟨gF, rfl, hf, hg⟩ := h
    exact ⟨_, _, _, _, rfl, ErrV.nil, hf, fun b o t e => (by cases e; exact hg), ht⟩
/-- a block that is none of a row of fields turns -/
theorem fl_turn {w w' : World} {A : Option Addr} {n g : Nat} {fs : List Fld} (h : Fl w A n fs) (ht : Turn (only g) w w') (hA : ∀ b o t, A = some ⟨b, o, t⟩ → b ≠ g) : Fl w' A n fs := by
  obtain ⟨q1, q2, q3⟩ := h
  refine ⟨q1, q2, fun hp => ?_⟩
  obtain ⟨b9, o9, e9, h9⟩ := q3 hp
  refine ⟨b9, o9, e9, fun i f hf j v hv => ?_⟩
  have hc := h9 i f hf j v hv
  exact (ht.cell (World.block_lt_of_cell? _ _ hc) (fun e => hA b9 o9 none e9 e)).trans hc
def DecodeP (r : Except Int (Int × List Fld)) (w : World) (e : Ending) (w' : World) : Prop :=
  ∃ A n c, e = .returned (.tuple #[msgV (msgE r).1 A n c, .int .i64 (codeE r)]) ∧ Fl w' A n (msgE r).2 ∧ (∀ b o t, A = some ⟨b, o, t⟩ → w.heap.size ≤ b) ∧ Turn nowhere w w'
set_option maxRecDepth 20000 in
set_option maxHeartbeats 1000000 in
theorem Decode_walk {s : Sents} {w : World} {dd : Int} {A : Option Addr} {n c : Nat} {b : List UInt8} (he : Env s w) (hbs : Bs w A n b) (hnc : n ≤ c) (hnm : n ≤ 140737488355328) :
    Calls Tryz.prog 21 #[.int .i64 dd, .slice A n c] w (DecodeP (mdecode dd b) w) := by
  have hu := (Turn.refl nowhere w).alloc (.cells #[.int .i64 0, .slice none 0 0] 31)
  have hb := Blk.new w 31 #[.int .i64 0, .slice none 0 0]
  obtain ⟨gr, hgr⟩ : ∃ gr, gr = w.heap.size := ⟨_, rfl⟩
  rw [← hgr] at hb
  have HGRE := Lib.hid hgr
  have HGR := Lib.hid (show w.heap.size ≤ gr from by omega)
  have HE := Lib.hid he
  have HBS := Lib.hid hbs
  have HNC := Lib.hid hnc
  have HNM := Lib.hid hnm
  have HU := Lib.hid hu
  have HB := Lib.hid hb
  clear he hbs hnc hnm hu hb hgr
  go_enter Tryz.func21, Tryz.ntmps21
  go_upto_region 1 with fail
  have e2 := HGRE.out
  rw [← e2]
  clear e2 HGRE
  change Code.wp _ _ _ _ (w.alloc (.cells #[.int .i64 0, .slice none 0 0] 31))
  generalize World.alloc w (.cells #[.int .i64 0, .slice none 0 0] 31) = w1 at *
  refine wp_region_lit ?_
  refine wR (v := .int .i64 dd) rfl (exec_move rfl rfl) ?_
  simp only [Act.put, zzA, zz0, zz1]
  refine wR (v := .slice A n c) rfl (exec_move rfl rfl) ?_
  simp only [Act.put, zzA, zz0, zz1]
  have hD := (decode_walk (s := s) (dd := dd) (HE.out.turn HU.out) (bs_still HBS.out HU.out) HNC.out HNM.out).mono (fun _ _ h => decP_any h)
  generalize mdecode dd b = r at *
  have HDD := Lib.hid hD
  clear hD
  refine wpList_op rfl fun K9 HK9 => ?_
  go_wp2_with fail
  refine (HDD.out).mono ?_
  rintro e w2 ⟨A2, n2, c2, v2, rfl, hv2, hf2, hg2, ht2⟩
  refine HK9.out _ _ ?_
  clear HK9
  try simp only [Act.put, zzA, zz0, zz1]
  have HV := Lib.hid hv2
  have HF2 := Lib.hid hf2
  have HG2 := Lib.hid hg2
  have HU2 := Lib.hid (HU.out.next ht2)
  have HB2 := Lib.hid (HB.out.turn ht2 (fun e => e))
  have HL1 := Lib.hid HB.out.lt
  clear hv2 hf2 hg2 ht2 HDD HB HU HBS HNC HNM
  unfold msgV
  refine wR (v := .tuple #[.agg #[.int .i64 (msgE r).1, .slice A2 n2 c2], v2]) rfl (exec_move rfl rfl) ?_
  simp only [Act.put, zzA, zz0, zz1]
  refine wR (v := .agg #[.int .i64 (msgE r).1, .slice A2 n2 c2]) rfl (ix_extract rfl rfl rfl) ?_
  simp only [Act.put, zzA, zz0, zz1]
  refine wR (v := v2) rfl (ix_extract rfl rfl rfl) ?_
  simp only [Act.put, zzA, zz0, zz1]
  refine wR (v := .pointer (some ⟨w2.heap.size, 0, none⟩)) (w' := w2.alloc (.cells #[.int .i64 0, .slice none 0 0] 31)) rfl (gx_alloc rfl (zero_msg _)) ?_
  simp only [Act.put, zzA, zz0, zz1]
  have hb8 := Blk.new w2 31 #[.int .i64 0, .slice none 0 0]
  have hu8 := HU2.out.alloc (.cells #[.int .i64 0, .slice none 0 0] 31)
  have hv8 := (Turn.refl nowhere w2).alloc (.cells #[.int .i64 0, .slice none 0 0] 31)
  have hbm8 := HB2.out.alloc (.cells #[.int .i64 0, .slice none 0 0] 31)
  obtain ⟨gm, hgm⟩ : ∃ gm, gm = w2.heap.size := ⟨_, rfl⟩
  rw [← hgm] at hb8 ⊢
  have HG8 := Lib.hid (show w.heap.size ≤ gm from by rw [hgm]; exact HU2.out.size)
  have HG9 := Lib.hid (show w2.heap.size ≤ gm from by omega)
  have HN8 := Lib.hid (show gm ≠ gr from by have := HB2.out.lt; omega)
  clear hgm
  generalize w2.alloc (.cells #[.int .i64 0, .slice none 0 0] 31) = w5 at *
  refine wpList_store_row rfl 31 (.tmp 6) (.tmp 12) rfl #[.int .i64 (msgE r).1, .slice A2 n2 c2] hb8 rfl rfl rfl (by rw [size_msg]; rfl) (msgA_one _ _ _ _) ?_
  intro w6 hb6 hu6
  have HBM := Lib.hid hb6
  have HBR := Lib.hid (hbm8.turn hu6 (fun e => HN8.out e.symm))
  have HU6 := Lib.hid (above hu8 HG8.out hu6)
  have HF6 := Lib.hid (HF2.out.still (above hv8 HG9.out hu6))
  clear hb8 hu8 hbm8 hb6 hu6 HB2 HU2 hv8 HF2
  simp only [Act.put, zzA, zz0, zz1]
  refine wR (v := v2) rfl (gx_assign rfl rfl) ?_
  simp only [Act.put, zzA, zz0, zz1]
  go_upto_region 2 with fail
  have hS0 : Blk w6.drew gm 31 #[.int .i64 (msgE r).1, .slice A2 n2 c2] := HBM.out.drew
  have HBd := Lib.hid HBR.out.drew
  have HUd := Lib.hid HU6.out.drew
  have HFd := Lib.hid (HF6.out.still ((Turn.refl nowhere w6).drew))
  clear HBM HBR HU6 HF6
  refine wp_region_alw (fun W => Blk W gm 31 #[.int .i64 (msgE r).1, .slice A2 n2 c2]) (by kernel_rfl) ?_
  generalize w6.drew = w7 at *
  refine alw_take (i := 0) (v := .agg #[.int .i64 (msgE r).1, .slice A2 n2 c2]) rfl (by kernel_rfl) (by kernel_rfl) (fun _ _ _ h => h) (.inl ⟨by rfl, fun W hW => gx_loads rfl rfl (blk_range hW) Tryz.underlying31 rfl (by rw [size_msg]; rfl)⟩) hS0 ?_
  simp only [Act.put, zzA, zz0, zz1]
  refine alw_take (i := 1) (v := v2) rfl (by kernel_rfl) (by kernel_rfl) (fun _ _ _ h => h) (.inl ⟨by rfl, fun W hW => exec_move rfl rfl⟩) hS0 ?_
  simp only [Act.put, zzA, zz0, zz1]
  refine alw_step (i := 2) (by kernel_rfl) rfl rfl ?_
  intro K1 HK1
  go_wp2_with fail
  refine (tell_walk HV.out (HE.out.turn HUd.out).sen).mono ?_
  rintro e w8 ⟨rfl, ht8⟩
  have hS1 := hS0.turn ht8 (fun e => e)
  refine HK1.out _ _ ⟨hS1, ?_⟩
  have HB8 := Lib.hid (HBd.out.turn ht8 (fun e => e))
  have HU8 := Lib.hid (HUd.out.next ht8)
  have HF8 := Lib.hid (HFd.out.still ht8)
  clear HK1 hS0 ht8 HBd HUd HFd
  try simp only [Act.put, zzA, zz0, zz1]
  refine alw_step (i := 3) (by kernel_rfl) rfl rfl ?_
  intro K1 HK1
  refine wp_store_rowU 31 (.tmp 4) (.tmp 14) rfl #[.int .i64 (msgE r).1, .slice A2 n2 c2] HB8.out rfl rfl rfl (by rw [size_msg]; rfl) (msgA_one _ _ _ _) ?_
  intro wz hbz huz
  have hS2 := hS1.turn huz (fun e => HN8.out e)
  have HBZ := Lib.hid hbz
  have HUZ := Lib.hid (above HU8.out HGR.out huz)
  have HFZ := Lib.hid (fl_turn HF8.out huz (fun b o t e => by
    have := HG2.out b o t e
    have := HL1.out
    omega))
  clear hbz huz HU8 HB8 HF8 hS1
  refine HK1.out _ _ ⟨hS2, ?_⟩
  clear HK1
  simp only [Act.put, zzA, zz0, zz1]
  refine alw_take (i := 4) (v := .int .i64 (codeE r)) rfl (by kernel_rfl) (by kernel_rfl) (fun _ _ _ h => h) (.inl ⟨by rfl, fun W hW => gx_assign rfl rfl⟩) hS2 ?_
  simp only [Act.put, zzA, zz0, zz1]
  refine alw_done rfl ?_
  clear hS2
  refine NoPanic.normal ?_
  go_wp2_with fail
  refine bodyPost_ret (v := .tuple #[.agg #[.int .i64 (msgE r).1, .slice A2 n2 c2], .int .i64 (codeE r)]) (ret_cell2 rfl _ _ gr _ _ _ rfl rfl HBZ.out Tryz.underlying31 rfl (by rw [size_msg]; rfl)) rfl ?_
  exact ⟨A2, n2, c2, rfl, HFZ.out, fun b o t e => by
    have := HG2.out b o t e
    have := HL1.out
    have := HGR.out
    omega, HUZ.out⟩
end Go.Proofs.YtkbdijkoedmgnaaGreatDoor
namespace Go.Proofs.YtkbdijkoedmgnaaGreatDoor
open Go.RowKit
open Fdd
set_option linter.unusedVariables false
set_option linter.unusedSimpArgs false
theorem byte_of {P : UInt8 → Prop} (h : ∀ n : Nat, n < 256 → P (UInt8.ofNat n)) (b : UInt8) : P b := by
  have h2 := h b.toNat b.toNat_lt
  rwa [show UInt8.ofNat b.toNat = b by simp] at h2
theorem dec_byte (b : UInt8) : dec.contains b = decide (48 ≤ b.toNat ∧ b.toNat ≤ 57) := byte_of (P := fun b => dec.contains b = decide (48 ≤ b.toNat ∧ b.toNat ≤ 57)) (by decide +kernel) b
theorem hex_byte (b : UInt8) : hexs.contains b = decide ((48 ≤ b.toNat ∧ b.toNat ≤ 57) ∨ (97 ≤ b.toNat ∧ b.toNat ≤ 102)) := byte_of (P := fun b => hexs.contains b = decide ((48 ≤ b.toNat ∧ b.toNat ≤ 57) ∨ (97 ≤ b.toNat ∧ b.toNat ≤ 102))) (by decide +kernel) b
theorem sgn_byte (b : UInt8) : sgn.contains b = decide ((48 ≤ b.toNat ∧ b.toNat ≤ 57) ∨ (65 ≤ b.toNat ∧ b.toNat ≤ 90) ∨ b.toNat = 32) := byte_of (P := fun b => sgn.contains b = decide ((48 ≤ b.toNat ∧ b.toNat ≤ 57) ∨ (65 ≤ b.toNat ∧ b.toNat ≤ 90) ∨ b.toNat = 32)) (by decide +kernel) b
theorem digit_walk (b : UInt8) (w : World) :
    Calls Tryz.prog 92 #[.int .u8 (b.toNat : Int)] w fun e w' => e = .returned (.bool (dec.contains b)) ∧ w' = w := by
  rw [dec_byte]
  have hb := b.toNat_lt
  generalize b.toNat = n at *
  go_enter Tryz.func92, Tryz.ntmps92
  go_wp2
  all_goals (try go_ret)
  all_goals
    refine ⟨ret_bool ?_, rfl⟩
    rw [Bool.eq_iff_iff]
    simp only [Bool.and_eq_true, decide_eq_true_eq, Bool.false_eq_true]
    refine ⟨fun h => ?_, fun h => ?_⟩ <;> (first | omega | contradiction)
theorem hex_walk (b : UInt8) (w : World) :
    Calls Tryz.prog 85 #[.int .u8 (b.toNat : Int)] w fun e w' => e = .returned (.bool (hexs.contains b)) ∧ w' = w := by
  have hd := digit_walk b
  have HD := Lib.hid hd
  clear hd
  rw [hex_byte]
  rw [dec_byte] at HD
  have hb := b.toNat_lt
  generalize b.toNat = n at *
  go_enter Tryz.func85, Tryz.ntmps85
  by_cases h0 : 48 ≤ n ∧ n ≤ 57
  · rw [decide_eq_true h0] at HD
    rw [decide_eq_true (show (48 ≤ n ∧ n ≤ 57) ∨ (97 ≤ n ∧ n ≤ 102) from .inl h0)]
    go_wp2_with (go_at_call 92; refine (HD.out _).mono ?_; rintro e w1 ⟨rfl, rfl⟩)
    go_ret
    exact ⟨rfl, rfl⟩
  · rw [decide_eq_false h0] at HD
    go_wp2_with (go_at_call 92; refine (HD.out _).mono ?_; rintro e w1 ⟨rfl, rfl⟩)
    all_goals (try go_ret)
    all_goals
      refine ⟨ret_bool ?_, rfl⟩
      rw [Bool.eq_iff_iff]
      simp only [Bool.and_eq_true, decide_eq_true_eq, Bool.false_eq_true]
      refine ⟨fun h => ?_, fun h => ?_⟩ <;> (first | omega | contradiction)
theorem sign_walk (b : UInt8) (w : World) :
    Calls Tryz.prog 84 #[.int .u8 (b.toNat : Int)] w fun e w' => e = .returned (.bool (sgn.contains b)) ∧ w' = w := by
  have hd := digit_walk b
  have HD := Lib.hid hd
  clear hd
  rw [sgn_byte]
  rw [dec_byte] at HD
  have hb := b.toNat_lt
  generalize b.toNat = n at *
  go_enter Tryz.func84, Tryz.ntmps84
  by_cases h0 : 48 ≤ n ∧ n ≤ 57
  · rw [decide_eq_true h0] at HD
    rw [decide_eq_true (show (48 ≤ n ∧ n ≤ 57) ∨ (65 ≤ n ∧ n ≤ 90) ∨ n = 32 from .inl h0)]
    go_wp2_with (go_at_call 92; refine (HD.out _).mono ?_; rintro e w1 ⟨rfl, rfl⟩)
    go_ret
    exact ⟨rfl, rfl⟩
  · rw [decide_eq_false h0] at HD
    go_wp2_with (go_at_call 92; refine (HD.out _).mono ?_; rintro e w1 ⟨rfl, rfl⟩)
    all_goals (try go_ret)
    all_goals
      refine ⟨ret_bool ?_, rfl⟩
      rw [Bool.eq_iff_iff]
      simp only [Bool.and_eq_true, Bool.or_eq_true, decide_eq_true_eq, Bool.false_eq_true, beq_iff_eq]
      refine ⟨fun h => ?_, fun h => ?_⟩ <;> (first | omega | contradiction | trivial)
theorem rmay_walk (f : Fm) (w : World) :
    Calls Tryz.prog 55 #[fmV f] w fun e w' => e = .returned (.bool f.may) ∧ Turn nowhere w w' := by
  obtain ⟨k, s, c⟩ := f
  unfold fmV
  go_enter Tryz.func55, Tryz.ntmps55
  go_wp2
  all_goals (try go_ret)
  all_goals
    refine ⟨ret_bool ?_, (Turn.refl _ w).alloc _⟩
    try simp only [beq_iff_eq, beq_eq_false_iff_ne, ne_eq] at *
    rw [Bool.eq_iff_iff]
    simp only [Fm.may, Bool.and_eq_true, decide_eq_true_eq, Bool.false_eq_true]
    refine ⟨fun h => ?_, fun h => ?_⟩ <;> (try dsimp only at h ⊢) <;> omega
theorem only_part {l cs : List UInt8} {k : Nat} (hk : k < l.length) (h : cs.contains (l.getD k 0) = false) : onlyOf l cs = false := by
  cases hq : onlyOf l cs with
  | false => rfl
  | true =>
    have := onlyOf_mem hq (c := l.getD k 0) (by
      rw [List.getD_eq_getElem?_getD, List.getElem?_eq_getElem hk]
      exact List.getElem_mem _)
    rw [← List.contains_iff_mem, h] at this
    cases this
theorem only_step {l cs : List UInt8} {k : Nat} (hk : k < l.length) (h0 : onlyOf (l.take k) cs = true) (h : cs.contains (l.getD k 0) = true) : onlyOf (l.take (k + 1)) cs = true := by
  unfold onlyOf at *
  rw [List.take_add_one, List.all_append, h0, List.getElem?_eq_getElem hk]
  rw [List.getD_eq_getElem?_getD, List.getElem?_eq_getElem hk] at h
  simpa using h
set_option maxRecDepth 20000 in
theorem all_walk (t : List UInt8) (w : World) (hl : t.length ≤ 9223372036854775807) :
    Calls Tryz.prog 83 #[strV t] w fun e w' => e = .returned (.bool (onlyOf t dec)) ∧ w' = w := by
  have HL := Lib.hid hl
  clear hl
  go_enter Tryz.func83, Tryz.ntmps83
  go_wp2_with fail
  obtain ⟨n, hn⟩ : ∃ n, n = t.length := ⟨_, rfl⟩
  have HN := Lib.hid hn
  clear hn
  go_loopg [3] n (fun gk i wr => ∃ k : Nat, k + gk = n ∧ i = .int .i64 (k : Int) ∧ wr = w ∧ onlyOf (t.take k) dec = true)
  case atStart => exact ⟨0, by omega, rfl, rfl, rfl⟩
  obtain ⟨k, hkl, rfl, rfl, hin⟩ := hrel
  have HKL := Lib.hid hkl
  have HIN := Lib.hid hin
  clear hkl hin
  go_upto_region 2 with fail
  refine wp_region_lit ?_
  refine wR (v := .int .i64 (k : Int)) rfl (exec_move rfl rfl) ?_
  simp only [Act.put, zzA, zz0, zz1]
  refine wR (v := strV t) rfl (exec_move rfl rfl) ?_
  simp only [Act.put, zzA, zz0, zz1]
  refine wR (v := .int .i64 (n : Int)) (w' := wr) rfl (by rw [HN.out]; exact exec_slen rfl rfl) ?_
  simp only [Act.put, zzA, zz0, zz1]
  by_cases hlt : k < n
  · have y1 : (k : Int) < (n : Int) := by omega
    have y3 : (n : Int) ≤ 9223372036854775807 := by have := HN.out; have := HL.out; omega
    go_upto_region 4 with fail
    refine wp_region_lit ?_
    refine wR (v := strV t) rfl (exec_move rfl rfl) ?_
    simp only [Act.put, zzA, zz0, zz1]
    refine wR (v := .int .i64 (k : Int)) rfl (exec_move rfl rfl) ?_
    simp only [Act.put, zzA, zz0, zz1]
    refine wR (v := .int .u8 ((t.getD k 0).toNat : Int)) (w' := wr) rfl (exec_sidx rfl rfl rfl (by rw [← HN.out]; exact hlt)) ?_
    simp only [Act.put, zzA, zz0, zz1]
    have HLT := Lib.hid hlt
    clear hlt
    have hd := digit_walk (t.getD k 0) wr
    have hp : dec.contains (t.getD k 0) = false → onlyOf t dec = false := only_part (by rw [← HN.out]; exact HLT.out)
    have hs : dec.contains (t.getD k 0) = true → onlyOf (t.take (k + 1)) dec = true := only_step (by rw [← HN.out]; exact HLT.out) HIN.out
    have HP := Lib.hid hp
    have HS := Lib.hid hs
    clear hp hs HIN
    generalize t.getD k 0 = b at *
    cases hq : dec.contains b with
    | true =>
      rw [hq] at hd
      have HIN := Lib.hid (HS.out hq)
      go_wp2_with (go_at_call 92; refine hd.mono ?_; rintro e w1 ⟨rfl, rfl⟩)
      go_roundg (gk - 1)
      case measure => have := HKL.out; have := HLT.out; omega
      case rel => exact ⟨k + 1, by have := HKL.out; have := HLT.out; omega, by go_num, rfl, HIN.out⟩
    | false =>
      rw [hq] at hd
      have HIN := Lib.hid (HP.out hq)
      go_wp2_with (go_at_call 92; refine hd.mono ?_; rintro e w1 ⟨rfl, rfl⟩)
      go_ret
      rw [HIN.out]
      exact ⟨rfl, rfl⟩
  · have hke : k = n := by have := HKL.out; omega
    have y1 : ¬ ((k : Int) < (n : Int)) := by omega
    have HALL := Lib.hid (show onlyOf t dec = true by
      have := HIN.out
      rwa [List.take_of_length_le (by rw [← HN.out]; omega)] at this)
    clear hlt hke
    go_wp2_with fail
    go_ret
    rw [HALL.out]
    exact ⟨rfl, rfl⟩
end Go.Proofs.YtkbdijkoedmgnaaGreatDoor
namespace Go.Proofs.YtkbdijkoedmgnaaGreatDoor
open Go.RowKit
open Fdd
set_option linter.unusedVariables false
set_option linter.unusedSimpArgs false
theorem wrap_small {x : Int} (h0 : 0 ≤ x) (h1 : x ≤ 1000000) : IntKind.i64.wrap x = x := by
  simp [IntKind.wrap, IntKind.bits, IntKind.signed]
  omega
theorem wpList_skip {P : Program} {ops : Array Oper} {rest : List Oper} {o : Oper} {a : Act} {w : World} {Q : Exit → Act → World → Prop} (hgd : Region.wanted o (yielded ops a.tmps) = false) (h : wpList P ops Q rest (a.put o.dst undef) w) : wpList P ops Q (o :: rest) a w :=
  wpList_step fun K hK => by
    rw [if_neg (by rw [hgd]; decide)]
    exact hK _ _ h
theorem only_take_len {l cs : List UInt8} {n : Nat} {st : List UInt8} : rightAll [⟨n, cs, st⟩] l = (decide (l.length = n) && onlyOf l cs) := by
  show (decide (n ≤ l.length) && (onlyOf (l.take n) cs && (l.drop n == []))) = _
  by_cases h : l.length = n
  · rw [List.take_of_length_le (by omega), List.drop_of_length_le (by omega), decide_eq_true h, decide_eq_true (by omega)]
    simp
  · rw [decide_eq_false h]
    by_cases h2 : n ≤ l.length
    · have h3 : (l.drop n == []) = false := by
        cases hd : l.drop n with
        | nil =>
          have := congrArg List.length hd
          simp at this
          omega
        | cons a r => rfl
      rw [h3]
      simp
    · rw [decide_eq_false h2]
      simp
theorem right_n {s : Nat} {c : Int} {t : List UInt8} : Fm.right ⟨1, (s : Int), c⟩ t = (decide (t.length = s) && onlyOf t dec) := only_take_len
theorem right_an {s : Nat} {c : Int} {t : List UInt8} : Fm.right ⟨3, (s : Int), c⟩ t = (decide (t.length = s) && onlyOf t sgn) := only_take_len
theorem right_b {s : Nat} {c : Int} {t : List UInt8} : Fm.right ⟨4, (s : Int), c⟩ t = (decide (t.length = 2 * s) && onlyOf t hexs) := only_take_len
theorem right_l {s : Nat} {c : Int} {t : List UInt8} : Fm.right ⟨2, (s : Int), c⟩ t = (decide (1 ≤ t.length ∧ t.length ≤ s) && onlyOf t dec) := by
  show (decide (1 ≤ t.length ∧ (t.length : Int) ≤ (s : Int)) && rightAll [⟨t.length, dec, _⟩] t) = _
  rw [only_take_len, decide_eq_true (show t.length = t.length from rfl), Bool.true_and]
  congr 1
  exact decide_eq_decide.2 ⟨fun h => ⟨h.1, by omega⟩, fun h => ⟨h.1, by omega⟩⟩
theorem right_x {s : Nat} {c : Int} {t : List UInt8} : Fm.right ⟨5, (s : Int), c⟩ t = (decide (t.length = s + 1) && (mk.contains (t.getD 0 0) && onlyOf (t.drop 1) dec)) := by
  show (decide (1 ≤ t.length) && (onlyOf (t.take 1) mk && rightAll [⟨s, dec, _⟩] (t.drop 1))) = _
  rw [only_take_len]
  cases t with
  | nil => simp
  | cons b r =>
    simp only [List.length_cons, List.take_succ_cons, List.take_zero, List.drop_succ_cons, List.drop_zero, List.getD_cons_zero]
    unfold onlyOf
    simp only [List.all_cons, List.all_nil, Bool.and_true]
    rw [decide_eq_true (show 1 ≤ r.length + 1 by omega), Bool.true_and]
    rw [show decide (r.length + 1 = s + 1) = decide (r.length = s) from decide_eq_decide.2 (by omega)]
    cases mk.contains b <;> cases decide (r.length = s) <;> simp
theorem mk_byte (b : UInt8) : mk.contains b = (decide (b.toNat = 67) || decide (b.toNat = 68)) := byte_of (P := fun b => mk.contains b = (decide (b.toNat = 67) || decide (b.toNat = 68))) (by decide +kernel) b
set_option maxRecDepth 20000 in
set_option maxHeartbeats 2000000 in
theorem rright_walk {k : Int} {s : Nat} {c : Int} {t : List UInt8} (w : World) (hk : 1 ≤ k ∧ k ≤ 5) (hs : 1 ≤ s ∧ s ≤ 64) (hl : t.length ≤ 9223372036854775807) :
    Calls Tryz.prog 56 #[fmV ⟨k, (s : Int), c⟩, strV t] w fun e w' => e = .returned (.bool (Fm.right ⟨k, (s : Int), c⟩ t)) ∧ Turn nowhere w w' := by
  have HL := Lib.hid hl
  have HS := Lib.hid hs
  clear hl hs
  unfold fmV
  go_enter Tryz.func56, Tryz.ntmps56
  go_upto_region 1 with fail
  have hb0 := Blk.new w 24 #[.int .i64 k, .int .i64 (s : Int), .int .i64 c]
  have ht0 := (Turn.refl nowhere w).alloc (.cells #[.int .i64 k, .int .i64 (s : Int), .int .i64 c] 24)
  generalize (w.alloc (.cells #[.int .i64 k, .int .i64 (s : Int), .int .i64 c] 24)) = w1 at *
  generalize w.heap.size = b2 at *
  have c0 : w1.cell? ⟨b2, 0, none⟩ = some (.int .i64 k) := hb0.cell 0
  have c1 : w1.cell? ⟨b2, 1, none⟩ = some (.int .i64 (s : Int)) := hb0.cell 1
  have HT1 := Lib.hid ht0
  clear hb0 ht0
  obtain ⟨n, hn⟩ : ∃ n, n = t.length := ⟨_, rfl⟩
  have HN := Lib.hid hn
  clear hn
  have hck : k = 1 ∨ k = 2 ∨ k = 3 ∨ k = 4 ∨ k = 5 := by omega
  clear hk
  rcases hck with rfl | rfl | rfl | rfl | rfl
  · have HD := Lib.hid (show Fm.right ⟨1, (s : Int), c⟩ t = (decide (n = s) && onlyOf t dec) from by rw [HN.out]; exact right_n)
    go_upto_region 3 with fail
    refine wp_region_lit ?_
    refine wR (v := strV t) rfl (exec_move rfl rfl) ?_
    simp only [Act.put, zzA, zz0, zz1]
    refine wR (v := .int .i64 (n : Int)) (w' := w1) rfl (by rw [HN.out]; exact exec_slen rfl rfl) ?_
    simp only [Act.put, zzA, zz0, zz1]
    by_cases he : n = s
    · have HE := Lib.hid (show decide (n = s) = true from decide_eq_true he)
      have y5 : (n : Int) = (s : Int) := by omega
      clear he
      go_wp2_with (go_at_call 83; refine (all_walk t _ HL.out).mono ?_; rintro e w2 ⟨rfl, rfl⟩)
      go_ret
      rw [HD.out, HE.out]
      exact ⟨by simp, HT1.out⟩
    · have HE := Lib.hid (show decide (n = s) = false from decide_eq_false he)
      have y5 : ¬ ((n : Int) = (s : Int)) := by omega
      clear he
      go_wp2_with fail
      go_ret
      rw [HD.out, HE.out]
      exact ⟨by simp, HT1.out⟩
  · have HD := Lib.hid (show Fm.right ⟨2, (s : Int), c⟩ t = (decide (1 ≤ n ∧ n ≤ s) && onlyOf t dec) from by rw [HN.out]; exact right_l)
    go_upto_region 5 with fail
    refine wp_region_lit ?_
    refine wR (v := strV t) rfl (exec_move rfl rfl) ?_
    simp only [Act.put, zzA, zz0, zz1]
    refine wR (v := .int .i64 (n : Int)) (w' := w1) rfl (by rw [HN.out]; exact exec_slen rfl rfl) ?_
    simp only [Act.put, zzA, zz0, zz1]
    by_cases h1 : 1 ≤ n
    · refine wR (v := .bool true) (w' := w1) rfl (by go_simp <;> omega) ?_
      simp only [Act.put, zzA, zz0, zz1]
      refine wR (v := .bool true) rfl (exec_move rfl rfl) ?_
      simp only [Act.put, zzA, zz0, zz1]
      refine wR (v := strV t) rfl (exec_move rfl rfl) ?_
      simp only [Act.put, zzA, zz0, zz1]
      refine wR (v := .int .i64 (n : Int)) (w' := w1) rfl (by rw [HN.out]; exact exec_slen rfl rfl) ?_
      simp only [Act.put, zzA, zz0, zz1]
      by_cases h2 : n ≤ s
      · have HE := Lib.hid (show decide (1 ≤ n ∧ n ≤ s) = true from decide_eq_true ⟨h1, h2⟩)
        have y5 : (n : Int) ≤ (s : Int) := by omega
        clear h1 h2
        go_wp2_with (go_at_call 83; refine (all_walk t _ HL.out).mono ?_; rintro e w2 ⟨rfl, rfl⟩)
        go_ret
        rw [HD.out, HE.out]
        exact ⟨by simp, HT1.out⟩
      · have HE := Lib.hid (show decide (1 ≤ n ∧ n ≤ s) = false from decide_eq_false (by omega))
        have y5 : ¬ ((n : Int) ≤ (s : Int)) := by omega
        clear h1 h2
        go_wp2_with fail
        go_ret
        rw [HD.out, HE.out]
        exact ⟨by simp, HT1.out⟩
    · have HE := Lib.hid (show decide (1 ≤ n ∧ n ≤ s) = false from decide_eq_false (by omega))
      have y5 : ¬ (1 ≤ (n : Int)) := by omega
      clear h1
      go_wp2_with fail
      go_ret
      rw [HD.out, HE.out]
      exact ⟨by simp, HT1.out⟩
  · have HD := Lib.hid (show Fm.right ⟨3, (s : Int), c⟩ t = (decide (n = s) && onlyOf t sgn) from by rw [HN.out]; exact right_an)
    go_upto_region 9 with fail
    go_wp2_with fail
    go_loopg [5] n (fun gk i wr => ∃ k : Nat, k + gk = n ∧ i = .int .i64 (k : Int) ∧ wr = w1 ∧ onlyOf (t.take k) sgn = true)
    case atStart => exact ⟨0, by omega, rfl, rfl, rfl⟩
    obtain ⟨k, hkl, rfl, rfl, hin⟩ := hrel
    have HKL := Lib.hid hkl
    have HIN := Lib.hid hin
    clear hkl hin
    go_upto_region 10 with fail
    refine wp_region_lit ?_
    refine wR (v := .int .i64 (k : Int)) rfl (exec_move rfl rfl) ?_
    simp only [Act.put, zzA, zz0, zz1]
    refine wR (v := strV t) rfl (exec_move rfl rfl) ?_
    simp only [Act.put, zzA, zz0, zz1]
    refine wR (v := .int .i64 (n : Int)) (w' := wr) rfl (by rw [HN.out]; exact exec_slen rfl rfl) ?_
    simp only [Act.put, zzA, zz0, zz1]
    by_cases hlt : k < n
    · have y1 : (k : Int) < (n : Int) := by omega
      have y3 : (n : Int) ≤ 9223372036854775807 := by have := HN.out; have := HL.out; omega
      go_upto_region 12 with fail
      refine wp_region_lit ?_
      refine wR (v := strV t) rfl (exec_move rfl rfl) ?_
      simp only [Act.put, zzA, zz0, zz1]
      refine wR (v := .int .i64 (k : Int)) rfl (exec_move rfl rfl) ?_
      simp only [Act.put, zzA, zz0, zz1]
      refine wR (v := .int .u8 ((t.getD k 0).toNat : Int)) (w' := wr) rfl (exec_sidx rfl rfl rfl (by rw [← HN.out]; exact hlt)) ?_
      simp only [Act.put, zzA, zz0, zz1]
      have HLT := Lib.hid hlt
      clear hlt
      have hd := sign_walk (t.getD k 0) wr
      have hp : sgn.contains (t.getD k 0) = false → onlyOf t sgn = false := only_part (by rw [← HN.out]; exact HLT.out)
      have hs : sgn.contains (t.getD k 0) = true → onlyOf (t.take (k + 1)) sgn = true := only_step (by rw [← HN.out]; exact HLT.out) HIN.out
      have HP := Lib.hid hp
      have HSS := Lib.hid hs
      clear hp hs HIN
      generalize t.getD k 0 = b at *
      cases hq : sgn.contains b with
      | true =>
        rw [hq] at hd
        have HIN := Lib.hid (HSS.out hq)
        go_wp2_with (go_at_call 84; refine hd.mono ?_; rintro e w2 ⟨rfl, rfl⟩)
        go_roundg (gk - 1)
        case measure => have := HKL.out; have := HLT.out; omega
        case rel => exact ⟨k + 1, by have := HKL.out; have := HLT.out; omega, by go_num, rfl, HIN.out⟩
      | false =>
        rw [hq] at hd
        have HIN := Lib.hid (HP.out hq)
        go_wp2_with (go_at_call 84; refine hd.mono ?_; rintro e w2 ⟨rfl, rfl⟩)
        go_ret
        rw [HD.out, HIN.out, Bool.and_false]
        exact ⟨rfl, HT1.out⟩
    · have hke : k = n := by have := HKL.out; omega
      have y1 : ¬ ((k : Int) < (n : Int)) := by omega
      have HALL := Lib.hid (show onlyOf t sgn = true by
        have := HIN.out
        rwa [List.take_of_length_le (by rw [← HN.out]; omega)] at this)
      clear hlt hke
      go_upto_region 14 with fail
      refine wp_region_lit ?_
      refine wR (v := strV t) rfl (exec_move rfl rfl) ?_
      simp only [Act.put, zzA, zz0, zz1]
      refine wR (v := .int .i64 (n : Int)) (w' := wr) rfl (by rw [HN.out]; exact exec_slen rfl rfl) ?_
      simp only [Act.put, zzA, zz0, zz1]
      refine wR (v := .pointer (some ⟨b2, 1, none⟩)) (w' := wr) rfl (by go_simp) ?_
      simp only [Act.put, zzA, zz0, zz1]
      refine wR (v := .int .i64 (s : Int)) rfl (exec_load1 rfl rfl (by kernel_rfl) c1) ?_
      simp only [Act.put, zzA, zz0, zz1]
      by_cases he : n = s
      · have HE := Lib.hid (show decide (n = s) = true from decide_eq_true he)
        refine wR (v := .bool true) (w' := wr) rfl (by go_simp <;> omega) ?_
        simp only [Act.put, zzA, zz0, zz1]
        clear he
        go_wp2_with fail
        go_ret
        rw [HD.out, HALL.out, HE.out]
        exact ⟨rfl, HT1.out⟩
      · have HE := Lib.hid (show decide (n = s) = false from decide_eq_false he)
        refine wR (v := .bool false) (w' := wr) rfl (by go_simp <;> omega) ?_
        simp only [Act.put, zzA, zz0, zz1]
        clear he
        go_wp2_with fail
        go_ret
        rw [HD.out, HE.out, Bool.false_and]
        exact ⟨rfl, HT1.out⟩
  · have HD := Lib.hid (show Fm.right ⟨4, (s : Int), c⟩ t = (decide (n = 2 * s) && onlyOf t hexs) from by rw [HN.out]; exact right_b)
    go_upto_region 15 with fail
    go_wp2_with fail
    go_loopg [6] n (fun gk i wr => ∃ k : Nat, k + gk = n ∧ i = .int .i64 (k : Int) ∧ wr = w1 ∧ onlyOf (t.take k) hexs = true)
    case atStart => exact ⟨0, by omega, rfl, rfl, rfl⟩
    obtain ⟨k, hkl, rfl, rfl, hin⟩ := hrel
    have HKL := Lib.hid hkl
    have HIN := Lib.hid hin
    clear hkl hin
    go_upto_region 16 with fail
    refine wp_region_lit ?_
    refine wR (v := .int .i64 (k : Int)) rfl (exec_move rfl rfl) ?_
    simp only [Act.put, zzA, zz0, zz1]
    refine wR (v := strV t) rfl (exec_move rfl rfl) ?_
    simp only [Act.put, zzA, zz0, zz1]
    refine wR (v := .int .i64 (n : Int)) (w' := wr) rfl (by rw [HN.out]; exact exec_slen rfl rfl) ?_
    simp only [Act.put, zzA, zz0, zz1]
    by_cases hlt : k < n
    · have y1 : (k : Int) < (n : Int) := by omega
      have y3 : (n : Int) ≤ 9223372036854775807 := by have := HN.out; have := HL.out; omega
      go_upto_region 18 with fail
      refine wp_region_lit ?_
      refine wR (v := strV t) rfl (exec_move rfl rfl) ?_
      simp only [Act.put, zzA, zz0, zz1]
      refine wR (v := .int .i64 (k : Int)) rfl (exec_move rfl rfl) ?_
      simp only [Act.put, zzA, zz0, zz1]
      refine wR (v := .int .u8 ((t.getD k 0).toNat : Int)) (w' := wr) rfl (exec_sidx rfl rfl rfl (by rw [← HN.out]; exact hlt)) ?_
      simp only [Act.put, zzA, zz0, zz1]
      have HLT := Lib.hid hlt
      clear hlt
      have hd := hex_walk (t.getD k 0) wr
      have hp : hexs.contains (t.getD k 0) = false → onlyOf t hexs = false := only_part (by rw [← HN.out]; exact HLT.out)
      have hs : hexs.contains (t.getD k 0) = true → onlyOf (t.take (k + 1)) hexs = true := only_step (by rw [← HN.out]; exact HLT.out) HIN.out
      have HP := Lib.hid hp
      have HSS := Lib.hid hs
      clear hp hs HIN
      generalize t.getD k 0 = b at *
      cases hq : hexs.contains b with
      | true =>
        rw [hq] at hd
        have HIN := Lib.hid (HSS.out hq)
        go_wp2_with (go_at_call 85; refine hd.mono ?_; rintro e w2 ⟨rfl, rfl⟩)
        go_roundg (gk - 1)
        case measure => have := HKL.out; have := HLT.out; omega
        case rel => exact ⟨k + 1, by have := HKL.out; have := HLT.out; omega, by go_num, rfl, HIN.out⟩
      | false =>
        rw [hq] at hd
        have HIN := Lib.hid (HP.out hq)
        go_wp2_with (go_at_call 85; refine hd.mono ?_; rintro e w2 ⟨rfl, rfl⟩)
        go_ret
        rw [HD.out, HIN.out, Bool.and_false]
        exact ⟨rfl, HT1.out⟩
    · have hke : k = n := by have := HKL.out; omega
      have y1 : ¬ ((k : Int) < (n : Int)) := by omega
      have HALL := Lib.hid (show onlyOf t hexs = true by
        have := HIN.out
        rwa [List.take_of_length_le (by rw [← HN.out]; omega)] at this)
      clear hlt hke
      go_upto_region 20 with fail
      refine wp_region_lit ?_
      refine wR (v := strV t) rfl (exec_move rfl rfl) ?_
      simp only [Act.put, zzA, zz0, zz1]
      refine wR (v := .int .i64 (n : Int)) (w' := wr) rfl (by rw [HN.out]; exact exec_slen rfl rfl) ?_
      simp only [Act.put, zzA, zz0, zz1]
      refine wR (v := .pointer (some ⟨b2, 1, none⟩)) (w' := wr) rfl (by go_simp) ?_
      simp only [Act.put, zzA, zz0, zz1]
      refine wR (v := .int .i64 (s : Int)) rfl (exec_load1 rfl rfl (by kernel_rfl) c1) ?_
      simp only [Act.put, zzA, zz0, zz1]
      refine wR (v := .int .i64 ((2 * s : Nat) : Int)) (w' := wr) rfl (by have := HS.out; go_simp; rw [wrap_small (by omega) (by omega)]; try omega) ?_
      simp only [Act.put, zzA, zz0, zz1]
      by_cases he : n = 2 * s
      · have HE := Lib.hid (show decide (n = 2 * s) = true from decide_eq_true he)
        refine wR (v := .bool true) (w' := wr) rfl (by go_simp <;> omega) ?_
        simp only [Act.put, zzA, zz0, zz1]
        clear he
        go_wp2_with fail
        go_ret
        rw [HD.out, HALL.out, HE.out]
        exact ⟨rfl, HT1.out⟩
      · have HE := Lib.hid (show decide (n = 2 * s) = false from decide_eq_false he)
        refine wR (v := .bool false) (w' := wr) rfl (by go_simp <;> omega) ?_
        simp only [Act.put, zzA, zz0, zz1]
        clear he
        go_wp2_with fail
        go_ret
        rw [HD.out, HE.out, Bool.false_and]
        exact ⟨rfl, HT1.out⟩
  · have HD := Lib.hid (show Fm.right ⟨5, (s : Int), c⟩ t = (decide (n = s + 1) && (mk.contains (t.getD 0 0) && onlyOf (t.drop 1) dec)) from by rw [HN.out]; exact right_x)
    go_upto_region 7 with fail
    refine wp_region_lit ?_
    refine wR (v := strV t) rfl (exec_move rfl rfl) ?_
    simp only [Act.put, zzA, zz0, zz1]
    refine wR (v := .int .i64 (n : Int)) (w' := w1) rfl (by rw [HN.out]; exact exec_slen rfl rfl) ?_
    simp only [Act.put, zzA, zz0, zz1]
    refine wR (v := .pointer (some ⟨b2, 1, none⟩)) (w' := w1) rfl (by go_simp) ?_
    simp only [Act.put, zzA, zz0, zz1]
    refine wR (v := .int .i64 (s : Int)) rfl (exec_load1 rfl rfl (by kernel_rfl) c1) ?_
    simp only [Act.put, zzA, zz0, zz1]
    refine wR (v := .int .i64 ((s + 1 : Nat) : Int)) (w' := w1) rfl (by have := HS.out; go_simp; rw [wrap_small (by omega) (by omega)]; try omega) ?_
    simp only [Act.put, zzA, zz0, zz1]
    by_cases he : n = s + 1
    · have HE := Lib.hid (show decide (n = s + 1) = true from decide_eq_true he)
      refine wR (v := .bool true) (w' := w1) rfl (by go_simp <;> omega) ?_
      simp only [Act.put, zzA, zz0, zz1]
      refine wR (v := .bool true) rfl (exec_move rfl rfl) ?_
      simp only [Act.put, zzA, zz0, zz1]
      refine wR (v := strV t) rfl (exec_move rfl rfl) ?_
      simp only [Act.put, zzA, zz0, zz1]
      refine wR (v := .int .u8 ((t.getD 0 0).toNat : Int)) (w' := w1) rfl (exec_sidx rfl rfl rfl (by rw [← HN.out]; omega)) ?_
      simp only [Act.put, zzA, zz0, zz1]
      have HN1 := Lib.hid (show 1 ≤ t.length by rw [← HN.out]; omega)
      clear he
      have hm := mk_byte (t.getD 0 0)
      obtain ⟨b, hbe⟩ : ∃ b, b = t.getD 0 0 := ⟨_, rfl⟩
      rw [← hbe] at hm HD ⊢
      have HBE := Lib.hid hbe
      clear hbe
      have HM := Lib.hid hm
      clear hm
      have hx : ∀ W : World, Calls Tryz.prog 83 #[strV (t.drop 1)] W fun e w' => e = .returned (.bool (onlyOf (t.drop 1) dec)) ∧ w' = W := fun W => all_walk (t.drop 1) W (by have := HL.out; simp; omega)
      obtain ⟨td, htd⟩ : ∃ td, td = t.drop 1 := ⟨_, rfl⟩
      rw [← htd] at hx HD
      have HTD := Lib.hid htd
      have HX := Lib.hid hx
      clear hx htd
      generalize hq : onlyOf td dec = q at *
      clear hq
      by_cases h7 : b.toNat = 67
      · have HM2 := Lib.hid (show mk.contains b = true from by rw [HM.out, decide_eq_true h7]; rfl)
        refine wR (v := .bool true) (w' := w1) rfl (by go_simp <;> omega) ?_
        simp only [Act.put, zzA, zz0, zz1]
        refine wR (v := .bool true) rfl (exec_move rfl rfl) ?_
        simp only [Act.put, zzA, zz0, zz1]
        refine wpList_skip rfl ?_
        simp only [Act.put, zzA, zz0, zz1]
        refine wpList_skip rfl ?_
        simp only [Act.put, zzA, zz0, zz1]
        refine wpList_skip rfl ?_
        simp only [Act.put, zzA, zz0, zz1]
        refine wR (v := .bool true) (w' := w1) rfl (by go_simp) ?_
        simp only [Act.put, zzA, zz0, zz1]
        refine wR (v := .bool true) (w' := w1) rfl (by go_simp) ?_
        simp only [Act.put, zzA, zz0, zz1]
        refine wR (v := .bool true) rfl (exec_move rfl rfl) ?_
        simp only [Act.put, zzA, zz0, zz1]
        refine wR (v := strV t) rfl (exec_move rfl rfl) ?_
        simp only [Act.put, zzA, zz0, zz1]
        refine wR (v := strV td) (w' := w1) rfl (by rw [HTD.out]; exact exec_sfrom (n := 1) rfl rfl rfl HN1.out) ?_
        simp only [Act.put, zzA, zz0, zz1]
        go_wp2_with (go_at_call 83; refine (HX.out _).mono ?_; rintro e w2 ⟨rfl, rfl⟩)
        go_ret
        rw [HD.out, HE.out, HM2.out]
        exact ⟨by simp, HT1.out⟩
      · by_cases h8 : b.toNat = 68
        · have HM2 := Lib.hid (show mk.contains b = true from by rw [HM.out, decide_eq_true h8, Bool.or_true])
          refine wR (v := .bool false) (w' := w1) rfl (by go_simp <;> omega) ?_
          simp only [Act.put, zzA, zz0, zz1]
          refine wR (v := .bool false) rfl (exec_move rfl rfl) ?_
          simp only [Act.put, zzA, zz0, zz1]
          refine wR (v := strV t) rfl (exec_move rfl rfl) ?_
          simp only [Act.put, zzA, zz0, zz1]
          refine wR (v := .int .u8 (b.toNat : Int)) (w' := w1) rfl (by rw [HBE.out]; exact exec_sidx rfl rfl rfl (by have := HN1.out; omega)) ?_
          simp only [Act.put, zzA, zz0, zz1]
          refine wR (v := .bool true) (w' := w1) rfl (by go_simp <;> omega) ?_
          simp only [Act.put, zzA, zz0, zz1]
          refine wR (v := .bool true) (w' := w1) rfl (by go_simp) ?_
          simp only [Act.put, zzA, zz0, zz1]
          refine wR (v := .bool true) (w' := w1) rfl (by go_simp) ?_
          simp only [Act.put, zzA, zz0, zz1]
          refine wR (v := .bool true) rfl (exec_move rfl rfl) ?_
          simp only [Act.put, zzA, zz0, zz1]
          refine wR (v := strV t) rfl (exec_move rfl rfl) ?_
          simp only [Act.put, zzA, zz0, zz1]
          refine wR (v := strV td) (w' := w1) rfl (by rw [HTD.out]; exact exec_sfrom (n := 1) rfl rfl rfl HN1.out) ?_
          simp only [Act.put, zzA, zz0, zz1]
          go_wp2_with (go_at_call 83; refine (HX.out _).mono ?_; rintro e w2 ⟨rfl, rfl⟩)
          go_ret
          rw [HD.out, HE.out, HM2.out]
          exact ⟨by simp, HT1.out⟩
        · have HM2 := Lib.hid (show mk.contains b = false from by rw [HM.out]; simp only [decide_eq_false h7, decide_eq_false h8]; rfl)
          refine wR (v := .bool false) (w' := w1) rfl (by go_simp <;> omega) ?_
          simp only [Act.put, zzA, zz0, zz1]
          refine wR (v := .bool false) rfl (exec_move rfl rfl) ?_
          simp only [Act.put, zzA, zz0, zz1]
          refine wR (v := strV t) rfl (exec_move rfl rfl) ?_
          simp only [Act.put, zzA, zz0, zz1]
          refine wR (v := .int .u8 (b.toNat : Int)) (w' := w1) rfl (by rw [HBE.out]; exact exec_sidx rfl rfl rfl (by have := HN1.out; omega)) ?_
          simp only [Act.put, zzA, zz0, zz1]
          refine wR (v := .bool false) (w' := w1) rfl (by go_simp <;> omega) ?_
          simp only [Act.put, zzA, zz0, zz1]
          go_wp2_with fail
          go_ret
          rw [HD.out, HM2.out, Bool.false_and, Bool.and_false]
          exact ⟨rfl, HT1.out⟩
    · have HE := Lib.hid (show decide (n = s + 1) = false from decide_eq_false he)
      have y5 : ¬ ((n : Int) = ((s + 1 : Nat) : Int)) := by omega
      clear he
      go_wp2_with fail
      go_ret
      rw [HD.out, HE.out]
      exact ⟨by simp, HT1.out⟩
end Go.Proofs.YtkbdijkoedmgnaaGreatDoor
namespace Go.Proofs.YtkbdijkoedmgnaaGreatDoor
open Go.RowKit
open Fdd
set_option linter.unusedVariables false
set_option linter.unusedSimpArgs false
set_option maxRecDepth 20000 in
theorem fld_neq {a : Act} {o : Oper} {W : World} {x y : Operand} {u : TypeId} {f g : Fld} (ho : o.op = .binOp .neq 46 x y u) (hx : a.eval x = .agg (fldA f)) (hy : a.eval y = .agg (fldA g)) : (execOp a.eval o).run Tryz.prog W = .ok (.value (.bool (!(decide (f = g))))) W := by
  unfold execOp
  simp only [ho, hx, hy, fldA, strV]
  go_simp
  obtain ⟨a1, a2⟩ := f
  obtain ⟨b1, b2⟩ := g
  by_cases h : a1 = b1 <;> by_cases h2 : a2 = b2 <;> simp [h, h2]
theorem fsame_step {fs gs : List Fld} {k : Nat} {f g : Fld} (h : fs.take k = gs.take k) (hf : fs[k]? = some f) (hg : gs[k]? = some g) (e : f = g) : fs.take (k + 1) = gs.take (k + 1) := by
  rw [List.take_add_one, List.take_add_one, h, hf, hg, e]
theorem fsame_not {fs gs : List Fld} {k : Nat} {f g : Fld} (hf : fs[k]? = some f) (hg : gs[k]? = some g) (e : ¬ f = g) : ¬ fs = gs := by
  rintro rfl
  rw [hf] at hg
  injection hg with hg
  exact e hg
set_option maxRecDepth 20000 in
set_option maxHeartbeats 1000000 in
theorem Same_walk {w : World} {ty1 ty2 : Int} {A1 A2 : Option Addr} {n1 c1 n2 c2 : Nat} {fs1 fs2 : List Fld} (h1 : Fl w A1 n1 fs1) (h2 : Fl w A2 n2 fs2) :
    Calls Tryz.prog 20 #[msgV ty1 A1 n1 c1, msgV ty2 A2 n2 c2] w fun e w' => e = .returned (.bool (decide (ty1 = ty2 ∧ fs1 = fs2))) ∧ Turn nowhere w w' := by
  unfold msgV
  have hb1 := (Blk.new w 31 #[.int .i64 ty1, .slice A1 n1 c1]).alloc (.cells #[.int .i64 ty2, .slice A2 n2 c2] 31)
  have hb2 := Blk.new (w.alloc (.cells #[.int .i64 ty1, .slice A1 n1 c1] 31)) 31 #[.int .i64 ty2, .slice A2 n2 c2]
  have hu := ((Turn.refl nowhere w).alloc (.cells #[.int .i64 ty1, .slice A1 n1 c1] 31)).alloc (.cells #[.int .i64 ty2, .slice A2 n2 c2] 31)
  rw [show (w.alloc (.cells #[.int .i64 ty1, .slice A1 n1 c1] 31)).heap.size = w.heap.size + 1 from by simp] at hb2
  have HF1 := Lib.hid (h1.still hu)
  have HF2 := Lib.hid (h2.still hu)
  have HN1 := Lib.hid h1.1
  have HN2 := Lib.hid h2.1
  have HNM := Lib.hid h1.2.1
  have y9 : (n1 : Int) ≤ 140737488355328 := by
    have := h1.2.1
    omega
  have HU := Lib.hid hu
  have HB1 := Lib.hid hb1
  have HB2 := Lib.hid hb2
  clear h1 h2 hb1 hb2 hu
  go_enter Tryz.func20, Tryz.ntmps20
  go_upto_region 1 with fail
  generalize (w.alloc (.cells #[.int .i64 ty1, .slice A1 n1 c1] 31)).alloc (.cells #[.int .i64 ty2, .slice A2 n2 c2] 31) = w1 at *
  obtain ⟨p2, hp2⟩ : ∃ p, p = w.heap.size + 1 := ⟨_, rfl⟩
  obtain ⟨p1, hp1⟩ : ∃ p, p = w.heap.size := ⟨_, rfl⟩
  rw [← hp2] at HB2 ⊢
  rw [← hp1] at HB1 ⊢
  clear hp1 hp2
  refine wp_region_lit ?_
  refine wR (v := .pointer (some ⟨p1, 0, none⟩)) rfl (exec_field (off := 0) (d := 0) rfl rfl (by kernel_rfl)) ?_
  simp only [Act.put, zzA, zz0, zz1]
  refine wR (v := .int .i64 ty1) rfl (exec_load1 rfl rfl (by kernel_rfl) (HB1.out.cell 0)) ?_
  simp only [Act.put, zzA, zz0, zz1]
  refine wR (v := .pointer (some ⟨p2, 0, none⟩)) rfl (exec_field (off := 0) (d := 0) rfl rfl (by kernel_rfl)) ?_
  simp only [Act.put, zzA, zz0, zz1]
  refine wR (v := .int .i64 ty2) rfl (exec_load1 rfl rfl (by kernel_rfl) (HB2.out.cell 0)) ?_
  simp only [Act.put, zzA, zz0, zz1]
  by_cases ht : ty1 = ty2
  case neg =>
    have HR := Lib.hid (show decide (ty1 = ty2 ∧ fs1 = fs2) = false from decide_eq_false (fun h => ht h.1))
    refine wR (v := .bool true) rfl (ix_neq rfl rfl rfl (decide_eq_true ht)) ?_
    simp only [Act.put, zzA, zz0, zz1]
    refine wR (v := .bool true) rfl (exec_move rfl rfl) ?_
    simp only [Act.put, zzA, zz0, zz1]
    refine wpList_skip rfl ?_
    simp only [Act.put, zzA, zz0, zz1]
    refine wpList_skip rfl ?_
    simp only [Act.put, zzA, zz0, zz1]
    refine wpList_skip rfl ?_
    simp only [Act.put, zzA, zz0, zz1]
    refine wpList_skip rfl ?_
    simp only [Act.put, zzA, zz0, zz1]
    refine wpList_skip rfl ?_
    simp only [Act.put, zzA, zz0, zz1]
    refine wpList_skip rfl ?_
    simp only [Act.put, zzA, zz0, zz1]
    refine wpList_skip rfl ?_
    simp only [Act.put, zzA, zz0, zz1]
    refine wR (v := .bool true) rfl (ix_pickT rfl rfl rfl) ?_
    simp only [Act.put, zzA, zz0, zz1]
    clear ht
    go_wp2_with fail
    go_ret
    rw [HR.out]
    exact ⟨rfl, HU.out⟩
  refine wR (v := .bool false) rfl (ix_neq rfl rfl rfl (decide_eq_false (fun h => h ht))) ?_
  simp only [Act.put, zzA, zz0, zz1]
  refine wR (v := .bool false) rfl (exec_move rfl rfl) ?_
  simp only [Act.put, zzA, zz0, zz1]
  refine wR (v := .pointer (some ⟨p1, 1, none⟩)) rfl (exec_field (off := 0) (d := 1) rfl rfl (by kernel_rfl)) ?_
  simp only [Act.put, zzA, zz0, zz1]
  refine wR (v := .slice A1 n1 c1) rfl (exec_load1 rfl rfl (by kernel_rfl) (HB1.out.cell 1)) ?_
  simp only [Act.put, zzA, zz0, zz1]
  refine wR (v := .int .i64 (n1 : Int)) rfl (gx_len rfl rfl Tryz.underlying29) ?_
  simp only [Act.put, zzA, zz0, zz1]
  refine wR (v := .pointer (some ⟨p2, 1, none⟩)) rfl (exec_field (off := 0) (d := 1) rfl rfl (by kernel_rfl)) ?_
  simp only [Act.put, zzA, zz0, zz1]
  refine wR (v := .slice A2 n2 c2) rfl (exec_load1 rfl rfl (by kernel_rfl) (HB2.out.cell 1)) ?_
  simp only [Act.put, zzA, zz0, zz1]
  refine wR (v := .int .i64 (n2 : Int)) rfl (gx_len rfl rfl Tryz.underlying29) ?_
  simp only [Act.put, zzA, zz0, zz1]
  by_cases hn : n1 = n2
  case neg =>
    have HR := Lib.hid (show decide (ty1 = ty2 ∧ fs1 = fs2) = false from decide_eq_false (fun h => hn (by rw [← HN1.out, ← HN2.out, h.2])))
    refine wR (v := .bool true) rfl (ix_neq rfl rfl rfl (decide_eq_true (by omega))) ?_
    simp only [Act.put, zzA, zz0, zz1]
    refine wR (v := .bool true) rfl (ix_pickF rfl rfl rfl) ?_
    simp only [Act.put, zzA, zz0, zz1]
    clear ht hn
    go_wp2_with fail
    go_ret
    rw [HR.out]
    exact ⟨rfl, HU.out⟩
  subst hn
  subst ht
  refine wR (v := .bool false) rfl (ix_neq rfl rfl rfl (by simp)) ?_
  simp only [Act.put, zzA, zz0, zz1]
  refine wR (v := .bool false) rfl (ix_pickF rfl rfl rfl) ?_
  simp only [Act.put, zzA, zz0, zz1]
  go_wp2_with fail
  go_loopg [5] n1 (fun gk i wr => ∃ k : Nat, k + gk = n1 ∧ i = .int .i64 (k : Int) ∧ Turn nowhere w1 wr ∧ fs1.take k = fs2.take k)
  case atStart => exact ⟨0, by omega, rfl, Turn.refl _ _, rfl⟩
  obtain ⟨k, hkl, rfl, htr, htk⟩ := hrel
  have HKL := Lib.hid hkl
  have HTR := Lib.hid htr
  have HTK := Lib.hid htk
  have HB3 := Lib.hid (HB1.out.turn htr (fun e => e))
  have HB4 := Lib.hid (HB2.out.turn htr (fun e => e))
  clear hkl htr htk
  go_upto_region 4 with fail
  refine wp_region_lit ?_
  refine wR (v := .int .i64 (k : Int)) rfl (exec_move rfl rfl) ?_
  simp only [Act.put, zzA, zz0, zz1]
  refine wR (v := .pointer (some ⟨p1, 1, none⟩)) rfl (exec_field (off := 0) (d := 1) rfl rfl (by kernel_rfl)) ?_
  simp only [Act.put, zzA, zz0, zz1]
  refine wR (v := .slice A1 n1 c1) rfl (exec_load1 rfl rfl (by kernel_rfl) (HB3.out.cell 1)) ?_
  simp only [Act.put, zzA, zz0, zz1]
  refine wR (v := .int .i64 (n1 : Int)) rfl (gx_len rfl rfl Tryz.underlying29) ?_
  simp only [Act.put, zzA, zz0, zz1]
  by_cases hlt : k < n1
  · have HLT := Lib.hid hlt
    have y1 : (k : Int) < (n1 : Int) := by omega
    obtain ⟨B1, O1, rfl, hr1⟩ := HF1.out.2.2 (by omega)
    obtain ⟨B2, O2, rfl, hr2⟩ := HF2.out.2.2 (by omega)
    obtain ⟨f1, hf1⟩ : ∃ f, fs1[k]? = some f := ⟨_, List.getElem?_eq_getElem (show k < fs1.length from by rw [HN1.out]; exact hlt)⟩
    obtain ⟨f2, hf2⟩ : ∃ f, fs2[k]? = some f := ⟨_, List.getElem?_eq_getElem (show k < fs2.length from by rw [HN2.out]; exact hlt)⟩
    have hq1 : wr.rangeAt B1 (O1 + k * 2) (fldA f1).toList := fun j v hv => (HTR.out.cell (World.block_lt_of_cell? _ _ (hr1 k f1 hf1 j v hv)) (fun e => e)).trans (hr1 k f1 hf1 j v hv)
    have hq2 : wr.rangeAt B2 (O2 + k * 2) (fldA f2).toList := fun j v hv => (HTR.out.cell (World.block_lt_of_cell? _ _ (hr2 k f2 hf2 j v hv)) (fun e => e)).trans (hr2 k f2 hf2 j v hv)
    have HF3 := Lib.hid hf1
    have HF4 := Lib.hid hf2
    refine wR (v := .bool true) rfl (ix_lss rfl rfl rfl (decide_eq_true (by omega))) ?_
    simp only [Act.put, zzA, zz0, zz1]
    have hS0 : (fun W : World => Blk W p1 31 #[.int .i64 ty1, .slice (some ⟨B1, O1, none⟩) n1 c1] ∧ Blk W p2 31 #[.int .i64 ty1, .slice (some ⟨B2, O2, none⟩) n1 c2] ∧ W.rangeAt B1 (O1 + k * 2) (fldA f1).toList ∧ W.rangeAt B2 (O2 + k * 2) (fldA f2).toList) wr.drew := ⟨HB3.out.drew, HB4.out.drew, hq1, hq2⟩
    have HTD := Lib.hid (HTR.out.next (Turn.drew (Turn.refl nowhere wr)))
    clear hr1 hr2 hf1 hf2 hq1 hq2 hlt HB3 HB4 HTR
    go_upto_region 6 with fail
    refine wp_region_alw (fun W => Blk W p1 31 #[.int .i64 ty1, .slice (some ⟨B1, O1, none⟩) n1 c1] ∧ Blk W p2 31 #[.int .i64 ty1, .slice (some ⟨B2, O2, none⟩) n1 c2] ∧ W.rangeAt B1 (O1 + k * 2) (fldA f1).toList ∧ W.rangeAt B2 (O2 + k * 2) (fldA f2).toList) (by kernel_rfl) ?_
    generalize wr.drew = w3 at *
    refine alw_take (i := 0) (v := .pointer (some ⟨p1, 1, none⟩)) rfl (by kernel_rfl) (by kernel_rfl) (fun _ _ _ h => h) (.inl ⟨by rfl, fun W hW => exec_field (off := 0) (d := 1) rfl rfl (by kernel_rfl)⟩) hS0 ?_
    simp only [Act.put, zzA, zz0, zz1]
    refine alw_take (i := 1) (v := .slice (some ⟨B1, O1, none⟩) n1 c1) rfl (by kernel_rfl) (by kernel_rfl) (fun _ _ _ h => h) (.inl ⟨by rfl, fun W hW => exec_load1 rfl rfl (by kernel_rfl) (hW.1.cell 1)⟩) hS0 ?_
    simp only [Act.put, zzA, zz0, zz1]
    refine alw_take (i := 2) (v := .int .i64 (k : Int)) rfl (by kernel_rfl) (by kernel_rfl) (fun _ _ _ h => h) (.inl ⟨by rfl, fun W hW => exec_move rfl rfl⟩) hS0 ?_
    simp only [Act.put, zzA, zz0, zz1]
    refine alw_take (i := 3) (v := .pointer (some ⟨B1, O1 + k * 2, none⟩)) rfl (by kernel_rfl) (by kernel_rfl) (fun _ _ _ h => h) (.inl ⟨by rfl, fun W hW => gx_iaddr (i := k) (sz := 2) rfl rfl rfl Tryz.underlying29 size_field HLT.out (by omega)⟩) hS0 ?_
    simp only [Act.put, zzA, zz0, zz1]
    refine alw_take (i := 4) (v := .agg (fldA f1)) rfl (by kernel_rfl) (by kernel_rfl) (fun _ _ _ h => h) (.inl ⟨by rfl, fun W hW => gx_loads rfl rfl hW.2.2.1 Tryz.underlying46 rfl (by rw [size_field]; rfl)⟩) hS0 ?_
    simp only [Act.put, zzA, zz0, zz1]
    refine alw_take (i := 5) (v := .pointer (some ⟨p2, 1, none⟩)) rfl (by kernel_rfl) (by kernel_rfl) (fun _ _ _ h => h) (.inl ⟨by rfl, fun W hW => exec_field (off := 0) (d := 1) rfl rfl (by kernel_rfl)⟩) hS0 ?_
    simp only [Act.put, zzA, zz0, zz1]
    refine alw_take (i := 6) (v := .slice (some ⟨B2, O2, none⟩) n1 c2) rfl (by kernel_rfl) (by kernel_rfl) (fun _ _ _ h => h) (.inl ⟨by rfl, fun W hW => exec_load1 rfl rfl (by kernel_rfl) (hW.2.1.cell 1)⟩) hS0 ?_
    simp only [Act.put, zzA, zz0, zz1]
    refine alw_take (i := 7) (v := .int .i64 (k : Int)) rfl (by kernel_rfl) (by kernel_rfl) (fun _ _ _ h => h) (.inl ⟨by rfl, fun W hW => exec_move rfl rfl⟩) hS0 ?_
    simp only [Act.put, zzA, zz0, zz1]
    refine alw_take (i := 8) (v := .pointer (some ⟨B2, O2 + k * 2, none⟩)) rfl (by kernel_rfl) (by kernel_rfl) (fun _ _ _ h => h) (.inl ⟨by rfl, fun W hW => gx_iaddr (i := k) (sz := 2) rfl rfl rfl Tryz.underlying29 size_field HLT.out (by omega)⟩) hS0 ?_
    simp only [Act.put, zzA, zz0, zz1]
    refine alw_take (i := 9) (v := .agg (fldA f2)) rfl (by kernel_rfl) (by kernel_rfl) (fun _ _ _ h => h) (.inl ⟨by rfl, fun W hW => gx_loads rfl rfl hW.2.2.2 Tryz.underlying46 rfl (by rw [size_field]; rfl)⟩) hS0 ?_
    simp only [Act.put, zzA, zz0, zz1]
    refine alw_take (i := 10) (v := .bool (!(decide (f1 = f2)))) rfl (by kernel_rfl) (by kernel_rfl) (fun _ _ _ h => h) (.inl ⟨by rfl, fun W hW => fld_neq rfl rfl rfl⟩) hS0 ?_
    simp only [Act.put, zzA, zz0, zz1]
    refine alw_done rfl ?_
    clear hS0
    refine NoPanic.normal ?_
    by_cases heq : f1 = f2
    · have HTK2 := Lib.hid (fsame_step HTK.out HF3.out HF4.out heq)
      rw [decide_eq_true heq]
      clear heq
      go_wp2_with fail
      go_roundg (gk - 1)
      case measure => have := HKL.out; have := HLT.out; omega
      case rel => exact ⟨k + 1, by have := HKL.out; have := HLT.out; omega, by go_num, HTD.out, HTK2.out⟩
    · have HR := Lib.hid (show decide (fs1 = fs2) = false from decide_eq_false (fun h => fsame_not HF3.out HF4.out heq h))
      rw [decide_eq_false heq]
      clear heq
      go_wp2_with fail
      go_ret
      rw [HR.out]
      exact ⟨rfl, HU.out.next HTD.out⟩
  · have HR := Lib.hid (show decide (fs1 = fs2) = true from by
      have h1 := HTK.out
      rw [List.take_of_length_le (by rw [HN1.out]; omega), List.take_of_length_le (by rw [HN2.out]; omega)] at h1
      exact decide_eq_true h1)
    refine wR (v := .bool false) rfl (ix_lss rfl rfl rfl (decide_eq_false (by omega))) ?_
    simp only [Act.put, zzA, zz0, zz1]
    clear hlt
    go_wp2_with fail
    go_ret
    rw [HR.out]
    exact ⟨rfl, HU.out.next HTR.out⟩
end Go.Proofs.YtkbdijkoedmgnaaGreatDoor
namespace Go.Proofs.YtkbdijkoedmgnaaGreatDoor
open Go.RowKit
set_option linter.unusedVariables false
set_option linter.unusedSimpArgs false
theorem wpList_new {P : Program} {ops : Array Oper} {rest : List Oper} {o1 o2 : Oper} {a : Act} {w : World} {Q : Exit → Act → World → Prop} {zs : Array Value} (ty : TypeId) (x y : Operand) (cells : Array Value)
    (hg1 : Region.wanted o1 (yielded ops a.tmps) = true) (ho1 : o1.op = .alloc ty) (hz : (zeroValue ty).run P w = .ok (.agg zs) w) (hzs : (Value.agg zs).cells = zs)
    (hg2 : Region.wanted o2 (yielded ops (a.put o1.dst (.pointer (some ⟨w.heap.size, 0, none⟩))).tmps) = true) (ho2 : o2.op = .store ty x y)
    (hx : (a.put o1.dst (.pointer (some ⟨w.heap.size, 0, none⟩))).eval x = .pointer (some ⟨w.heap.size, 0, none⟩)) (hy : (a.put o1.dst (.pointer (some ⟨w.heap.size, 0, none⟩))).eval y = .agg cells)
    (hs : zs.size = cells.size) (hi : (P.info? ty).map (·.size) = some cells.size) (h1 : ∀ v ∈ cells.toList, v.oneCell' = true)
    (h : ∀ w' g, w.heap.size ≤ g → Blk w' g ty cells → Turn nowhere w w' → wpList P ops Q rest ((a.put o1.dst (.pointer (some ⟨g, 0, none⟩))).put o2.dst undef) w') : wpList P ops Q (o1 :: o2 :: rest) a w := by
  have hb := Blk.new w ty (Value.agg zs).cells
  have hu := (Turn.refl nowhere w).alloc (.cells (Value.agg zs).cells ty)
  refine wpList_run hg1 (gx_alloc ho1 hz) ?_
  refine wpList_store_row hg2 ty x y ho2 cells hb hx hy (by rw [hzs]; exact hs) hi h1 fun w' hb' hu' => ?_
  refine h w' _ (Nat.le_refl _) hb' (hu.trans hu' fun k hk e => ?_)
  have e : k = w.heap.size := e
  omega
theorem bx_slice3 {P : Program} {a : Act} {o : Oper} {t : TypeId} {x y z : Operand} {u v r q : Value} {W W' : World} (ho : o.op = .buildSlice t 3 #[(0, x), (1, y), (2, z)]) (hx : a.eval x = u) (hy : a.eval y = v) (hz : a.eval z = r)
    (h : (Instr.buildSlice t 3 #[(0, u), (1, v), (2, r)]).run P W = .ok q W') : (execOp a.eval o).run P W = .ok (.value q) W' := by
  unfold execOp
  simp only [ho, List.map_toArray, List.map_cons, List.map_nil, hx, hy, hz, h, Sem.run_bind, Sem.run_pure, Result.andThen_ok]
theorem bx_slice0 {P : Program} {a : Act} {o : Oper} {t : TypeId} {q : Value} {W W' : World} (ho : o.op = .buildSlice t 0 #[])
    (h : (Instr.buildSlice t 0 #[]).run P W = .ok q W') : (execOp a.eval o).run P W = .ok (.value q) W' := by
  unfold execOp
  simp only [ho, List.map_toArray, List.map_nil, h, Sem.run_bind, Sem.run_pure, Result.andThen_ok]
end Go.Proofs.YtkbdijkoedmgnaaGreatDoor
namespace Go.Proofs.YtkbdijkoedmgnaaGreatDoor
open Go.RowKit
open Fdd
set_option linter.unusedVariables false
theorem rcheck_walk {f : Fm} {t : List UInt8} (w : World) (hl : t.length ≤ 9223372036854775807) :
    Calls Tryz.prog 37 #[fmV f, strV t] w fun e w' => e = .returned (.int .i64 (f.check t)) ∧ Turn nowhere w w' := by
  have HM := Lib.hid (fun W => rmay_walk f W)
  have hr : f.may = true → ∀ W, Calls Tryz.prog 56 #[fmV f, strV t] W fun e w' => e = .returned (.bool (f.right t)) ∧ Turn nowhere W w' := by
    intro hm W
    obtain ⟨k, s, c, rfl, h1, h2, h3⟩ := fm_exp hm
    exact rright_walk W (by omega) h3 hl
  have HR := Lib.hid hr
  clear hr hl
  have hck : f.check t = if f.may = true then if f.right t = true then 0 else 41 else 40 := rfl
  have HCK := Lib.hid hck
  clear hck
  obtain ⟨x0, x1, x2⟩ := f
  have hfv : fmV ⟨x0, x1, x2⟩ = .agg #[.int .i64 x0, .int .i64 x1, .int .i64 x2] := rfl
  rw [hfv] at HM HR ⊢
  clear hfv
  go_enter Tryz.func37, Tryz.ntmps37
  go_upto_region 1 with fail
  have hb0 := Blk.new w 24 #[.int .i64 x0, .int .i64 x1, .int .i64 x2]
  have ht0 := (Turn.refl nowhere w).alloc (.cells #[.int .i64 x0, .int .i64 x1, .int .i64 x2] 24)
  generalize (w.alloc (.cells #[.int .i64 x0, .int .i64 x1, .int .i64 x2] 24)) = w0 at *
  generalize w.heap.size = b2 at *
  have HB0 := Lib.hid hb0
  have HT0 := Lib.hid ht0
  clear hb0 ht0
  refine wp_region_lit ?_
  refine wR (v := .agg #[.int .i64 x0, .int .i64 x1, .int .i64 x2]) rfl (exec_load rfl rfl (load_blkForm HB0.out)) ?_
  simp only [Act.put, zzA, zz0, zz1]
  cases hm : Fm.may ⟨x0, x1, x2⟩ with
  | false =>
    rw [hm] at HM HCK
    go_wp2_with (go_at_call 55; refine (HM.out _).mono ?_; rintro e w1 ⟨rfl, ht1⟩)
    go_ret
    rw [HCK.out]
    exact ⟨rfl, HT0.out.next ht1⟩
  | true =>
    rw [hm] at HM HCK
    have HRR := Lib.hid (HR.out hm)
    clear HR
    go_upto_region 3 with (go_at_call 55; refine (HM.out _).mono ?_; rintro e w1 ⟨rfl, ht1⟩)
    have HT1 := Lib.hid (HT0.out.next ht1)
    have HB1 := Lib.hid (HB0.out.turn ht1 (fun e => e))
    clear ht1
    refine wp_region_lit ?_
    refine wR (v := .agg #[.int .i64 x0, .int .i64 x1, .int .i64 x2]) rfl (exec_load rfl rfl (load_blkForm HB1.out)) ?_
    simp only [Act.put, zzA, zz0, zz1]
    refine wR (v := strV t) rfl (exec_move rfl rfl) ?_
    simp only [Act.put, zzA, zz0, zz1]
    cases hrt : Fm.right ⟨x0, x1, x2⟩ t with
    | false =>
      rw [hrt] at HRR HCK
      go_wp2_with (go_at_call 56; refine (HRR.out _).mono ?_; rintro e w2 ⟨rfl, ht2⟩)
      go_ret
      rw [HCK.out]
      exact ⟨rfl, HT1.out.next ht2⟩
    | true =>
      rw [hrt] at HRR HCK
      go_wp2_with (go_at_call 56; refine (HRR.out _).mono ?_; rintro e w2 ⟨rfl, ht2⟩)
      go_ret
      rw [HCK.out]
      exact ⟨rfl, HT1.out.next ht2⟩
theorem put_own {f : Fm} {t : List UInt8} {W : World} (h : f.check t = 0) (hr : RowsT W) :
    Calls Tryz.prog 75 #[.slice none 0 0, fmV f, strV t] W fun e w' => ∃ A n c, e = .returned (.tuple #[.slice A n c, .int .i64 0]) ∧ Own w' W.heap.size 5 (.slice A n c) (f.put t) ∧ Turn nowhere W w' := by
  obtain ⟨hm, hrt⟩ := check_cases h
  obtain ⟨k, s, c, rfl, h1, h2, h3⟩ := fm_exp hm
  refine (put_main (cap := 0) h1 h2 h3 hrt hr (bs_nil W none) (by decide)).mono ?_
  rintro e w' ⟨A, n, c', rfl, ho, ht⟩
  rw [List.nil_append] at ho
  exact ⟨A, n, c', rfl, ho, ht⟩
theorem exec_nself {W : World} {a : Act} {o : Oper} {x y : Operand} {l : List UInt8} {t u : TypeId} (ho : o.op = .binOp .neq t x y u) (hx : a.eval x = strV l) (hy : a.eval y = strV l) : (execOp a.eval o).run Tryz.prog W = .ok (.value (.bool false)) W := by
  have h := exec_sneq (W := W) ho hx hy
  rwa [beq_self_eq_true] at h
/-- Take behind Put, and Take of less -/
theorem take_ok2 {f : Fm} {t rest : List UInt8} {W : World} {A : Option Addr} {n c : Nat} (h : f.check t = 0) (hr : RowsT W) (hb : Bs W A n (f.put t ++ rest)) (hn : n ≤ c) (hl : n ≤ 140737488355328) :
    Calls Tryz.prog 106 #[.slice A n c, fmV f] W fun e w' => ∃ A' n' c', e = .returned (.tuple #[strV t, .slice A' n' c', .int .i64 0]) ∧ Bs w' A' n' rest ∧ Turn nowhere W w' := by
  obtain ⟨hm, hrt⟩ := check_cases h
  obtain ⟨k, s, c', rfl, h1, h2, h3⟩ := fm_exp hm
  refine (take_main h1 h2 h3 hr hb hn hl).mono ?_
  rw [fm_back h1 h2 h3 hrt]
  rintro e w' ⟨⟨A', n', c'', rfl, ho⟩, ht⟩
  exact ⟨A', n', c'', rfl, (own_bs ho).1, ht⟩
theorem take_less {f : Fm} {t : List UInt8} {W : World} {A : Option Addr} {i c : Nat} (h : f.check t = 0) (hr : RowsT W) (hb : Bs W A i ((f.put t).take i)) (hi : i < (f.put t).length) (hn : i ≤ c) :
    Calls Tryz.prog 106 #[.slice A i c, fmV f] W fun e w' => e = .returned (.tuple #[strV [], .slice none 0 0, .int .i64 43]) ∧ Turn nowhere W w' := by
  have hsm := put_small h
  obtain ⟨hm, hrt⟩ := check_cases h
  obtain ⟨k, s, c', rfl, h1, h2, h3⟩ := fm_exp hm
  refine (take_main h1 h2 h3 hr hb hn (by omega)).mono ?_
  rw [fm_short h1 h2 h3 hrt hi]
  rintro e w' ⟨h4, ht⟩
  exact ⟨h4, ht⟩
theorem turn_below {w w1 w2 : World} (h : Turn nowhere w w1) (g : Below w.heap.size w1 w2) : Turn nowhere w w2 :=
  ⟨g.os.trans h.os, g.tape.trans h.tape, g.output.trans h.output, Nat.le_trans h.size g.size, fun k hk hn => (g.block k hk).trans (h.block k hk hn)⟩
theorem exec_make0 {a : Act} {o : Oper} {W : World} (ho : o.op = .buildSlice 32 0 #[]) : (execOp a.eval o).run Tryz.prog W = .ok (.value (.slice (some ⟨W.heap.size, 0, none⟩) 0 0)) (W.alloc (.cells #[] 5)) := by
  unfold execOp
  simp only [ho]
  kernel_rfl
theorem exec_ext {P : Program} {a : Act} {o : Oper} {x : Operand} {i : Nat} {xs : Array Value} {v : Value} {W : World} (ho : o.op = .extract x i) (hx : a.eval x = .tuple xs) (hv : xs[i]? = some v) : (execOp a.eval o).run P W = .ok (.value v) W := by
  unfold execOp
  simp [ho, hx, Instr.extract, hv]
set_option maxRecDepth 20000 in
theorem exec_bto {a : Act} {o : Oper} {x y : Operand} {A : Option Addr} {n c k : Nat} {W : World} (ho : o.op = .slice 32 x none (some y) none) (hx : a.eval x = .slice A n c) (hy : a.eval y = .int .i64 (k : Int)) (hk : k ≤ c) : (execOp a.eval o).run Tryz.prog W = .ok (.value (.slice A k c)) W := by
  have h := run_slice_h (P := Tryz.prog) (w := W) 32 A n c Tryz.underlying32 .i64 (k : Int) (by omega) (by omega)
  have hs : (sizeOf (Tryz.prog.elem 32)).run Tryz.prog W = .ok 1 W := by kernel_rfl
  rw [Int.toNat_natCast, hs] at h
  unfold execOp
  simp only [ho, Option.map, hx, hy, run_sliceAt_slice (P := Tryz.prog) W 32 _ _ _ _ Tryz.underlying32, h, Sem.run_bind, Sem.run_pure, Result.andThen_ok]
  cases A <;> simp [sliced, Addr.add]
theorem bs_take {W : World} {A : Option Addr} {n i : Nat} {l : List UInt8} (h : Bs W A n l) (hi : i ≤ n) : Bs W A i (l.take i) := by
  obtain ⟨h1, h2, h3⟩ := h
  refine ⟨by rw [List.length_take]; omega, Nat.le_trans hi h2, fun h0 => ?_⟩
  obtain ⟨b, off, rfl, hc⟩ := h3 (by omega)
  refine ⟨b, off, rfl, fun j hj => ?_⟩
  rw [hc j (by omega)]
  have : (l.take i).getD j 0 = l.getD j 0 := by
    simp only [List.getD_eq_getElem?_getD, List.getElem?_take]
    rw [if_pos hj]
  rw [this]
end Go.Proofs.YtkbdijkoedmgnaaGreatDoor
namespace Go.Proofs.YtkbdijkoedmgnaaGreatDoor
open Go.RowKit
open Fdd
set_option linter.unusedVariables false
set_option linter.unusedSimpArgs false
theorem vOf_nat (b : UInt8) : vOf b = if 48 ≤ b.toNat ∧ b.toNat ≤ 57 then b.toNat - 48 else b.toNat - 87 := byte_of (P := fun b => vOf b = if 48 ≤ b.toNat ∧ b.toNat ≤ 57 then b.toNat - 48 else b.toNat - 87) (by decide +kernel) b
theorem vOf_lt (b : UInt8) (h : hexs.contains b = true) : vOf b < 16 := by
  rw [hex_byte] at h
  have h2 := of_decide_eq_true h
  rw [vOf_nat]
  split <;> omega
theorem ebc_nat (b : UInt8) : (ebc b).toNat = if 48 ≤ b.toNat ∧ b.toNat ≤ 57 then b.toNat + 192 else if 65 ≤ b.toNat ∧ b.toNat ≤ 73 then b.toNat + 128 else if 74 ≤ b.toNat ∧ b.toNat ≤ 82 then b.toNat + 135 else if 83 ≤ b.toNat ∧ b.toNat ≤ 90 then b.toNat + 143 else 64 :=
  byte_of (P := fun b => (ebc b).toNat = if 48 ≤ b.toNat ∧ b.toNat ≤ 57 then b.toNat + 192 else if 65 ≤ b.toNat ∧ b.toNat ≤ 73 then b.toNat + 128 else if 74 ≤ b.toNat ∧ b.toNat ≤ 82 then b.toNat + 135 else if 83 ≤ b.toNat ∧ b.toNat ≤ 90 then b.toNat + 143 else 64) (by decide +kernel) b
theorem wrapu8 (x : Int) : IntKind.u8.wrap x = x % 256 := by
  simp [IntKind.wrap, IntKind.bits, IntKind.signed]
theorem valueH_walk (b : UInt8) (h : hexs.contains b = true) (w : World) :
    Calls Tryz.prog 60 #[.int .u8 (b.toNat : Int)] w fun e w' => e = .returned (.int .i64 ((vOf b : Nat) : Int)) ∧ w' = w := by
  have hd := digit_walk b
  rw [dec_byte] at hd
  rw [hex_byte] at h
  have h2 := of_decide_eq_true h
  rw [vOf_nat]
  have HD := Lib.hid hd
  clear hd h
  generalize b.toNat = n at *
  by_cases h0 : 48 ≤ n ∧ n ≤ 57
  · rw [decide_eq_true h0] at HD
    rw [if_pos h0]
    have h3 := h0.1
    have h4 := h0.2
    clear h0 h2
    go_enter Tryz.func60, Tryz.ntmps60
    go_wp2_with (go_at_call 92; refine (HD.out _).mono ?_; rintro e w1 ⟨rfl, rfl⟩)
    go_ret
    exact ⟨ret_int (by omega), rfl⟩
  · rw [decide_eq_false h0] at HD
    rw [if_neg h0]
    have h3 : 97 ≤ n := by omega
    have h4 : n ≤ 102 := by omega
    clear h0 h2
    go_enter Tryz.func60, Tryz.ntmps60
    go_wp2_with (go_at_call 92; refine (HD.out _).mono ?_; rintro e w1 ⟨rfl, rfl⟩)
    go_ret
    exact ⟨ret_int (by omega), rfl⟩
theorem ebcdic_walk (b : UInt8) (w : World) :
    Calls Tryz.prog 93 #[.int .u8 (b.toNat : Int)] w fun e w' => e = .returned (.int .u8 (((ebc b).toNat : Nat) : Int)) ∧ w' = w := by
  have hd := digit_walk b
  rw [dec_byte] at hd
  rw [ebc_nat]
  have HD := Lib.hid hd
  clear hd
  have hb := b.toNat_lt
  generalize b.toNat = n at *
  by_cases h0 : 48 ≤ n ∧ n ≤ 57
  · rw [decide_eq_true h0] at HD
    rw [if_pos h0]
    have h3 := h0.1
    have h4 := h0.2
    clear h0
    go_enter Tryz.func93, Tryz.ntmps93
    go_wp2_with (go_at_call 92; refine (HD.out _).mono ?_; rintro e w1 ⟨rfl, rfl⟩)
    go_ret
    exact ⟨ret_int (by first | omega | (simp only [wrapu8]; omega)), rfl⟩
  · rw [decide_eq_false h0] at HD
    rw [if_neg h0]
    go_enter Tryz.func93, Tryz.ntmps93
    go_wp2_with (go_at_call 92; refine (HD.out _).mono ?_; rintro e w1 ⟨rfl, rfl⟩)
    all_goals (try go_ret)
    all_goals
      refine ⟨ret_int ?_, rfl⟩
      first
        | omega
        | ((repeat' split) <;> omega)
        | (simp only [wrapu8]; (repeat' split) <;> omega)
theorem exec_one {a : Act} {o : Oper} {W : World} {x : Operand} {z : UInt8} (ho : o.op = .buildSlice 32 1 #[(0, x)]) (hx : a.eval x = .int .u8 (z.toNat : Int)) : (execOp a.eval o).run Tryz.prog W = .ok (.value (.slice (some ⟨W.heap.size, 0, none⟩) 1 1)) (W.alloc (.cells (bcs [z]).toArray 5)) := by
  obtain ⟨j0, hj0, hjz, hj1, hj2⟩ := info_parts byteInfo
  exact exec_buildSlice1 ho hx (run_buildSlice_one (v := .int .u8 (z.toNat : Int)) Tryz.underlying32 hj0 hjz (by rw [hj1]; rfl) (by rw [hj1]; rfl) (by omega) (by omega) _)
theorem bs_blk {w : World} {g : Nat} {t : TypeId} {l : List UInt8} {n : Nat} (h : Blk w g t (bcs l).toArray) (hn : l.length = n) (hm : n ≤ maxLen) : Bs w (some ⟨g, 0, none⟩) n l :=
  ⟨hn, hm, fun _ => ⟨g, 0, rfl, fun i hi => by
    rw [h.cell]
    have := bcs_at l i (by omega)
    simpa using this⟩⟩
/-- bytes that a call made -/
def Made (w : World) (l : List UInt8) (e : Ending) (w' : World) : Prop := ∃ A n c, e = .returned (.slice A n c) ∧ Own w' w.heap.size 5 (.slice A n c) l ∧ Turn nowhere w w'
theorem take_one {t : List UInt8} {k : Nat} (h : k < t.length) : t.take (k + 1) = t.take k ++ [t.getD k 0] := by
  rw [List.take_succ_eq_append_getElem h, List.getD_eq_getElem?_getD, List.getElem?_eq_getElem h]
  rfl
theorem wpList_call {P : Program} {ops : Array Oper} {rest : List Oper} {o : Oper} {a : Act} {w : World} {Q : Exit → Act → World → Prop} (hgd : Region.wanted o (yielded ops a.tmps) = true)
    (h : ∀ K : Act → World → Prop, Shut (∀ a' w', wpList P ops Q rest a' w' → K a' w') → o.wp P a w K Q) : wpList P ops Q (o :: rest) a w :=
  wpList_step fun K hK => by
    rw [if_pos hgd]
    exact h K hK
theorem below_turn {w w' : World} (h : Below w.heap.size w w') : Turn nowhere w w' := Turn.of_below h (Nat.le_refl _)
set_option maxRecDepth 20000 in
set_option maxHeartbeats 1000000 in
theorem signs_walk (code : Int) (t : List UInt8) (w : World) (hl : t.length ≤ 1000) :
    Calls Tryz.prog 79 #[.int .i64 code, strV t] w (Made w (rsigns code t)) := by
  obtain ⟨f, hf⟩ : ∃ f : UInt8 → UInt8, ∀ x : List UInt8, x.map f = rsigns code x := by
    by_cases h : code = 3
    · exact ⟨ebc, fun x => by unfold rsigns; rw [if_pos h]⟩
    · exact ⟨id, fun x => by unfold rsigns; rw [if_neg h, List.map_id]⟩
  have hfe : code = 3 → ∀ b, f b = ebc b := fun h b => by
    have := hf [b]
    unfold rsigns at this
    rw [if_pos h] at this
    simpa using this
  have hfi : code ≠ 3 → ∀ b, f b = b := fun h b => by
    have := hf [b]
    unfold rsigns at this
    rw [if_neg h] at this
    simpa using this
  rw [← hf t]
  have HFE := Lib.hid hfe
  have HFI := Lib.hid hfi
  have HL := Lib.hid hl
  clear hf hfe hfi hl
  obtain ⟨n, hn⟩ : ∃ n, n = t.length := ⟨_, rfl⟩
  have HN := Lib.hid hn
  clear hn
  obtain ⟨B, hB⟩ : ∃ B, B = w.heap.size := ⟨_, rfl⟩
  have HB := Lib.hid hB
  clear hB
  go_enter Tryz.func79, Tryz.ntmps79
  go_upto_region 1 with fail
  refine wp_region_lit ?_
  refine wR (v := _) rfl (exec_make0 rfl) ?_
  simp only [Act.put, zzA, zz0, zz1]
  refine wR (v := .slice (some ⟨w.heap.size, 0, none⟩) 0 0) rfl (gx_assign rfl rfl) ?_
  simp only [Act.put, zzA, zz0, zz1]
  have hown0 := Own.empty w B 5 (Nat.le_of_eq HB.out)
  have hbel0 : Below B w (w.alloc (.cells #[] 5)) := (Below.refl _ w).alloc (Nat.le_of_eq HB.out) _
  generalize (w.alloc (.cells #[] 5)) = w1 at *
  generalize (some (⟨w.heap.size, 0, none⟩ : Addr)) = A0 at *
  have HO0 := Lib.hid hown0
  have HB0 := Lib.hid hbel0
  clear hown0 hbel0
  go_wp2_with fail
  go_loopg [5, 6] n (fun gk b i wr => ∃ (k : Nat) (A : Option Addr) (m c : Nat), k + gk = n ∧ i = .int .i64 (k : Int) ∧ b = .slice A m c ∧ Own wr B 5 (.slice A m c) ((t.take k).map f) ∧ Below B w wr)
  case atStart => exact ⟨0, A0, 0, 0, by omega, rfl, rfl, HO0.out, HB0.out⟩
  case round =>
    obtain ⟨k, A, m, c, hkl, rfl, rfl, hown, hbel⟩ := hrel
    have HKL := Lib.hid hkl
    have HO := Lib.hid hown
    have HE := Lib.hid hbel
    clear hkl hown hbel
    go_upto_region 3 with fail
    refine wp_region_lit ?_
    refine wR (v := .int .i64 (k : Int)) rfl (exec_move rfl rfl) ?_
    simp only [Act.put, zzA, zz0, zz1]
    refine wR (v := strV t) rfl (exec_move rfl rfl) ?_
    simp only [Act.put, zzA, zz0, zz1]
    refine wR (v := .int .i64 (n : Int)) (w' := wr) rfl (by rw [HN.out]; exact exec_slen rfl rfl) ?_
    simp only [Act.put, zzA, zz0, zz1]
    by_cases hlt : k < n
    · refine wR (v := .bool true) (w' := wr) rfl (exec_lss rfl rfl rfl (by omega)) ?_
      simp only [Act.put, zzA, zz0, zz1]
      have HLT := Lib.hid hlt
      have HKT := Lib.hid (show k < t.length by rw [← HN.out]; exact hlt)
      clear hlt
      by_cases h3 : code = 3
      · have hz : f (t.getD k 0) = ebc (t.getD k 0) := HFE.out h3 _
        have htk : (t.take (k + 1)).map f = (t.take k).map f ++ [f (t.getD k 0)] := by rw [take_one HKT.out, List.map_append]; rfl
        rw [hz] at htk
        subst h3
        have HTK := Lib.hid htk
        have HEB := Lib.hid (ebcdic_walk (t.getD k 0) wr)
        clear hz htk
        go_upto_region 6 with fail
        refine wp_region_lit ?_
        refine wR (v := .slice A m c) rfl (exec_move rfl rfl) ?_
        simp only [Act.put, zzA, zz0, zz1]
        refine wR (v := strV t) rfl (exec_move rfl rfl) ?_
        simp only [Act.put, zzA, zz0, zz1]
        refine wR (v := .int .i64 (k : Int)) rfl (exec_move rfl rfl) ?_
        simp only [Act.put, zzA, zz0, zz1]
        refine wR (v := .int .u8 ((t.getD k 0).toNat : Int)) (w' := wr) rfl (exec_sidx rfl rfl rfl HKT.out) ?_
        simp only [Act.put, zzA, zz0, zz1]
        generalize ebc (t.getD k 0) = z at *
        generalize t.getD k 0 = y at *
        refine wpList_call rfl ?_
        intro K1 HK1
        go_wp2_with fail
        refine HEB.out.mono ?_
        rintro e w1' ⟨rfl, hw⟩
        obtain rfl : wr = w1' := hw.symm
        refine HK1.out _ _ ?_
        clear HK1
        refine wR (v := _) rfl (exec_one (z := z) rfl rfl) ?_
        simp only [Act.put, zzA, zz0, zz1]
        have hone := bs_blk (Blk.new wr 5 (bcs [z]).toArray) (n := 1) rfl (by unfold maxLen; omega)
        have hown1 : Own (wr.alloc (.cells (bcs [z]).toArray 5)) B 5 (.slice A m c) ((t.take k).map f) := HO.out.alloc _
        refine wpList_append_bytes _ rfl _ _ _ rfl B 5 byteInfo Tryz.underlying32 _ _ rfl hown1 _ 1 1 [z] rfl hone (fun h => by cases h) (by rw [List.length_map, List.length_take]; have := HN.out; have := HL.out; omega) (by have := HE.out.size; have := HB.out; simp; omega) ?_
        intro v2 w2 ho2 hb2
        simp only [Act.put, zzA, zz0, zz1]
        obtain ⟨A2, m2, c2, rfl, _⟩ := ho2.form
        have HO2 := Lib.hid ho2
        have HB2 := Lib.hid hb2
        clear ho2 hb2 hone hown1
        have b0 : (0 : Int) ≤ (k : Int) := by omega
        have b1 : (k : Int) ≤ 1000 := by have := HLT.out; have := HN.out; have := HL.out; omega
        go_wp2_with fail
        go_roundg (gk - 1)
        case measure => have := HKL.out; have := HLT.out; omega
        case rel =>
          refine ⟨k + 1, A2, m2, c2, by have := HKL.out; have := HLT.out; omega, by go_num, rfl, ?_, (HE.out.alloc (by have := HE.out.size; have := HB.out; omega) _).trans HB2.out⟩
          rw [HTK.out]
          exact HO2.out
      · have hz : f (t.getD k 0) = t.getD k 0 := HFI.out h3 _
        have htk : (t.take (k + 1)).map f = (t.take k).map f ++ [f (t.getD k 0)] := by rw [take_one HKT.out, List.map_append]; rfl
        rw [hz] at htk
        have h33 : (code == 3) = false := by simpa using h3
        have HTK := Lib.hid htk
        clear hz htk
        go_upto_region 7 with fail
        refine wp_region_lit ?_
        refine wR (v := .slice A m c) rfl (exec_move rfl rfl) ?_
        simp only [Act.put, zzA, zz0, zz1]
        refine wR (v := strV t) rfl (exec_move rfl rfl) ?_
        simp only [Act.put, zzA, zz0, zz1]
        refine wR (v := .int .i64 (k : Int)) rfl (exec_move rfl rfl) ?_
        simp only [Act.put, zzA, zz0, zz1]
        refine wR (v := .int .u8 ((t.getD k 0).toNat : Int)) (w' := wr) rfl (exec_sidx rfl rfl rfl HKT.out) ?_
        simp only [Act.put, zzA, zz0, zz1]
        generalize t.getD k 0 = z at *
        refine wR (v := _) rfl (exec_one (z := z) rfl rfl) ?_
        simp only [Act.put, zzA, zz0, zz1]
        have hone := bs_blk (Blk.new wr 5 (bcs [z]).toArray) (n := 1) rfl (by unfold maxLen; omega)
        have hown1 : Own (wr.alloc (.cells (bcs [z]).toArray 5)) B 5 (.slice A m c) ((t.take k).map f) := HO.out.alloc _
        refine wpList_append_bytes _ rfl _ _ _ rfl B 5 byteInfo Tryz.underlying32 _ _ rfl hown1 _ 1 1 [z] rfl hone (fun h => by cases h) (by rw [List.length_map, List.length_take]; have := HN.out; have := HL.out; omega) (by have := HE.out.size; have := HB.out; simp; omega) ?_
        intro v2 w2 ho2 hb2
        simp only [Act.put, zzA, zz0, zz1]
        obtain ⟨A2, m2, c2, rfl, _⟩ := ho2.form
        have HO2 := Lib.hid ho2
        have HB2 := Lib.hid hb2
        clear ho2 hb2 hone hown1
        have b0 : (0 : Int) ≤ (k : Int) := by omega
        have b1 : (k : Int) ≤ 1000 := by have := HLT.out; have := HN.out; have := HL.out; omega
        go_wp2_with fail
        go_roundg (gk - 1)
        case measure => have := HKL.out; have := HLT.out; omega
        case rel =>
          refine ⟨k + 1, A2, m2, c2, by have := HKL.out; have := HLT.out; omega, by go_num, rfl, ?_, (HE.out.alloc (by have := HE.out.size; have := HB.out; omega) _).trans HB2.out⟩
          rw [HTK.out]
          exact HO2.out
    · refine wR (v := .bool false) (w' := wr) rfl (exec_nlss rfl rfl rfl (by omega)) ?_
      simp only [Act.put, zzA, zz0, zz1]
      have hkn : t.take k = t := List.take_of_length_le (by have := HKL.out; have := HN.out; omega)
      have ho := HO.out
      rw [hkn] at ho
      have HOO := Lib.hid ho
      have HTT := Lib.hid (below_turn (by have := HE.out; rwa [HB.out] at this))
      clear hlt hkn ho
      go_wp2_with fail
      go_ret
      refine ⟨A, m, c, rfl, ?_, HTT.out⟩
      rw [← HB.out]
      exact HOO.out
end Go.Proofs.YtkbdijkoedmgnaaGreatDoor
namespace Go.Proofs.YtkbdijkoedmgnaaGreatDoor
open Go.RowKit
open Fdd
set_option linter.unusedVariables false
set_option linter.unusedSimpArgs false
def shF : List Fld := [(7, [48, 49, 48, 49, 48, 48, 48, 48, 48, 48]), (11, [48, 48, 48, 48, 48, 49]), (70, [48, 48, 49])]
def sh1 : List UInt8 := [48, 56, 48, 48, 56, 50, 50, 48, 48, 48, 48, 48, 48, 48, 48, 48, 48, 48, 48, 48, 48, 52, 48, 48, 48, 48, 48, 48, 48, 48, 48, 48, 48, 48, 48, 48, 48, 49, 48, 49, 48, 48, 48, 48, 48, 48, 48, 48, 48, 48, 48, 49, 48, 48, 49]
def sh2 : List UInt8 := [24, 0, 130, 32, 0, 0, 0, 0, 0, 0, 4, 0, 0, 0, 0, 0, 0, 0, 1, 1, 0, 0, 0, 0, 0, 1, 0, 1]
theorem sh_e1 : mencode 1 800 shF = .ok sh1 := by kernel_rfl
theorem sh_e2 : mencode 2 800 shF = .ok sh2 := by kernel_rfl
theorem sh_d2 : mdecode 2 sh2 = .ok (800, shF) := mdecode_back sh_e2
theorem sh_d3 : mdecode 2 (sh2 ++ [0]) = .error 54 := by
  obtain ⟨hd, hw, e⟩ := mencode_ok.1 sh_e2
  have h := mdecode_wire hd hw [0] (.inl (by rw [← e]; decide))
  rw [← e] at h
  rw [h, if_neg (by decide)]
def shC : Array Value := #[.int .i64 7, strV [48, 49, 48, 49, 48, 48, 48, 48, 48, 48], .int .i64 11, strV [48, 48, 48, 48, 48, 49], .int .i64 70, strV [48, 48, 49]]
theorem build_sh (W : World) : (Instr.buildSlice 29 3 #[(0, .agg (fldA (7, [48, 49, 48, 49, 48, 48, 48, 48, 48, 48]))), (1, .agg (fldA (11, [48, 48, 48, 48, 48, 49]))), (2, .agg (fldA (70, [48, 48, 49])))]).run Tryz.prog W = .ok (.slice (some ⟨W.heap.size, 0, none⟩) 3 3) (W.alloc (.cells shC 46)) := by kernel_rfl
theorem build_f (i : Int) (l : List UInt8) (W : World) : (Instr.build 46 #[(0, .int .i64 i), (1, strV l)]).run Tryz.prog W = .ok (.agg (fldA (i, l))) W := by kernel_rfl
theorem build_m (ty : Int) (A : Option Addr) (n c : Nat) (W : World) : (Instr.build 31 #[(0, .int .i64 ty), (1, .slice A n c)]).run Tryz.prog W = .ok (msgV ty A n c) W := by kernel_rfl
theorem make_none (W : World) : (Instr.buildSlice 32 0 #[]).run Tryz.prog W = .ok (.slice (some ⟨W.heap.size, 0, none⟩) 0 0) (W.alloc (.cells #[] 5)) := by kernel_rfl
theorem fl_sh {W : World} {g : Nat} (h : Blk W g 46 shC) : Fl W (some ⟨g, 0, none⟩) 3 shF := by
  refine ⟨rfl, by decide, fun _ => ⟨g, 0, rfl, fun i f hf j v hv => ?_⟩⟩
  have hi : i < 3 := by
    have := (List.getElem?_eq_some_iff.1 hf).1
    exact this
  have hc := h.cell (0 + i * 2 + j)
  have hj : j < 2 := by
    have := (List.getElem?_eq_some_iff.1 hv).1
    simpa [fldA] using this
  rw [show World.cell? W ⟨g, 0 + i * 2 + j, none⟩ = shC[0 + i * 2 + j]? from hc]
  have h3 : i = 0 ∨ i = 1 ∨ i = 2 := by omega
  have h2 : j = 0 ∨ j = 1 := by omega
  rcases h3 with rfl | rfl | rfl <;> (injection hf with hf; subst hf) <;> rcases h2 with rfl | rfl <;> exact hv
theorem enc_at {s : Sents} {w : World} {dd ty : Int} {A : Option Addr} {n c : Nat} {fs : List Fld} {b : List UInt8} (h : mencode dd ty fs = .ok b) (he : Env s w) (hf : Fl w A n fs) :
    Calls Tryz.prog 16 #[.int .i64 dd, msgV ty A n c] w fun e w' => ∃ A n c, e = .returned (.tuple #[.slice A n c, .int .i64 0]) ∧ Own w' w.heap.size 5 (.slice A n c) b ∧ Turn nowhere w w' := by
  have := Encode_walk (dd := dd) (ty := ty) (c := c) he hf
  rw [h] at this
  exact this
theorem dec_at {s : Sents} {w : World} {dd ty : Int} {A : Option Addr} {n c : Nat} {fs : List Fld} {b : List UInt8} (h : mdecode dd b = .ok (ty, fs)) (he : Env s w) (hb : Bs w A n b) (hnc : n ≤ c) (hnm : n ≤ 140737488355328) :
    Calls Tryz.prog 21 #[.int .i64 dd, .slice A n c] w fun e w' => ∃ A n c, e = .returned (.tuple #[msgV ty A n c, .int .i64 0]) ∧ Fl w' A n fs ∧ (∀ b o t, A = some ⟨b, o, t⟩ → w.heap.size ≤ b) ∧ Turn nowhere w w' := by
  have := Decode_walk (dd := dd) (c := c) he hb hnc hnm
  rw [h] at this
  exact this
theorem dec_bad {s : Sents} {w : World} {dd k : Int} {A : Option Addr} {n c : Nat} {b : List UInt8} (h : mdecode dd b = .error k) (he : Env s w) (hb : Bs w A n b) (hnc : n ≤ c) (hnm : n ≤ 140737488355328) :
    Calls Tryz.prog 21 #[.int .i64 dd, .slice A n c] w fun e w' => ∃ A n c, e = .returned (.tuple #[msgV 0 A n c, .int .i64 k]) ∧ Fl w' A n [] ∧ (∀ b o t, A = some ⟨b, o, t⟩ → w.heap.size ≤ b) ∧ Turn nowhere w w' := by
  have := Decode_walk (dd := dd) (c := c) he hb hnc hnm
  rw [h] at this
  exact this
theorem seql_same {a : Act} {o : Oper} {W : World} {x y : Operand} {l : List UInt8} {t u : TypeId} (ho : o.op = .binOp .eql t x y u) (hx : a.eval x = strV l) (hy : a.eval y = strV l) : (execOp a.eval o).run Tryz.prog W = .ok (.value (.bool true)) W := by
  have h := exec_seql (W := W) ho hx hy
  rw [h]
  simp
/-- a new slice of a copy: append of some bytes to none -/
theorem wpList_copied {ops : Array Oper} {rest : List Oper} {o1 o2 o3 : Oper} {a : Act} {w : World} {Q : Exit → Act → World → Prop} {A : Option Addr} {n c : Nat} {b : List UInt8} {y s x : Operand}
    (hg1 : Region.wanted o1 (yielded ops a.tmps) = true) (ho1 : o1.op = .buildSlice 32 0 #[])
    (hg2 : Region.wanted o2 (yielded ops (a.put o1.dst (.slice (some ⟨w.heap.size, 0, none⟩) 0 0)).tmps) = true) (ho2 : o2.op = .move y) (hy : (a.put o1.dst (.slice (some ⟨w.heap.size, 0, none⟩) 0 0)).eval y = .slice A n c)
    (hg3 : Region.wanted o3 (yielded ops ((a.put o1.dst (.slice (some ⟨w.heap.size, 0, none⟩) 0 0)).put o2.dst (.slice A n c)).tmps) = true) (ho3 : o3.op = .call { callee := .builtin .append, args := #[s, x], argTypes := #[32, 32] })
    (hs : ((a.put o1.dst (.slice (some ⟨w.heap.size, 0, none⟩) 0 0)).put o2.dst (.slice A n c)).eval s = .slice (some ⟨w.heap.size, 0, none⟩) 0 0)
    (hx : ((a.put o1.dst (.slice (some ⟨w.heap.size, 0, none⟩) 0 0)).put o2.dst (.slice A n c)).eval x = .slice A n c)
    (hb : Bs w A n b) (hc : A = none → c = 0) (hsum : n ≤ 140737488355328)
    (h : ∀ k v' w', w.heap.size ≤ k → Own w' w.heap.size 5 v' b → Turn nowhere w w' → wpList Tryz.prog ops Q rest (((a.put o1.dst (.slice (some ⟨k, 0, none⟩) 0 0)).put o2.dst (.slice A n c)).put o3.dst v') w') : wpList Tryz.prog ops Q (o1 :: o2 :: o3 :: rest) a w := by
  have hu := (Turn.refl nowhere w).alloc (.cells #[] 5)
  refine wpList_run hg1 (bx_slice0 ho1 (make_none w)) ?_
  refine wpList_run hg2 (exec_move ho2 hy) ?_
  refine wpList_append_bytes _ hg3 s x _ ho3 w.heap.size 5 byteInfo Tryz.underlying32 _ [] hs (Own.empty w w.heap.size 5 (Nat.le_refl _)) A n c b hx (bs_still hb hu) hc (by simpa using hsum) hu.size ?_
  intro v' w' ho hbw
  rw [List.nil_append] at ho
  exact h _ v' w' (Nat.le_refl _) ho (Turn.of_below ((hu.below (Nat.le_refl _) (fun _ _ e=>e)).trans hbw) (Nat.le_refl _))
set_option maxRecDepth 40000 in
set_option maxHeartbeats 2000000 in
theorem shown_walk {s : Sents} (w : World) (he : Env s w) :
    Calls Tryz.prog 13 #[] w fun e w' => e = .returned (.bool true) ∧ Turn nowhere w w' := by
  have HE := Lib.hid he
  clear he
  go_enter Tryz.func13, Tryz.ntmps13
  go_upto_region 1 with fail
  refine wp_region_lit ?_
  refine wR (v := .agg (fldA (7, [48, 49, 48, 49, 48, 48, 48, 48, 48, 48]))) rfl (gx_build2 rfl rfl rfl (build_f _ _ _)) ?_
  simp only [Act.put, zzA, zz0, zz1]
  refine wR (v := .agg (fldA (11, [48, 48, 48, 48, 48, 49]))) rfl (gx_build2 rfl rfl rfl (build_f _ _ _)) ?_
  simp only [Act.put, zzA, zz0, zz1]
  refine wR (v := .agg (fldA (70, [48, 48, 49]))) rfl (gx_build2 rfl rfl rfl (build_f _ _ _)) ?_
  simp only [Act.put, zzA, zz0, zz1]
  refine wR (v := .slice (some ⟨w.heap.size, 0, none⟩) 3 3) (w' := w.alloc (.cells shC 46)) rfl (bx_slice3 rfl rfl rfl rfl (build_sh w)) ?_
  simp only [Act.put, zzA, zz0, zz1]
  have hb1 := Blk.new w 46 shC
  have hu1 := (Turn.refl nowhere w).alloc (.cells shC 46)
  obtain ⟨g, hg⟩ : ∃ g, g = w.heap.size := ⟨_, rfl⟩
  rw [← hg] at hb1 ⊢
  clear hg
  generalize w.alloc (.cells shC 46) = w1 at *
  have HF := Lib.hid (fl_sh hb1)
  have HT1 := Lib.hid hu1
  clear hb1 hu1
  refine wR (v := msgV 800 (some ⟨g, 0, none⟩) 3 3) rfl (gx_build2 rfl rfl rfl (build_m _ _ _ _ _)) ?_
  simp only [Act.put, zzA, zz0, zz1]
  refine wpList_new 31 (.tmp 1) (.tmp 14) #[.int .i64 800, .slice (some ⟨g, 0, none⟩) 3 3] rfl rfl (zero_msg _) rfl rfl rfl rfl rfl rfl (by rw [size_msg]; rfl) (msgA_one _ _ _ _) ?_
  intro w2 gm _ hbx hux
  simp only [Act.put, zzA, zz0, zz1]
  have HBgm := Lib.hid hbx
  have HT2 := Lib.hid hux
  clear hbx hux
  go_upto_region 2 with fail
  refine wp_region_lit ?_
  refine wR (v := msgV 800 (some ⟨g, 0, none⟩) 3 3) rfl (gx_loads rfl rfl (blk_range HBgm.out) Tryz.underlying31 rfl (by rw [size_msg]; rfl)) ?_
  simp only [Act.put, zzA, zz0, zz1]
  have hE := enc_at (s := s) (dd := 1) (c := 3) sh_e1 (HE.out.turn (HT1.out.next HT2.out)) (HF.out.still HT2.out)
  refine wpList_op rfl fun K9 HK9 => ?_
  go_wp2_with fail
  refine hE.mono ?_
  rintro e w3 ⟨A3, n3, c3, rfl, hox, htx⟩
  refine HK9.out _ _ ?_
  clear HK9 hE
  try simp only [Act.put, zzA, zz0, zz1]
  have HO3 := Lib.hid hox
  have HT3 := Lib.hid htx
  obtain ⟨A9, n9, c9, hf9, hb9, hnc9, hz9⟩ := hox.form
  injection hf9 with g1 g2 g3
  subst g1 g2 g3
  have HS3 := Lib.hid hb9
  have HN3 := Lib.hid hnc9
  have HZ3 := Lib.hid hz9
  have hl9 : n3 = 55 := hb9.1.symm
  subst hl9
  clear hox htx hb9 hnc9 hz9
  refine wR (v := .tuple #[.slice A3 55 c3, .int .i64 0]) rfl (exec_move rfl rfl) ?_
  simp only [Act.put, zzA, zz0, zz1]
  refine wR (v := .slice A3 55 c3) rfl (ix_extract rfl rfl rfl) ?_
  simp only [Act.put, zzA, zz0, zz1]
  refine wR (v := .int .i64 0) rfl (ix_extract rfl rfl rfl) ?_
  simp only [Act.put, zzA, zz0, zz1]
  refine wR (v := .slice A3 55 c3) rfl (gx_assign rfl rfl) ?_
  simp only [Act.put, zzA, zz0, zz1]
  refine wR (v := .int .i64 0) rfl (gx_assign rfl rfl) ?_
  simp only [Act.put, zzA, zz0, zz1]
  go_upto_region 3 with fail
  refine wp_region_lit ?_
  refine wR (v := msgV 800 (some ⟨g, 0, none⟩) 3 3) rfl (gx_loads rfl rfl (blk_range (HBgm.out.turn HT3.out (fun e => e))) Tryz.underlying31 rfl (by rw [size_msg]; rfl)) ?_
  simp only [Act.put, zzA, zz0, zz1]
  have hE := enc_at (s := s) (dd := 2) (c := 3) sh_e2 (HE.out.turn ((HT1.out.next HT2.out).next HT3.out)) (HF.out.still (HT2.out.next HT3.out))
  refine wpList_op rfl fun K9 HK9 => ?_
  go_wp2_with fail
  refine hE.mono ?_
  rintro e w4 ⟨A4, n4, c4, rfl, hox, htx⟩
  refine HK9.out _ _ ?_
  clear HK9 hE
  try simp only [Act.put, zzA, zz0, zz1]
  have HO4 := Lib.hid hox
  have HT4 := Lib.hid htx
  obtain ⟨A9, n9, c9, hf9, hb9, hnc9, hz9⟩ := hox.form
  injection hf9 with g1 g2 g3
  subst g1 g2 g3
  have HS4 := Lib.hid hb9
  have HN4 := Lib.hid hnc9
  have HZ4 := Lib.hid hz9
  have hl9 : n4 = 28 := hb9.1.symm
  subst hl9
  clear hox htx hb9 hnc9 hz9
  refine wR (v := .tuple #[.slice A4 28 c4, .int .i64 0]) rfl (exec_move rfl rfl) ?_
  simp only [Act.put, zzA, zz0, zz1]
  refine wR (v := .slice A4 28 c4) rfl (ix_extract rfl rfl rfl) ?_
  simp only [Act.put, zzA, zz0, zz1]
  refine wR (v := .int .i64 0) rfl (ix_extract rfl rfl rfl) ?_
  simp only [Act.put, zzA, zz0, zz1]
  refine wR (v := .slice A4 28 c4) rfl (gx_assign rfl rfl) ?_
  simp only [Act.put, zzA, zz0, zz1]
  refine wR (v := .int .i64 0) rfl (gx_assign rfl rfl) ?_
  simp only [Act.put, zzA, zz0, zz1]
  go_upto_region 4 with fail
  refine wp_region_lit ?_
  refine wR (v := .slice A4 28 c4) rfl (exec_move rfl rfl) ?_
  simp only [Act.put, zzA, zz0, zz1]
  have hD := dec_at (s := s) sh_d2 (HE.out.turn (((HT1.out.next HT2.out).next HT3.out).next HT4.out)) HS4.out HN4.out (by decide)
  refine wpList_op rfl fun K9 HK9 => ?_
  go_wp2_with fail
  refine hD.mono ?_
  rintro e w5 ⟨A5, n5, c5, rfl, hfx, hgx, htx⟩
  refine HK9.out _ _ ?_
  clear HK9 hD
  try simp only [Act.put, zzA, zz0, zz1]
  have HF5 := Lib.hid hfx
  have HT5 := Lib.hid htx
  clear hfx hgx htx
  refine wR (v := .tuple #[msgV 800 A5 n5 c5, .int .i64 0]) rfl (exec_move rfl rfl) ?_
  simp only [Act.put, zzA, zz0, zz1]
  refine wR (v := msgV 800 A5 n5 c5) rfl (ix_extract rfl rfl rfl) ?_
  simp only [Act.put, zzA, zz0, zz1]
  refine wR (v := .int .i64 0) rfl (ix_extract rfl rfl rfl) ?_
  simp only [Act.put, zzA, zz0, zz1]
  refine wpList_new 31 (.tmp 6) (.tmp 28) #[.int .i64 800, .slice A5 n5 c5] rfl rfl (zero_msg _) rfl rfl rfl rfl rfl rfl (by rw [size_msg]; rfl) (msgA_one _ _ _ _) ?_
  intro w6 gc _ hbx hux
  simp only [Act.put, zzA, zz0, zz1]
  have HBgc := Lib.hid hbx
  have HT6 := Lib.hid hux
  clear hbx hux
  refine wR (v := .int .i64 0) rfl (gx_assign rfl rfl) ?_
  simp only [Act.put, zzA, zz0, zz1]
  go_upto_region 5 with fail
  refine wp_region_lit ?_
  refine wpList_copied (A := A4) (n := 28) (c := c4) rfl rfl rfl rfl rfl rfl rfl rfl rfl (bs_still HS4.out (HT5.out.next HT6.out)) HZ4.out (by decide) ?_
  intro g7 v7 w7 hg7 ho7 ht7
  simp only [Act.put, zzA, zz0, zz1]
  obtain ⟨A7, n7, c7, rfl, hb7, hnc7, hz7⟩ := ho7.form
  have hl7 : n7 = 28 := hb7.1.symm
  subst hl7
  have HO7 := Lib.hid ho7
  have HG7 := Lib.hid ht7.size
  have HT7 := Lib.hid ht7
  clear ho7 ht7 hb7 hnc7 hz7 hg7
  refine wR (v := .slice (some ⟨w7.heap.size, 0, none⟩) 1 1) (w' := w7.alloc (.cells (bcs [0]).toArray 5)) rfl (exec_one (z := 0) rfl rfl) ?_
  simp only [Act.put, zzA, zz0, zz1]
  have ht8 := (Turn.refl nowhere w7).alloc (.cells (bcs [0]).toArray 5)
  have hone := bs_blk (Blk.new w7 5 (bcs [0]).toArray) (n := 1) rfl (by unfold maxLen; omega)
  have ho8 := own_still HO7.out ht8
  have hg8 := Nat.le_trans HG7.out ht8.size
  have HT8 := Lib.hid ht8
  clear ht8
  obtain ⟨g8, hg9⟩ : ∃ g8, g8 = w7.heap.size := ⟨_, rfl⟩
  rw [← hg9] at hone ⊢
  clear hg9
  generalize w7.alloc (.cells (bcs [0]).toArray 5) = w8 at *
  refine wpList_append_bytes w8 rfl _ _ _ rfl w6.heap.size 5 byteInfo Tryz.underlying32 _ sh2 rfl ho8 _ 1 1 [0] rfl hone (fun h => by cases h) (by decide) hg8 ?_
  intro v9 w9 ho9 hb9
  obtain ⟨A9, n9, c9, rfl, hs9, hnc9, _⟩ := ho9.form
  simp only [Act.put, zzA, zz0, zz1]
  have HS9 := Lib.hid hs9
  have HN9 := Lib.hid hnc9
  have HT9 := Lib.hid (show Turn nowhere w6 w9 from Turn.of_below (((HT7.out.next HT8.out).below (Nat.le_refl _) (fun _ _ e=>e)).trans hb9) (Nat.le_refl _))
  clear ho9 hb9 hs9 hnc9 hone ho8 hg8
  have hD := dec_bad (s := s) sh_d3 (HE.out.turn ((((((HT1.out.next HT2.out).next HT3.out).next HT4.out).next HT5.out).next HT6.out).next HT9.out)) HS9.out HN9.out (by rw [← HS9.out.1]; decide)
  refine wpList_op rfl fun K9 HK9 => ?_
  go_wp2_with fail
  refine hD.mono ?_
  rintro e w10 ⟨A10, n10, c10, rfl, hfx, hgx, htx⟩
  refine HK9.out _ _ ?_
  clear HK9 hD
  try simp only [Act.put, zzA, zz0, zz1]
  have HT10 := Lib.hid htx
  clear hfx hgx htx
  refine wR (v := .tuple #[msgV 0 A10 n10 c10, .int .i64 54]) rfl (exec_move rfl rfl) ?_
  simp only [Act.put, zzA, zz0, zz1]
  refine wR (v := msgV 0 A10 n10 c10) rfl (ix_extract rfl rfl rfl) ?_
  simp only [Act.put, zzA, zz0, zz1]
  refine wR (v := .int .i64 54) rfl (ix_extract rfl rfl rfl) ?_
  simp only [Act.put, zzA, zz0, zz1]
  refine wpList_new 31 (.tmp 8) (.tmp 37) #[.int .i64 0, .slice A10 n10 c10] rfl rfl (zero_msg _) rfl rfl rfl rfl rfl rfl (by rw [size_msg]; rfl) (msgA_one _ _ _ _) ?_
  intro w11 gd _ hbx hux
  simp only [Act.put, zzA, zz0, zz1]
  have HBgd := Lib.hid hbx
  have HT11 := Lib.hid hux
  clear hbx hux
  refine wR (v := .int .i64 54) rfl (gx_assign rfl rfl) ?_
  simp only [Act.put, zzA, zz0, zz1]
  go_upto_region 6 with fail
  refine wp_region_lit ?_
  refine wR (v := .int .i64 0) rfl (exec_move rfl rfl) ?_
  simp only [Act.put, zzA, zz0, zz1]
  refine wR (v := .bool true) rfl (ix_eql rfl rfl rfl (by decide)) ?_
  simp only [Act.put, zzA, zz0, zz1]
  refine wR (v := .bool true) rfl (exec_move rfl rfl) ?_
  simp only [Act.put, zzA, zz0, zz1]
  refine wR (v := .slice A3 55 c3) rfl (exec_move rfl rfl) ?_
  simp only [Act.put, zzA, zz0, zz1]
  refine wR (v := strV sh1) rfl (exec_strBs (l := sh1) rfl rfl (bs_still HS3.out (((((HT4.out.next HT5.out).next HT6.out).next HT9.out).next HT10.out).next HT11.out))) ?_
  simp only [Act.put, zzA, zz0, zz1]
  refine wR (v := .bool true) rfl (seql_same (l := sh1) rfl rfl rfl) ?_
  simp only [Act.put, zzA, zz0, zz1]
  refine wR (v := .bool true) rfl (ix_pickT rfl rfl rfl) ?_
  simp only [Act.put, zzA, zz0, zz1]
  refine wR (v := .bool true) rfl (exec_move rfl rfl) ?_
  simp only [Act.put, zzA, zz0, zz1]
  refine wR (v := .int .i64 0) rfl (exec_move rfl rfl) ?_
  simp only [Act.put, zzA, zz0, zz1]
  refine wR (v := .bool true) rfl (ix_eql rfl rfl rfl (by decide)) ?_
  simp only [Act.put, zzA, zz0, zz1]
  refine wR (v := .bool true) rfl (ix_pickT rfl rfl rfl) ?_
  simp only [Act.put, zzA, zz0, zz1]
  refine wR (v := .bool true) rfl (exec_move rfl rfl) ?_
  simp only [Act.put, zzA, zz0, zz1]
  refine wR (v := .slice A4 28 c4) rfl (exec_move rfl rfl) ?_
  simp only [Act.put, zzA, zz0, zz1]
  refine wR (v := .int .i64 28) rfl (gx_len rfl rfl Tryz.underlying32) ?_
  simp only [Act.put, zzA, zz0, zz1]
  refine wR (v := .bool true) rfl (ix_eql rfl rfl rfl (by decide)) ?_
  simp only [Act.put, zzA, zz0, zz1]
  refine wR (v := .bool true) rfl (ix_pickT rfl rfl rfl) ?_
  simp only [Act.put, zzA, zz0, zz1]
  refine wR (v := .bool true) rfl (exec_move rfl rfl) ?_
  simp only [Act.put, zzA, zz0, zz1]
  refine wR (v := .int .i64 0) rfl (exec_move rfl rfl) ?_
  simp only [Act.put, zzA, zz0, zz1]
  refine wR (v := .bool true) rfl (ix_eql rfl rfl rfl (by decide)) ?_
  simp only [Act.put, zzA, zz0, zz1]
  refine wR (v := .bool true) rfl (ix_pickT rfl rfl rfl) ?_
  simp only [Act.put, zzA, zz0, zz1]
  refine wR (v := .bool true) rfl (exec_move rfl rfl) ?_
  simp only [Act.put, zzA, zz0, zz1]
  refine wR (v := msgV 800 A5 n5 c5) rfl (gx_loads rfl rfl (blk_range (HBgc.out.turn ((HT9.out.next HT10.out).next HT11.out) (fun e => e))) Tryz.underlying31 rfl (by rw [size_msg]; rfl)) ?_
  simp only [Act.put, zzA, zz0, zz1]
  refine wR (v := msgV 800 (some ⟨g, 0, none⟩) 3 3) rfl (gx_loads rfl rfl (blk_range (HBgm.out.turn ((((((HT3.out.next HT4.out).next HT5.out).next HT6.out).next HT9.out).next HT10.out).next HT11.out) (fun e => e))) Tryz.underlying31 rfl (by rw [size_msg]; rfl)) ?_
  simp only [Act.put, zzA, zz0, zz1]
  have hS := Same_walk (ty1 := 800) (ty2 := 800) (c1 := c5) (c2 := 3) (HF5.out.still (((HT6.out.next HT9.out).next HT10.out).next HT11.out)) (HF.out.still (((((((HT2.out.next HT3.out).next HT4.out).next HT5.out).next HT6.out).next HT9.out).next HT10.out).next HT11.out))
  rw [decide_eq_true (show (800 : Int) = 800 ∧ shF = shF from ⟨rfl, rfl⟩)] at hS
  refine wpList_op rfl fun K9 HK9 => ?_
  go_wp2_with fail
  refine hS.mono ?_
  rintro e w12 ⟨rfl, ht12⟩
  refine HK9.out _ _ ?_
  clear HK9 hS
  try simp only [Act.put, zzA, zz0, zz1]
  have HT12 := Lib.hid ht12
  clear ht12
  refine wR (v := .bool true) rfl (ix_pickT rfl rfl rfl) ?_
  simp only [Act.put, zzA, zz0, zz1]
  refine wR (v := .bool true) rfl (exec_move rfl rfl) ?_
  simp only [Act.put, zzA, zz0, zz1]
  refine wR (v := .int .i64 54) rfl (exec_move rfl rfl) ?_
  simp only [Act.put, zzA, zz0, zz1]
  refine wR (v := .bool true) rfl (ix_eql rfl rfl rfl (by decide)) ?_
  simp only [Act.put, zzA, zz0, zz1]
  refine wR (v := .bool true) rfl (ix_pickT rfl rfl rfl) ?_
  simp only [Act.put, zzA, zz0, zz1]
  refine wR (v := .bool true) rfl (gx_assign rfl rfl) ?_
  simp only [Act.put, zzA, zz0, zz1]
  go_wp2_with fail
  go_ret
  exact ⟨rfl, (((((((((HT1.out.next HT2.out).next HT3.out).next HT4.out).next HT5.out).next HT6.out).next HT9.out).next HT10.out).next HT11.out).next HT12.out)⟩
end Go.Proofs.YtkbdijkoedmgnaaGreatDoor
namespace Go.Proofs.YtkbdijkoedmgnaaGreatDoor
open Go.RowKit
open Fdd
set_option linter.unusedVariables false
set_option linter.unusedSimpArgs false
theorem mencode_err {d ty : Int} {fs : List Fld} {k : Int} (h : mencode d ty fs = .error k) : k ≠ 0 := by
  unfold mencode at h
  split at h
  · split at h
    · split at h
      · injection h with h; omega
      · cases h
    · rename_i hn
      injection h with h
      rw [← h]
      exact hn
  · injection h with h; omega
theorem enc_bad {s : Sents} {w : World} {dd ty : Int} {A : Option Addr} {n c : Nat} {fs : List Fld} {k : Int} (h : mencode dd ty fs = .error k) (he : Env s w) (hf : Fl w A n fs) :
    Calls Tryz.prog 16 #[.int .i64 dd, msgV ty A n c] w fun e w' => ∃ A n c, e = .returned (.tuple #[.slice A n c, .int .i64 k]) ∧ Own w' w.heap.size 5 (.slice A n c) [] ∧ Turn nowhere w w' := by
  have := Encode_walk (dd := dd) (ty := ty) (c := c) he hf
  rw [h] at this
  exact this
theorem ix_neg {a : Act} {o : Oper} {W : World} {x : Operand} {i r : Int} (ho : o.op = .unOp .neg 3 x) (hx : a.eval x = .int .i64 i) (h : -i = r) (hb : -9223372036854775808 ≤ r ∧ r ≤ 9223372036854775807) : (execOp a.eval o).run Tryz.prog W = .ok (.value (.int .i64 r)) W := by
  subst h
  have hw : IntKind.i64.wrap (-i) = -i := by rw [IntKind.wrap_i64]; omega
  unfold execOp
  simp only [ho, hx]
  go_simp
  try exact hw
theorem ix_rem {a : Act} {o : Oper} {W : World} {x y : Operand} {n m : Nat} (ho : o.op = .binOp .rem 3 x y 3) (hx : a.eval x = .int .i64 (n : Int)) (hy : a.eval y = .int .i64 (m : Int)) (hm : 0 < m) (hn : n ≤ 9223372036854775807) : (execOp a.eval o).run Tryz.prog W = .ok (.value (.int .i64 ((n % m : Nat) : Int))) W := by
  have hm1 : (m : Int) ≠ 0 := by omega
  obtain ⟨q, hq⟩ : ∃ q : Nat, q = n % m := ⟨_, rfl⟩
  have hlt : q ≤ n := by rw [hq]; exact Nat.mod_le _ _
  have e : (n : Int).tmod (m : Int) = (q : Int) := by rw [hq]; rfl
  rw [← hq]
  have hw : IntKind.i64.wrap (q : Int) = (q : Int) := by rw [IntKind.wrap_i64]; omega
  unfold execOp
  simp only [ho, hx, hy]
  go_simp
  omega
theorem ix_quo {a : Act} {o : Oper} {W : World} {x y : Operand} {n m : Nat} (ho : o.op = .binOp .quo 3 x y 3) (hx : a.eval x = .int .i64 (n : Int)) (hy : a.eval y = .int .i64 (m : Int)) (hm : 0 < m) (hn : n ≤ 9223372036854775807) : (execOp a.eval o).run Tryz.prog W = .ok (.value (.int .i64 ((n / m : Nat) : Int))) W := by
  have hm1 : (m : Int) ≠ 0 := by omega
  obtain ⟨q, hq⟩ : ∃ q : Nat, q = n / m := ⟨_, rfl⟩
  have hlt : q ≤ n := by rw [hq]; exact Nat.div_le_self _ _
  have e : (n : Int).tdiv (m : Int) = (q : Int) := by rw [hq]; rfl
  rw [← hq]
  have hw : IntKind.i64.wrap (q : Int) = (q : Int) := by rw [IntKind.wrap_i64]; omega
  unfold execOp
  simp only [ho, hx, hy]
  go_simp
  rw [if_neg (by omega), show IntKind.i64.wrap ((n : Int) / (m : Int)) = (n : Int) / (m : Int) from by rw [← Int.natCast_ediv, ← hq]; exact hw]
theorem bx_eqb {a : Act} {o : Oper} {W : World} {x y : Operand} {p q : Bool} (ho : o.op = .binOp .eql 4 x y 4) (hx : a.eval x = .bool p) (hy : a.eval y = .bool q) : (execOp a.eval o).run Tryz.prog W = .ok (.value (.bool (p == q))) W := by
  unfold execOp
  simp only [ho, hx, hy]
  cases p <;> cases q <;> go_simp
theorem bx_neb {a : Act} {o : Oper} {W : World} {x y : Operand} {p q : Bool} (ho : o.op = .binOp .neq 4 x y 4) (hx : a.eval x = .bool p) (hy : a.eval y = .bool q) : (execOp a.eval o).run Tryz.prog W = .ok (.value (.bool (!(p == q)))) W := by
  unfold execOp
  simp only [ho, hx, hy]
  cases p <;> cases q <;> go_simp
theorem seql_not {a : Act} {o : Oper} {W : World} {x y : Operand} {l m : List UInt8} {t u : TypeId} (ho : o.op = .binOp .eql t x y u) (hx : a.eval x = strV l) (hy : a.eval y = strV m) (hne : l ≠ m) : (execOp a.eval o).run Tryz.prog W = .ok (.value (.bool false)) W := by
  have h := exec_seql (W := W) ho hx hy
  rw [h]
  simp [hne]
theorem mtakeAll_err {ps : List Pt} {b : List UInt8} {k : Int} (h : takeAll ps b = .error k) : k ≠ 0 := by
  unfold takeAll at h
  split at h
  · injection h with h; omega
  · split at h
    · injection h with h; omega
    · cases h
theorem ftake_err {f : Fm} {b : List UInt8} {k : Int} (h : f.take b = .error k) : k ≠ 0 := by
  unfold Fm.take at h
  split at h
  · split at h
    · split at h
      · rename_i e he
        injection h with h
        subst h
        exact mtakeAll_err he
      · split at h
        · exact mtakeAll_err h
        · injection h with h; omega
    · exact mtakeAll_err h
  · injection h with h; omega
theorem takeType_err {d : Nat} {b : List UInt8} {k : Int} (h : takeType d b = .error k) : k ≠ 0 := by
  unfold takeType at h
  split at h
  · rename_i e he
    injection h with h
    subst h
    exact ftake_err he
  · split at h
    · injection h with h; omega
    · cases h
theorem takeHalf_err {d : Nat} {b : List UInt8} {k : Int} (h : takeHalf d b = .error k) : k ≠ 0 := by
  unfold takeHalf at h
  split at h
  · rename_i e he
    injection h with h
    subst h
    exact ftake_err he
  · cases h
theorem takeMap_err {d : Nat} {b : List UInt8} {k : Int} (h : takeMap d b = .error k) : k ≠ 0 := by
  unfold takeMap at h
  split at h
  · rename_i e he
    injection h with h
    subst h
    exact takeHalf_err he
  · split at h
    · cases h
    · split at h
      · rename_i e he
        injection h with h
        subst h
        exact takeHalf_err he
      · split at h
        · injection h with h; omega
        · cases h
theorem takeFs_err {d : Nat} : ∀ {l : List Int} {b : List UInt8} {k : Int}, takeFs d l b = .error k → k ≠ 0
  | [], b, k, h => by cases h
  | no :: l, b, k, h => by
    unfold takeFs at h
    split at h
    · injection h with h; omega
    · split at h
      · rename_i e he
        injection h with h
        subst h
        exact ftake_err he
      · split at h
        · rename_i e he
          injection h with h
          subst h
          exact takeFs_err he
        · cases h
theorem mdecode_err {d : Int} {b : List UInt8} {k : Int} (h : mdecode d b = .error k) : k ≠ 0 := by
  unfold mdecode at h
  split at h
  · split at h
    · rename_i e he
      injection h with h
      subst h
      exact takeType_err he
    · split at h
      · rename_i e he
        injection h with h
        subst h
        exact takeMap_err he
      · split at h
        · split at h
          · rename_i e he
            injection h with h
            subst h
            exact takeFs_err he
          · split at h
            · cases h
            · injection h with h; omega
        · injection h with h; omega
  · injection h with h; omega
theorem wire_pos {d ty : Int} {fs : List Fld} {b : List UInt8} (h : mencode d ty fs = .ok b) : 0 < b.length := by
  cases b with
  | nil =>
    have h2 := mdecode_back h
    obtain ⟨hd, _⟩ := mencode_ok.1 h
    have hc : d = 1 ∨ d = 2 ∨ d = 3 := by omega
    rcases hc with rfl | rfl | rfl
    · rw [show mdecode 1 [] = .error 43 from by rfl] at h2
      cases h2
    · rw [show mdecode 2 [] = .error 43 from by rfl] at h2
      cases h2
    · rw [show mdecode 3 [] = .error 43 from by rfl] at h2
      cases h2
  | cons _ _ => exact Nat.succ_pos _
theorem menc_len {d ty : Int} {fs : List Fld} {b : List UInt8} (h : mencode d ty fs = .ok b) : b.length ≤ 500 := by
  obtain ⟨hd, hw, e⟩ := mencode_ok.1 h
  rw [e]
  exact wire_len (toNat_in hd) hw
theorem bs_cut {w : World} {A : Option Addr} {n k : Nat} {b : List UInt8} (h : Bs w A n b) (hk : k ≤ n) : Bs w A k (b.take k) := by
  obtain ⟨h1, h2, h3⟩ := h
  refine ⟨by rw [List.length_take]; omega, by omega, fun hp => ?_⟩
  obtain ⟨g, off, e, hc⟩ := h3 (by omega)
  refine ⟨g, off, e, fun i hi => ?_⟩
  rw [hc i (by omega)]
  have : (b.take k).getD i 0 = b.getD i 0 := by simp [List.getD, List.getElem?_take, hi]
  rw [this]
end Go.Proofs.YtkbdijkoedmgnaaGreatDoor
namespace Go.Proofs.YtkbdijkoedmgnaaGreatDoor
open Go.RowKit
open Fdd
set_option linter.unusedVariables false
set_option linter.unusedSimpArgs false
def fmA (m : Fm) : Array Value := #[.int .i64 m.kind, .int .i64 m.size, .int .i64 m.code]
def fm0 : Fm := ⟨0, 0, 0⟩
def formE (dd no : Int) : Fm × Int := if 1 ≤ dd ∧ dd ≤ 3 then match mform dd.toNat no with
    | some m => (m, 0)
    | none => (fm0, 52)
  else (fm0, 50)
theorem fmA_one (m : Fm) : ∀ v ∈ (fmA m).toList, v.oneCell' = true := fun v hv => by
  unfold fmA at hv
  simp only [List.mem_cons, List.not_mem_nil, or_false] at hv
  rcases hv with rfl | rfl | rfl <;> rfl
theorem zero_fm (w : World) : (zeroValue 24).run Tryz.prog w = .ok (.agg (fmA fm0)) w := by kernel_rfl
theorem build_fm0 (W : World) : (Instr.build 24 #[]).run Tryz.prog W = .ok (.agg (fmA fm0)) W := by kernel_rfl
set_option maxRecDepth 20000 in
set_option maxHeartbeats 1000000 in
theorem Form_walk {s : Sents} {w : World} {dd no : Int} (he : Env s w) :
    Calls Tryz.prog 14 #[.int .i64 dd, .int .i64 no] w fun e w' => e = .returned (.tuple #[.agg (fmA (formE dd no).1), .int .i64 (formE dd no).2]) ∧ Turn nowhere w w' := by
  have hu := (Turn.refl nowhere w).alloc (.cells (fmA fm0) 24)
  have hb := Blk.new w 24 (fmA fm0)
  obtain ⟨gr, hgr⟩ : ∃ gr, gr = w.heap.size := ⟨_, rfl⟩
  rw [← hgr] at hb
  have HGRE := Lib.hid hgr
  have HGR := Lib.hid (show w.heap.size ≤ gr from by omega)
  have HE := Lib.hid he
  have HT0 := Lib.hid hu
  have HBgr := Lib.hid hb
  clear he hu hb hgr
  go_enter Tryz.func14, Tryz.ntmps14
  go_upto_region 1 with fail
  have e2 := HGRE.out
  rw [← e2]
  clear e2 HGRE
  change Code.wp _ _ _ _ (w.alloc (.cells (fmA fm0) 24))
  generalize World.alloc w (.cells (fmA fm0) 24) = w1 at *
  refine wp_region_lit ?_
  refine wR (v := .int .i64 dd) rfl (exec_move rfl rfl) ?_
  simp only [Act.put, zzA, zz0, zz1]
  by_cases hd : 1 ≤ dd ∧ dd ≤ 3
  · obtain ⟨d, rfl⟩ : ∃ d : Nat, dd = (d : Int) := ⟨dd.toNat, by omega⟩
    have hdn : 1 ≤ d ∧ d ≤ 3 := by omega
    have hFE : formE (d : Int) no = (match mform d no with | some m => (m, 0) | none => (fm0, 52)) := by
      unfold formE
      rw [if_pos hd, Int.toNat_natCast]
    have HFE := Lib.hid hFE
    have HDN := Lib.hid hdn
    clear hFE hd hdn
    refine wpList_op rfl fun K9 HK9 => ?_
    go_wp2_with fail
    refine (tongueOf_ok (s := s) HDN.out (HE.out.turn HT0.out).tab).mono ?_
    rintro e w2 ⟨rfl, htx⟩
    refine HK9.out _ _ ?_
    clear HK9
    try simp only [Act.put, zzA, zz0, zz1]
    have HT2 := Lib.hid htx
    clear htx
    refine wR (v := .tuple #[tongV d, .nilIface]) rfl (exec_move rfl rfl) ?_
    simp only [Act.put, zzA, zz0, zz1]
    refine wR (v := tongV d) rfl (ix_extract rfl rfl rfl) ?_
    simp only [Act.put, zzA, zz0, zz1]
    refine wR (v := .nilIface) rfl (ix_extract rfl rfl rfl) ?_
    simp only [Act.put, zzA, zz0, zz1]
    refine wpList_new 51 (.tmp 6) (.tmp 12) (tongA d) rfl rfl (zero_tongue _) rfl rfl rfl rfl rfl rfl (by rw [size_tongue]; rfl) (tongA_one d) ?_
    intro w3 gt _ hbx hux
    simp only [Act.put, zzA, zz0, zz1]
    have HBgt := Lib.hid hbx
    have HTgt := Lib.hid hux
    clear hbx hux
    refine wR (v := .nilIface) rfl (gx_assign rfl rfl) ?_
    simp only [Act.put, zzA, zz0, zz1]
    go_upto_region 4 with fail
    refine wp_region_lit ?_
    refine wR (v := tongV d) rfl (gx_loads rfl rfl (blk_range HBgt.out) Tryz.underlying51 rfl (by rw [size_tongue]; rfl)) ?_
    simp only [Act.put, zzA, zz0, zz1]
    refine wR (v := .int .i64 no) rfl (exec_move rfl rfl) ?_
    simp only [Act.put, zzA, zz0, zz1]
    have hF := form_walk (s := s) (d := d) (no := no) (HE.out.turn ((HT0.out.next HT2.out).next HTgt.out)).tab (HE.out.turn ((HT0.out.next HT2.out).next HTgt.out)).sen
    unfold formR at hF
    have HFEo := HFE.out
    cases hm : mform d no with
    | some m =>
      rw [hm] at hF HFEo
      have HFX := Lib.hid HFEo
      clear HFEo hm HFE
      refine wpList_op rfl fun K9 HK9 => ?_
      go_wp2_with fail
      refine (hF).mono ?_
      rintro e w4 ⟨rfl, htx⟩
      refine HK9.out _ _ ?_
      clear HK9
      try simp only [Act.put, zzA, zz0, zz1]
      clear hF
      have HT4 := Lib.hid htx
      clear htx
      refine wR (v := .tuple #[.agg (fmA m), .nilIface]) rfl (exec_move rfl rfl) ?_
      simp only [Act.put, zzA, zz0, zz1]
      refine wR (v := .agg (fmA m)) rfl (ix_extract rfl rfl rfl) ?_
      simp only [Act.put, zzA, zz0, zz1]
      refine wR (v := .nilIface) rfl (ix_extract rfl rfl rfl) ?_
      simp only [Act.put, zzA, zz0, zz1]
      have HG9 := Lib.hid ((HBgr.out.turn ((HT2.out.next HTgt.out).next HT4.out) (fun e => e)))
      refine wpList_new 24 (.tmp 8) (.tmp 23) (fmA m) rfl rfl (zero_fm _) rfl rfl rfl rfl rfl rfl (by rw [size_form]; rfl) (fmA_one _) ?_
      intro w5 gf hgf hbx hux
      simp only [Act.put, zzA, zz0, zz1]
      have HBgf := Lib.hid hbx
      have HTgf := Lib.hid hux
      have HGf := Lib.hid hgf
      clear hbx hux hgf
      refine wR (v := .nilIface) rfl (gx_assign rfl rfl) ?_
      simp only [Act.put, zzA, zz0, zz1]
      go_upto_region 5 with fail
      have hS0 : Blk w5.drew gf 24 (fmA m) := HBgf.out.drew
      have HBd := Lib.hid ((HBgr.out.turn (((HT2.out.next HTgt.out).next HT4.out).next HTgf.out) (fun e => e)).drew)
      have HUd := Lib.hid (((((HT0.out.next HT2.out).next HTgt.out).next HT4.out).next HTgf.out).drew)
      have HNE := Lib.hid (show gf ≠ gr from by
        have h1 := HG9.out.lt
        have h2 := HGf.out
        omega)
      refine wp_region_alw (fun W => Blk W gf 24 (fmA m)) (by kernel_rfl) ?_
      generalize w5.drew = w7 at *
      refine alw_take (i := 0) (v := .agg (fmA m)) rfl (by kernel_rfl) (by kernel_rfl) (fun _ _ _ h => h) (.inl ⟨by rfl, fun W hW => gx_loads rfl rfl (blk_range hW) Tryz.underlying24 rfl (by rw [size_form]; rfl)⟩) hS0 ?_
      simp only [Act.put, zzA, zz0, zz1]
      refine alw_take (i := 1) (v := .nilIface) rfl (by kernel_rfl) (by kernel_rfl) (fun _ _ _ h => h) (.inl ⟨by rfl, fun W hW => exec_move rfl rfl⟩) hS0 ?_
      simp only [Act.put, zzA, zz0, zz1]
      refine alw_step (i := 2) (by kernel_rfl) rfl rfl ?_
      intro K1 HK1
      go_wp2_with fail
      refine (tell_walk ErrV.nil (HE.out.turn HUd.out).sen).mono ?_
      rintro e w8 ⟨rfl, ht8⟩
      have hS1 := hS0.turn ht8 (fun e => e)
      refine HK1.out _ _ ⟨hS1, ?_⟩
      have HB8 := Lib.hid (HBd.out.turn ht8 (fun e => e))
      have HU8 := Lib.hid (HUd.out.next ht8)
      clear HK1 hS0 ht8 HBd HUd
      try simp only [Act.put, zzA, zz0, zz1]
      refine alw_step (i := 3) (by kernel_rfl) rfl rfl ?_
      intro K1 HK1
      refine wp_store_rowU 24 (.tmp 4) (.tmp 25) rfl (fmA m) HB8.out rfl rfl rfl (by rw [size_form]; rfl) (fmA_one _) ?_
      intro wz hbz huz
      have hS2 := hS1.turn huz (fun e => HNE.out e)
      have HBZ := Lib.hid hbz
      have HUZ := Lib.hid (above HU8.out HGR.out huz)
      clear hbz huz HU8 HB8 hS1
      refine HK1.out _ _ ⟨hS2, ?_⟩
      clear HK1
      simp only [Act.put, zzA, zz0, zz1]
      refine alw_take (i := 4) (v := .int .i64 0) rfl (by kernel_rfl) (by kernel_rfl) (fun _ _ _ h => h) (.inl ⟨by rfl, fun W hW => gx_assign rfl rfl⟩) hS2 ?_
      simp only [Act.put, zzA, zz0, zz1]
      refine alw_done rfl ?_
      clear hS2
      refine NoPanic.normal ?_
      go_wp2_with fail
      refine bodyPost_ret (v := .tuple #[.agg (fmA m), .int .i64 0]) (ret_cell2 rfl _ _ gr _ _ _ rfl rfl HBZ.out Tryz.underlying24 rfl (by rw [size_form]; rfl)) rfl ?_
      rw [HFX.out]
      exact ⟨rfl, HUZ.out⟩
    | none =>
      rw [hm] at hF HFEo
      have HFX := Lib.hid HFEo
      clear HFEo hm HFE
      refine wpList_op rfl fun K9 HK9 => ?_
      go_wp2_with fail
      refine (hF).mono ?_
      rintro e w4 ⟨rfl, htx⟩
      refine HK9.out _ _ ?_
      clear HK9
      try simp only [Act.put, zzA, zz0, zz1]
      clear hF
      have HT4 := Lib.hid htx
      clear htx
      refine wR (v := .tuple #[.agg (fmA fm0), .iface 81 (.agg #[.int .i64 no, .iface 240 (.pointer (some s.field))])]) rfl (exec_move rfl rfl) ?_
      simp only [Act.put, zzA, zz0, zz1]
      refine wR (v := .agg (fmA fm0)) rfl (ix_extract rfl rfl rfl) ?_
      simp only [Act.put, zzA, zz0, zz1]
      refine wR (v := .iface 81 (.agg #[.int .i64 no, .iface 240 (.pointer (some s.field))])) rfl (ix_extract rfl rfl rfl) ?_
      simp only [Act.put, zzA, zz0, zz1]
      have HG9 := Lib.hid ((HBgr.out.turn ((HT2.out.next HTgt.out).next HT4.out) (fun e => e)))
      refine wpList_new 24 (.tmp 8) (.tmp 23) (fmA fm0) rfl rfl (zero_fm _) rfl rfl rfl rfl rfl rfl (by rw [size_form]; rfl) (fmA_one _) ?_
      intro w5 gf hgf hbx hux
      simp only [Act.put, zzA, zz0, zz1]
      have HBgf := Lib.hid hbx
      have HTgf := Lib.hid hux
      have HGf := Lib.hid hgf
      clear hbx hux hgf
      refine wR (v := .iface 81 (.agg #[.int .i64 no, .iface 240 (.pointer (some s.field))])) rfl (gx_assign rfl rfl) ?_
      simp only [Act.put, zzA, zz0, zz1]
      go_upto_region 5 with fail
      have hS0 : Blk w5.drew gf 24 (fmA fm0) := HBgf.out.drew
      have HBd := Lib.hid ((HBgr.out.turn (((HT2.out.next HTgt.out).next HT4.out).next HTgf.out) (fun e => e)).drew)
      have HUd := Lib.hid (((((HT0.out.next HT2.out).next HTgt.out).next HT4.out).next HTgf.out).drew)
      have HNE := Lib.hid (show gf ≠ gr from by
        have h1 := HG9.out.lt
        have h2 := HGf.out
        omega)
      refine wp_region_alw (fun W => Blk W gf 24 (fmA fm0)) (by kernel_rfl) ?_
      generalize w5.drew = w7 at *
      refine alw_take (i := 0) (v := .agg (fmA fm0)) rfl (by kernel_rfl) (by kernel_rfl) (fun _ _ _ h => h) (.inl ⟨by rfl, fun W hW => gx_loads rfl rfl (blk_range hW) Tryz.underlying24 rfl (by rw [size_form]; rfl)⟩) hS0 ?_
      simp only [Act.put, zzA, zz0, zz1]
      refine alw_take (i := 1) (v := .iface 81 (.agg #[.int .i64 no, .iface 240 (.pointer (some s.field))])) rfl (by kernel_rfl) (by kernel_rfl) (fun _ _ _ h => h) (.inl ⟨by rfl, fun W hW => exec_move rfl rfl⟩) hS0 ?_
      simp only [Act.put, zzA, zz0, zz1]
      refine alw_step (i := 2) (by kernel_rfl) rfl rfl ?_
      intro K1 HK1
      go_wp2_with fail
      refine (tell_walk (ErrV.field no) (HE.out.turn HUd.out).sen).mono ?_
      rintro e w8 ⟨rfl, ht8⟩
      have hS1 := hS0.turn ht8 (fun e => e)
      refine HK1.out _ _ ⟨hS1, ?_⟩
      have HB8 := Lib.hid (HBd.out.turn ht8 (fun e => e))
      have HU8 := Lib.hid (HUd.out.next ht8)
      clear HK1 hS0 ht8 HBd HUd
      try simp only [Act.put, zzA, zz0, zz1]
      refine alw_step (i := 3) (by kernel_rfl) rfl rfl ?_
      intro K1 HK1
      refine wp_store_rowU 24 (.tmp 4) (.tmp 25) rfl (fmA fm0) HB8.out rfl rfl rfl (by rw [size_form]; rfl) (fmA_one _) ?_
      intro wz hbz huz
      have hS2 := hS1.turn huz (fun e => HNE.out e)
      have HBZ := Lib.hid hbz
      have HUZ := Lib.hid (above HU8.out HGR.out huz)
      clear hbz huz HU8 HB8 hS1
      refine HK1.out _ _ ⟨hS2, ?_⟩
      clear HK1
      simp only [Act.put, zzA, zz0, zz1]
      refine alw_take (i := 4) (v := .int .i64 52) rfl (by kernel_rfl) (by kernel_rfl) (fun _ _ _ h => h) (.inl ⟨by rfl, fun W hW => gx_assign rfl rfl⟩) hS2 ?_
      simp only [Act.put, zzA, zz0, zz1]
      refine alw_done rfl ?_
      clear hS2
      refine NoPanic.normal ?_
      go_wp2_with fail
      refine bodyPost_ret (v := .tuple #[.agg (fmA fm0), .int .i64 52]) (ret_cell2 rfl _ _ gr _ _ _ rfl rfl HBZ.out Tryz.underlying24 rfl (by rw [size_form]; rfl)) rfl ?_
      rw [HFX.out]
      exact ⟨rfl, HUZ.out⟩
  · have HFX := Lib.hid (show formE dd no = (fm0, 50) from by unfold formE; rw [if_neg hd])
    refine wpList_op rfl fun K9 HK9 => ?_
    go_wp2_with fail
    refine (tongueOf_bad (s := s) hd (HE.out.turn HT0.out).sen).mono ?_
    rintro e w2 ⟨rfl, htx⟩
    refine HK9.out _ _ ?_
    clear HK9
    try simp only [Act.put, zzA, zz0, zz1]
    have HT2 := Lib.hid htx
    clear htx hd
    refine wR (v := .tuple #[.agg #[.int .i64 0, strV [], strV []], .iface 240 (.pointer (some s.dialect))]) rfl (exec_move rfl rfl) ?_
    simp only [Act.put, zzA, zz0, zz1]
    refine wR (v := .agg #[.int .i64 0, strV [], strV []]) rfl (ix_extract rfl rfl rfl) ?_
    simp only [Act.put, zzA, zz0, zz1]
    refine wR (v := .iface 240 (.pointer (some s.dialect))) rfl (ix_extract rfl rfl rfl) ?_
    simp only [Act.put, zzA, zz0, zz1]
    refine wpList_new 51 (.tmp 6) (.tmp 12) #[.int .i64 0, strV [], strV []] rfl rfl (zero_tongue _) rfl rfl rfl rfl rfl rfl (by rw [size_tongue]; rfl) zeroT_one ?_
    intro w3 gt _ hbx hux
    simp only [Act.put, zzA, zz0, zz1]
    have HBgt := Lib.hid hbx
    have HTgt := Lib.hid hux
    clear hbx hux
    refine wR (v := .iface 240 (.pointer (some s.dialect))) rfl (gx_assign rfl rfl) ?_
    simp only [Act.put, zzA, zz0, zz1]
    go_upto_region 3 with fail
    refine wp_region_lit ?_
    refine wR (v := .agg (fmA fm0)) rfl (exec_bld rfl (build_fm0 _)) ?_
    simp only [Act.put, zzA, zz0, zz1]
    refine wR (v := .iface 240 (.pointer (some s.dialect))) rfl (exec_move rfl rfl) ?_
    simp only [Act.put, zzA, zz0, zz1]
    refine wpList_op rfl fun K9 HK9 => ?_
    go_wp2_with fail
    refine (tell_walk (s := s) ErrV.dialect (HE.out.turn ((HT0.out.next HT2.out).next HTgt.out)).sen).mono ?_
    rintro e w4 ⟨rfl, htx⟩
    refine HK9.out _ _ ?_
    clear HK9
    try simp only [Act.put, zzA, zz0, zz1]
    have HT4 := Lib.hid htx
    clear htx
    refine wpList_store_row rfl 24 (.tmp 4) (.tmp 16) rfl (fmA fm0) (HBgr.out.turn ((HT2.out.next HTgt.out).next HT4.out) (fun e => e)) rfl rfl rfl (by rw [size_form]; rfl) (fmA_one _) ?_
    intro w6 hb6 hu6
    have HBZ := Lib.hid hb6
    have HUZ := Lib.hid (above (((HT0.out.next HT2.out).next HTgt.out).next HT4.out) HGR.out hu6)
    clear hb6 hu6
    try simp only [Act.put, zzA, zz0, zz1]
    refine wR (v := .int .i64 50) rfl (gx_assign rfl rfl) ?_
    simp only [Act.put, zzA, zz0, zz1]
    go_wp2_with fail
    refine bodyPost_ret (v := .tuple #[.agg (fmA fm0), .int .i64 50]) (ret_cell2 rfl _ _ gr _ _ _ rfl rfl HBZ.out Tryz.underlying24 rfl (by rw [size_form]; rfl)) rfl ?_
    rw [HFX.out]
    exact ⟨rfl, HUZ.out⟩
end Go.Proofs.YtkbdijkoedmgnaaGreatDoor
namespace Go.Proofs.YtkbdijkoedmgnaaGreatDoor
open Go.RowKit
open Fdd
set_option linter.unusedVariables false
set_option linter.unusedSimpArgs false
def thereR (no : Int) : Int × Int := (mfind no mrows).getD (0, 0)
set_option maxRecDepth 20000 in
set_option maxHeartbeats 2000000 in
theorem there_walk {w : World} {no : Int} : Calls Tryz.prog 30 #[.int .i64 no] w fun e w' => e = .returned (.tuple #[.int .i64 (thereR no).1, .int .i64 (thereR no).2]) ∧ w' = w := by
  by_cases h : no ∈ [(2 : Int), 3, 4, 7, 11, 32, 38, 39, 49, 64, 70, 74, 76, 86, 88, 90, 97]
  · simp only [List.mem_cons, List.not_mem_nil, or_false] at h
    rcases h with rfl | rfl | rfl | rfl | rfl | rfl | rfl | rfl | rfl | rfl | rfl | rfl | rfl | rfl | rfl | rfl | rfl
    all_goals
      go_enter Tryz.func30, Tryz.ntmps30
      go_wp2
      go_ret2
      exact ⟨rfl, rfl⟩
  · simp only [List.mem_cons, List.not_mem_nil, or_false, not_or] at h
    obtain ⟨h1, h2, h3, h4, h5, h6, h7, h8, h9, h10, h11, h12, h13, h14, h15, h16, h17⟩ := h
    have hv : thereR no = (0, 0) := by
      unfold thereR mrows
      simp [mfind, Ne.symm h1, Ne.symm h2, Ne.symm h3, Ne.symm h4, Ne.symm h5, Ne.symm h6, Ne.symm h7, Ne.symm h8, Ne.symm h9, Ne.symm h10, Ne.symm h11, Ne.symm h12, Ne.symm h13, Ne.symm h14, Ne.symm h15, Ne.symm h16, Ne.symm h17]
    rw [hv]
    clear hv
    go_enter Tryz.func30, Tryz.ntmps30
    go_wp2
    go_ret2
    exact ⟨rfl, rfl⟩
theorem mfind_pos {no : Int} {r : Int × Int} (h : mfind no mrows = some r) : r.1 ≠ 0 := by
  have := (mrows_all _ (mfind_mem h)).1
  have h2 : (no, r).2.1 = r.1 := rfl
  omega
theorem mfind_four {r : Int × Int} (h : mfind 4 mrows = some r) : r.2 = 12 := by
  have := (mrows_all _ (mfind_mem h)).2.2.1 rfl
  exact this.1
theorem build_fm3 (x y z : Int) (W : World) : (Instr.build 24 #[(0, .int .i64 x), (1, .int .i64 y), (2, .int .i64 z)]).run Tryz.prog W = .ok (.agg (fmA ⟨x, y, z⟩)) W := by kernel_rfl
set_option maxRecDepth 20000 in
set_option maxHeartbeats 2000000 in
theorem rForm_walk {w : World} {dd no : Int} :
    Calls Tryz.prog 15 #[.int .i64 dd, .int .i64 no] w fun e w' => e = .returned (.tuple #[.agg (fmA (formE dd no).1), .int .i64 (formE dd no).2]) ∧ Turn nowhere w w' := by
  have hu := (Turn.refl nowhere w).alloc (.cells (fmA fm0) 24)
  have hb := Blk.new w 24 (fmA fm0)
  obtain ⟨gr, hgr⟩ : ∃ gr, gr = w.heap.size := ⟨_, rfl⟩
  rw [← hgr] at hb
  have HGRE := Lib.hid hgr
  have HGR := Lib.hid (show w.heap.size ≤ gr from by omega)
  have HT0 := Lib.hid hu
  have HBgr := Lib.hid hb
  clear hu hb hgr
  go_enter Tryz.func15, Tryz.ntmps15
  go_upto_region 1 with fail
  have e2 := HGRE.out
  rw [← e2]
  clear e2 HGRE
  change Code.wp _ _ _ _ (w.alloc (.cells (fmA fm0) 24))
  generalize World.alloc w (.cells (fmA fm0) 24) = w1 at *
  refine wp_region_lit ?_
  refine wR (v := .int .i64 dd) rfl (exec_move rfl rfl) ?_
  simp only [Act.put, zzA, zz0, zz1]
  by_cases h1 : dd < 1
  · have HFX := Lib.hid (show formE dd no = (fm0, 50) from by unfold formE; rw [if_neg (by omega)])
    refine wR (v := .bool true) rfl (ix_lss rfl rfl rfl (decide_eq_true h1)) ?_
    simp only [Act.put, zzA, zz0, zz1]
    refine wR (v := .bool true) rfl (exec_move rfl rfl) ?_
    simp only [Act.put, zzA, zz0, zz1]
    refine wpList_skip (by go_simp) ?_
    simp only [Act.put, zzA, zz0, zz1]
    refine wpList_skip (by go_simp) ?_
    simp only [Act.put, zzA, zz0, zz1]
    refine wR (v := .bool true) rfl (ix_pickT rfl rfl rfl) ?_
    simp only [Act.put, zzA, zz0, zz1]
    go_upto_region 2 with fail
    refine wp_region_lit ?_
    refine wR (v := .agg (fmA fm0)) rfl (exec_bld rfl (build_fm0 _)) ?_
    simp only [Act.put, zzA, zz0, zz1]
    refine wpList_store_row rfl 24 (.tmp 4) (.tmp 14) rfl (fmA fm0) HBgr.out rfl rfl rfl (by rw [size_form]; rfl) (fmA_one _) ?_
    intro w6 hb6 hu6
    have HBZ := Lib.hid hb6
    have HUZ := Lib.hid (above HT0.out HGR.out hu6)
    clear hb6 hu6
    try simp only [Act.put, zzA, zz0, zz1]
    refine wR (v := .int .i64 50) rfl (gx_assign rfl rfl) ?_
    simp only [Act.put, zzA, zz0, zz1]
    go_wp2_with fail
    refine bodyPost_ret (v := .tuple #[.agg (fmA fm0), .int .i64 50]) (ret_cell2 rfl _ _ gr _ _ _ rfl rfl HBZ.out Tryz.underlying24 rfl (by rw [size_form]; rfl)) rfl ?_
    rw [HFX.out]
    exact ⟨rfl, HUZ.out⟩
  · refine wR (v := .bool false) rfl (ix_lss rfl rfl rfl (decide_eq_false h1)) ?_
    simp only [Act.put, zzA, zz0, zz1]
    refine wR (v := .bool false) rfl (exec_move rfl rfl) ?_
    simp only [Act.put, zzA, zz0, zz1]
    refine wR (v := .int .i64 dd) rfl (exec_move rfl rfl) ?_
    simp only [Act.put, zzA, zz0, zz1]
    by_cases h2 : 3 < dd
    · have HFX := Lib.hid (show formE dd no = (fm0, 50) from by unfold formE; rw [if_neg (by omega)])
      refine wR (v := .bool true) rfl (ix_gtr rfl rfl rfl (decide_eq_true h2)) ?_
      simp only [Act.put, zzA, zz0, zz1]
      refine wR (v := .bool true) rfl (ix_pickF rfl rfl rfl) ?_
      simp only [Act.put, zzA, zz0, zz1]
      go_upto_region 2 with fail
      refine wp_region_lit ?_
      refine wR (v := .agg (fmA fm0)) rfl (exec_bld rfl (build_fm0 _)) ?_
      simp only [Act.put, zzA, zz0, zz1]
      refine wpList_store_row rfl 24 (.tmp 4) (.tmp 14) rfl (fmA fm0) HBgr.out rfl rfl rfl (by rw [size_form]; rfl) (fmA_one _) ?_
      intro w6 hb6 hu6
      have HBZ := Lib.hid hb6
      have HUZ := Lib.hid (above HT0.out HGR.out hu6)
      clear hb6 hu6
      try simp only [Act.put, zzA, zz0, zz1]
      refine wR (v := .int .i64 50) rfl (gx_assign rfl rfl) ?_
      simp only [Act.put, zzA, zz0, zz1]
      go_wp2_with fail
      refine bodyPost_ret (v := .tuple #[.agg (fmA fm0), .int .i64 50]) (ret_cell2 rfl _ _ gr _ _ _ rfl rfl HBZ.out Tryz.underlying24 rfl (by rw [size_form]; rfl)) rfl ?_
      rw [HFX.out]
      exact ⟨rfl, HUZ.out⟩
    · refine wR (v := .bool false) rfl (ix_gtr rfl rfl rfl (decide_eq_false h2)) ?_
      simp only [Act.put, zzA, zz0, zz1]
      refine wR (v := .bool false) rfl (ix_pickF rfl rfl rfl) ?_
      simp only [Act.put, zzA, zz0, zz1]
      have hFE : formE dd no = (match mform dd.toNat no with | some m => (m, 0) | none => (fm0, 52)) := by
        unfold formE
        rw [if_pos (by omega)] <;> rfl
      have hd3 : 1 ≤ dd ∧ dd ≤ 3 := by omega
      clear h1 h2
      go_upto_region 3 with fail
      refine wp_region_lit ?_
      refine wR (v := .int .i64 no) rfl (exec_move rfl rfl) ?_
      simp only [Act.put, zzA, zz0, zz1]
      refine wpList_op rfl fun K9 HK9 => ?_
      go_wp2_with fail
      refine (there_walk).mono ?_
      rintro e w2 ⟨rfl, rfl⟩
      refine HK9.out _ _ ?_
      clear HK9
      try simp only [Act.put, zzA, zz0, zz1]
      refine wR (v := .tuple #[.int .i64 (thereR no).1, .int .i64 (thereR no).2]) rfl (exec_move rfl rfl) ?_
      simp only [Act.put, zzA, zz0, zz1]
      refine wR (v := .int .i64 (thereR no).1) rfl (ix_extract rfl rfl rfl) ?_
      simp only [Act.put, zzA, zz0, zz1]
      refine wR (v := .int .i64 (thereR no).2) rfl (ix_extract rfl rfl rfl) ?_
      simp only [Act.put, zzA, zz0, zz1]
      refine wR (v := .int .i64 (thereR no).1) rfl (gx_assign rfl rfl) ?_
      simp only [Act.put, zzA, zz0, zz1]
      refine wR (v := .int .i64 (thereR no).2) rfl (gx_assign rfl rfl) ?_
      simp only [Act.put, zzA, zz0, zz1]
      go_upto_region 4 with fail
      refine wp_region_lit ?_
      refine wR (v := .int .i64 (thereR no).1) rfl (exec_move rfl rfl) ?_
      simp only [Act.put, zzA, zz0, zz1]
      cases hm : mfind no mrows with
      | none =>
        have HFX := Lib.hid (show formE dd no = (fm0, 52) from by
          rw [hFE]
          unfold mform
          rw [hm]
          rfl)
        have h0 : thereR no = (0, 0) := by
          unfold thereR
          rw [hm]
          rfl
        rw [h0]
        clear h0 hm hFE hd3
        refine wR (v := .bool true) rfl (ix_eql rfl rfl rfl (by decide)) ?_
        simp only [Act.put, zzA, zz0, zz1]
        go_upto_region 5 with fail
        refine wp_region_lit ?_
        refine wR (v := .agg (fmA fm0)) rfl (exec_bld rfl (build_fm0 _)) ?_
        simp only [Act.put, zzA, zz0, zz1]
        refine wpList_store_row rfl 24 (.tmp 4) (.tmp 22) rfl (fmA fm0) HBgr.out rfl rfl rfl (by rw [size_form]; rfl) (fmA_one _) ?_
        intro w6 hb6 hu6
        have HBZ := Lib.hid hb6
        have HUZ := Lib.hid (above HT0.out HGR.out hu6)
        clear hb6 hu6
        try simp only [Act.put, zzA, zz0, zz1]
        refine wR (v := .int .i64 52) rfl (gx_assign rfl rfl) ?_
        simp only [Act.put, zzA, zz0, zz1]
        go_wp2_with fail
        refine bodyPost_ret (v := .tuple #[.agg (fmA fm0), .int .i64 52]) (ret_cell2 rfl _ _ gr _ _ _ rfl rfl HBZ.out Tryz.underlying24 rfl (by rw [size_form]; rfl)) rfl ?_
        rw [HFX.out]
        exact ⟨rfl, HUZ.out⟩
      | some r =>
        have h0 : thereR no = r := by
          unfold thereR
          rw [hm]
          rfl
        rw [h0]
        clear h0
        have HR0 := Lib.hid (mfind_pos hm)
        obtain ⟨r1, r2⟩ := r
        refine wR (v := .bool false) rfl (ix_eql rfl rfl rfl (decide_eq_false HR0.out)) ?_
        simp only [Act.put, zzA, zz0, zz1]
        go_upto_region 6 with fail
        refine wp_region_lit ?_
        refine wR (v := .int .i64 dd) rfl (exec_move rfl rfl) ?_
        simp only [Act.put, zzA, zz0, zz1]
        by_cases h3 : dd = 3
        · refine wR (v := .bool true) rfl (ix_eql rfl rfl rfl (decide_eq_true h3)) ?_
          simp only [Act.put, zzA, zz0, zz1]
          refine wR (v := .bool true) rfl (exec_move rfl rfl) ?_
          simp only [Act.put, zzA, zz0, zz1]
          refine wR (v := .int .i64 no) rfl (exec_move rfl rfl) ?_
          simp only [Act.put, zzA, zz0, zz1]
          by_cases h4 : no = 4
          · have HFX := Lib.hid (show formE dd no = (⟨r1, 10, dd⟩, 0) from by
              rw [hFE]
              unfold mform
              rw [hm]
              show ((⟨r1, r2 - ((unsaid dd.toNat no).length : Nat), ((dd.toNat : Nat) : Int)⟩ : Fm), (0 : Int)) = _
              rw [show ((dd.toNat : Nat) : Int) = dd from by omega, show unsaid dd.toNat no = [48, 48] from by unfold unsaid; rw [if_pos ⟨by omega, h4⟩], show r2 = 12 from mfind_four (r := (r1, r2)) (h4 ▸ hm)]; rfl)
            refine wR (v := .bool true) rfl (ix_eql rfl rfl rfl (decide_eq_true h4)) ?_
            simp only [Act.put, zzA, zz0, zz1]
            refine wR (v := .bool true) rfl (ix_pickT rfl rfl rfl) ?_
            simp only [Act.put, zzA, zz0, zz1]
            clear hFE hm h3 h4 hd3
            go_upto_region 7 with fail
            refine wp_region_lit ?_
            refine wR (v := .int .i64 10) rfl (gx_assign rfl rfl) ?_
            simp only [Act.put, zzA, zz0, zz1]
            go_upto_region 8 with fail
            refine wp_region_lit ?_
            refine wR (v := .int .i64 r1) rfl (exec_move rfl rfl) ?_
            simp only [Act.put, zzA, zz0, zz1]
            refine wR (v := .int .i64 10) rfl (exec_move rfl rfl) ?_
            simp only [Act.put, zzA, zz0, zz1]
            refine wR (v := .int .i64 dd) rfl (exec_move rfl rfl) ?_
            simp only [Act.put, zzA, zz0, zz1]
            refine wR (v := .agg (fmA ⟨r1, 10, dd⟩)) rfl (exec_build3 rfl rfl rfl rfl (build_fm3 _ _ _ _)) ?_
            simp only [Act.put, zzA, zz0, zz1]
            refine wpList_store_row rfl 24 (.tmp 4) (.tmp 32) rfl (fmA ⟨r1, 10, dd⟩) HBgr.out rfl rfl rfl (by rw [size_form]; rfl) (fmA_one _) ?_
            intro w6 hb6 hu6
            have HBZ := Lib.hid hb6
            have HUZ := Lib.hid (above HT0.out HGR.out hu6)
            clear hb6 hu6
            try simp only [Act.put, zzA, zz0, zz1]
            refine wR (v := .int .i64 0) rfl (gx_assign rfl rfl) ?_
            simp only [Act.put, zzA, zz0, zz1]
            go_wp2_with fail
            refine bodyPost_ret (v := .tuple #[.agg (fmA ⟨r1, 10, dd⟩), .int .i64 0]) (ret_cell2 rfl _ _ gr _ _ _ rfl rfl HBZ.out Tryz.underlying24 rfl (by rw [size_form]; rfl)) rfl ?_
            rw [HFX.out]
            exact ⟨rfl, HUZ.out⟩
          · have HFX := Lib.hid (show formE dd no = (⟨r1, r2, dd⟩, 0) from by
              rw [hFE]
              unfold mform
              rw [hm]
              show ((⟨r1, r2 - ((unsaid dd.toNat no).length : Nat), ((dd.toNat : Nat) : Int)⟩ : Fm), (0 : Int)) = _
              rw [show ((dd.toNat : Nat) : Int) = dd from by omega, show unsaid dd.toNat no = [] from by unfold unsaid; rw [if_neg (fun h => h4 h.2)], show r2 - (([] : List UInt8).length : Nat) = r2 from by simp])
            refine wR (v := .bool false) rfl (ix_eql rfl rfl rfl (decide_eq_false h4)) ?_
            simp only [Act.put, zzA, zz0, zz1]
            refine wR (v := .bool false) rfl (ix_pickT rfl rfl rfl) ?_
            simp only [Act.put, zzA, zz0, zz1]
            clear hFE hm h3 h4 hd3
            go_upto_region 8 with fail
            refine wp_region_lit ?_
            refine wR (v := .int .i64 r1) rfl (exec_move rfl rfl) ?_
            simp only [Act.put, zzA, zz0, zz1]
            refine wR (v := .int .i64 r2) rfl (exec_move rfl rfl) ?_
            simp only [Act.put, zzA, zz0, zz1]
            refine wR (v := .int .i64 dd) rfl (exec_move rfl rfl) ?_
            simp only [Act.put, zzA, zz0, zz1]
            refine wR (v := .agg (fmA ⟨r1, r2, dd⟩)) rfl (exec_build3 rfl rfl rfl rfl (build_fm3 _ _ _ _)) ?_
            simp only [Act.put, zzA, zz0, zz1]
            refine wpList_store_row rfl 24 (.tmp 4) (.tmp 32) rfl (fmA ⟨r1, r2, dd⟩) HBgr.out rfl rfl rfl (by rw [size_form]; rfl) (fmA_one _) ?_
            intro w6 hb6 hu6
            have HBZ := Lib.hid hb6
            have HUZ := Lib.hid (above HT0.out HGR.out hu6)
            clear hb6 hu6
            try simp only [Act.put, zzA, zz0, zz1]
            refine wR (v := .int .i64 0) rfl (gx_assign rfl rfl) ?_
            simp only [Act.put, zzA, zz0, zz1]
            go_wp2_with fail
            refine bodyPost_ret (v := .tuple #[.agg (fmA ⟨r1, r2, dd⟩), .int .i64 0]) (ret_cell2 rfl _ _ gr _ _ _ rfl rfl HBZ.out Tryz.underlying24 rfl (by rw [size_form]; rfl)) rfl ?_
            rw [HFX.out]
            exact ⟨rfl, HUZ.out⟩
        · have HFX := Lib.hid (show formE dd no = (⟨r1, r2, dd⟩, 0) from by
            rw [hFE]
            unfold mform
            rw [hm]
            show ((⟨r1, r2 - ((unsaid dd.toNat no).length : Nat), ((dd.toNat : Nat) : Int)⟩ : Fm), (0 : Int)) = _
            rw [show ((dd.toNat : Nat) : Int) = dd from by omega, show unsaid dd.toNat no = [] from by unfold unsaid; rw [if_neg (fun h => h3 (by omega))], show r2 - (([] : List UInt8).length : Nat) = r2 from by simp])
          refine wR (v := .bool false) rfl (ix_eql rfl rfl rfl (decide_eq_false h3)) ?_
          simp only [Act.put, zzA, zz0, zz1]
          refine wR (v := .bool false) rfl (exec_move rfl rfl) ?_
          simp only [Act.put, zzA, zz0, zz1]
          refine wpList_skip (by go_simp) ?_
          simp only [Act.put, zzA, zz0, zz1]
          refine wpList_skip (by go_simp) ?_
          simp only [Act.put, zzA, zz0, zz1]
          refine wR (v := .bool false) rfl (ix_pickF rfl rfl rfl) ?_
          simp only [Act.put, zzA, zz0, zz1]
          clear hFE hm h3 hd3
          go_upto_region 8 with fail
          refine wp_region_lit ?_
          refine wR (v := .int .i64 r1) rfl (exec_move rfl rfl) ?_
          simp only [Act.put, zzA, zz0, zz1]
          refine wR (v := .int .i64 r2) rfl (exec_move rfl rfl) ?_
          simp only [Act.put, zzA, zz0, zz1]
          refine wR (v := .int .i64 dd) rfl (exec_move rfl rfl) ?_
          simp only [Act.put, zzA, zz0, zz1]
          refine wR (v := .agg (fmA ⟨r1, r2, dd⟩)) rfl (exec_build3 rfl rfl rfl rfl (build_fm3 _ _ _ _)) ?_
          simp only [Act.put, zzA, zz0, zz1]
          refine wpList_store_row rfl 24 (.tmp 4) (.tmp 32) rfl (fmA ⟨r1, r2, dd⟩) HBgr.out rfl rfl rfl (by rw [size_form]; rfl) (fmA_one _) ?_
          intro w6 hb6 hu6
          have HBZ := Lib.hid hb6
          have HUZ := Lib.hid (above HT0.out HGR.out hu6)
          clear hb6 hu6
          try simp only [Act.put, zzA, zz0, zz1]
          refine wR (v := .int .i64 0) rfl (gx_assign rfl rfl) ?_
          simp only [Act.put, zzA, zz0, zz1]
          go_wp2_with fail
          refine bodyPost_ret (v := .tuple #[.agg (fmA ⟨r1, r2, dd⟩), .int .i64 0]) (ret_cell2 rfl _ _ gr _ _ _ rfl rfl HBZ.out Tryz.underlying24 rfl (by rw [size_form]; rfl)) rfl ?_
          rw [HFX.out]
          exact ⟨rfl, HUZ.out⟩
end Go.Proofs.YtkbdijkoedmgnaaGreatDoor
