/-
  Texts of MessageReads in one file, shortened: MsSpec MsMa MsMb MsMc MsMd MsMe MsMf MsMg MsDc MsIs MsAs MsAt MsAu MsTell MsFa. Conditions: the tables and the errors read as the program's text lays them.
-/
import Derived.Test.YticofobhkmabiaaGreatDoorJR0
import Derived.Test.YticofobhkmabiaaGreatDoorChecked
import Derived.WalkKit
import Derived.LaidEql
import Derived.Stop.Asserts
import Derived.RowKitTokens
import Derived.Deep.Cut
import Derived.Deep.DeepCutAuto
import Derived.Deep.LoopGhost
import Derived.Laws.ResultCell
set_option linter.unusedVariables false
set_option linter.unusedSimpArgs false
set_option maxRecDepth 40000
set_option maxHeartbeats 20000000
namespace Go.Proofs.YticofobhkmabiaaGreatDoor.Fdd
def mrows : List (Int × Int × Int) := [(2, 2, 19), (3, 1, 6), (4, 1, 12), (7, 1, 10), (11, 1, 6), (32, 2, 11), (38, 3, 6), (39, 3, 2), (49, 1, 3), (64, 4, 8), (70, 1, 3), (74, 1, 10), (76, 1, 10), (86, 1, 16), (88, 1, 16), (90, 1, 20), (97, 5, 16)]
def mfind (no : Int) : List (Int × Int × Int) → Option (Int × Int)
 | [] => none
 | r :: l => if r.1 = no then some r.2 else mfind no l
def unsaid (d : Nat) (no : Int) : List UInt8 := if d = 3 ∧ no = 4 then [48, 48] else []
def mform (d : Nat) (no : Int) : Option Fm := (mfind no mrows).map fun r => ⟨r.1, r.2 - (unsaid d no).length, (d : Int)⟩
def mtypes : List Int := [100, 101, 110, 200, 201, 210, 220, 221, 230, 420, 421, 430, 500, 510, 800, 810]
abbrev Fld := Int × List UInt8
def fieldBad (last : Int) (f : Fld) : Int := match mform 1 f.1 with
 | none => 52
 | some m => if f.1 ≤ last then 52 else if m.check f.2 = 0 then 0 else 41
def checkFs : Int → List Fld → Int
 | _, [] => 0
 | last, f :: r => if fieldBad last f = 0 then checkFs f.1 r else fieldBad last f
def mcheck (ty : Int) (fs : List Fld) : Int := if mtypes.contains ty = false then 51 else if 24 < fs.length then 5 else checkFs 0 fs
def say (d : Nat) (f : Fld) : List UInt8 := Lib.trimPrefix f.2 (unsaid d f.1)
def putFs (d : Nat) : List UInt8 → List Fld → Option (List UInt8)
 | b, [] => some b
 | b, f :: r => match mform d f.1 with
   | none => none
   | some m => if m.check (say d f) = 0 then putFs d (b ++ m.put (say d f)) r else none
def half1 (fs : List Fld) : Nat := fs.foldl (fun a f => if f.1 ≤ 64 then a ||| 2 ^ (64 - f.1.toNat) else a) 0
def half2 (fs : List Fld) : Nat := fs.foldl (fun a f => if f.1 ≤ 64 then a else a ||| 2 ^ (128 - f.1.toNat)) 0
def hexk : Nat → Nat → List UInt8
 | 0, _ => []
 | k + 1, n => hexk k (n / 16) ++ [hexs.getD (n % 16) 0]
def halves (fs : List Fld) : List (List UInt8) := if half2 fs = 0 then [hexk 16 (half1 fs)] else [hexk 16 (half1 fs ||| 2 ^ 63), hexk 16 (half2 fs)]
def ver (d : Nat) : List UInt8 := if d = 1 then [48] else if d = 2 then [49] else [57]
def dig3 (n : Nat) : List UInt8 := [UInt8.ofNat (48 + n / 100), UInt8.ofNat (48 + n / 10 % 10), UInt8.ofNat (48 + n % 10)]
def typeFm (d : Nat) : Fm := nf 1 4 d
def mapFm (d : Nat) : Fm := nf 4 8 d
def mhead (d : Nat) (ty : Int) (fs : List Fld) : List UInt8 := (halves fs).foldl (fun b h => b ++ (mapFm d).put h) ((typeFm d).put (ver d ++ dig3 ty.toNat))
def mencode (d : Int) (ty : Int) (fs : List Fld) : Except Int (List UInt8) :=
 if 1 ≤ d ∧ d ≤ 3 then if mcheck ty fs = 0 then match putFs d.toNat (mhead d.toNat ty fs) fs with
  | none => .error 41
  | some b => .ok b
 else .error (mcheck ty fs) else .error 50
def hexVal (t : List UInt8) : Nat := t.foldl (fun a c => a * 16 + hexs.idxOf c) 0
def nums (h ahead : Nat) : List Int := ((List.range 64).filter fun i => h.testBit (63 - i)).map fun i => ((ahead + i + 1 : Nat) : Int)
def mtype (d : Nat) (t : List UInt8) : Option Int :=
 if (ver d).isPrefixOf t = true then
  if (t.drop 1).length ≤ 18 ∧ onlyOf (t.drop 1) dec = true ∧ t.drop 1 ≠ [] then if mtypes.contains ((val (t.drop 1) : Nat) : Int) = true then some ((val (t.drop 1) : Nat) : Int) else none else none
 else none
def takeType (d : Nat) (b : List UInt8) : Except Int (Int × List UInt8) := match (typeFm d).take b with
 | .error e => .error e
 | .ok (t, r) => match mtype d t with
   | none => .error 51
   | some n => .ok (n, r)
def takeHalf (d : Nat) (b : List UInt8) : Except Int (Nat × List UInt8) := match (mapFm d).take b with
 | .error e => .error e
 | .ok (t, r) => .ok (hexVal t, r)
def takeMap (d : Nat) (b : List UInt8) : Except Int (List Int × List UInt8) := match takeHalf d b with
 | .error e => .error e
 | .ok (h, r) => if h.testBit 63 = false then .ok (nums h 0, r) else match takeHalf d r with
   | .error e => .error e
   | .ok (h2, r2) => if h2 = 0 then .error 53 else .ok (nums (h % 2 ^ 63) 0 ++ nums h2 64, r2)
def takeFs (d : Nat) : List Int → List UInt8 → Except Int (List Fld × List UInt8)
 | [], b => .ok ([], b)
 | no :: l, b => match mform d no with
   | none => .error 52
   | some f => match f.take b with
     | .error e => .error e
     | .ok (t, r) => match takeFs d l r with
       | .error e => .error e
       | .ok (fs, r2) => .ok ((no, unsaid d no ++ t) :: fs, r2)
def allForms (d : Nat) (l : List Int) : Bool := l.all fun no => (mform d no).isSome
def mdecode (d : Int) (b0 : List UInt8) : Except Int (Int × List Fld) :=
 if 1 ≤ d ∧ d ≤ 3 then match takeType d.toNat (b0.take 512) with
  | .error e => .error e
  | .ok (ty, b1) => match takeMap d.toNat b1 with
    | .error e => .error e
    | .ok (l, b2) => if allForms d.toNat l = true then match takeFs d.toNat l b2 with
     | .error e => .error e
     | .ok (fs, b3) => if b3 = [] then .ok (ty, fs) else .error 54
      else .error 52
 else .error 50
theorem hexk_len : ∀ (k n : Nat), (hexk k n).length = k
 | 0, _ => rfl
 | k + 1, n => by rw [hexk, List.length_append, hexk_len k]; rfl
theorem hexk_pad (m : Nat) : ∀ (k n : Nat), n < 16 ^ k → hexk (m + k) n = List.replicate m 48 ++ hexk k n
 | 0, n, h => by
   have h0 : n = 0 := by simpa using h
   subst h0
   have : ∀ m, hexk m 0 = List.replicate m 48 := fun m => by
    induction m with
    | zero => rfl
    | succ m ih => rw [hexk, Nat.zero_div, ih, List.replicate_succ']; rfl
   rw [Nat.add_zero, this]
   simp [hexk]
 | k + 1, n, h => by
   rw [show m + (k + 1) = (m + k) + 1 from rfl, hexk, hexk, hexk_pad m k (n / 16) (by rw [Nat.pow_succ] at h; omega), List.append_assoc]
theorem hex_idx {d : Nat} (h : d < 16) : hexs.idxOf (hexs.getD d 0) = d ∧ hexs.getD d 0 ∈ hexs := by
 have key : ∀ d : Fin 16, hexs.idxOf (hexs.getD d.val 0) = d.val ∧ hexs.getD d.val 0 ∈ hexs := by decide +kernel
 exact key ⟨d, h⟩
theorem hex_get {c : UInt8} (h : c ∈ hexs) : hexs.idxOf c < 16 ∧ hexs.getD (hexs.idxOf c) 0 = c := by
 have key : ∀ c ∈ hexs, hexs.idxOf c < 16 ∧ hexs.getD (hexs.idxOf c) 0 = c := by decide +kernel
 exact key c h
theorem hexk_only : ∀ (k n : Nat), onlyOf (hexk k n) hexs = true
 | 0, _ => rfl
 | k + 1, n => by
   have h1 := hexk_only k (n / 16)
   unfold onlyOf at h1 ⊢
   rw [hexk, List.all_append, h1]
   simp only [List.all_cons, List.all_nil, Bool.and_true, Bool.true_and]
   simpa using (hex_idx (Nat.mod_lt n (by decide : 0 < 16))).2
theorem hexVal_snoc (t : List UInt8) (c : UInt8) : hexVal (t ++ [c]) = hexVal t * 16 + hexs.idxOf c := by
 unfold hexVal
 rw [List.foldl_append]
 rfl
theorem hexVal_hexk : ∀ (k n : Nat), n < 16 ^ k → hexVal (hexk k n) = n
 | 0, n, h => by
   have h0 : n = 0 := by simpa using h
   subst h0
   rfl
 | k + 1, n, h => by
   rw [hexk, hexVal_snoc, hexVal_hexk k (n / 16) (by rw [Nat.pow_succ] at h; omega), (hex_idx (Nat.mod_lt n (by decide : 0 < 16))).1]
   omega
theorem snoc_of {α : Type} (l : List α) (h : l ≠ []) : ∃ a x, l = a ++ [x] := ⟨l.dropLast, l.getLast h, (List.dropLast_concat_getLast h).symm⟩
theorem hexk_hexVal : ∀ (k : Nat) (t : List UInt8), t.length = k → onlyOf t hexs = true → hexk k (hexVal t) = t ∧ hexVal t < 16 ^ k
 | 0, t, h, _ => by
   have h0 := List.eq_nil_of_length_eq_zero h
   subst h0
   exact ⟨rfl, by decide⟩
 | k + 1, t, h, ho => by
   obtain ⟨a, x, rfl⟩ := snoc_of t (fun e => by subst e; cases h)
   have hx : x ∈ hexs := onlyOf_mem ho (by simp)
   obtain ⟨h1, h2⟩ := hex_get hx
   obtain ⟨h3, h4⟩ := hexk_hexVal k a (by simp at h; omega) (by
    unfold onlyOf at ho ⊢
    rw [List.all_append, Bool.and_eq_true] at ho
    exact ho.1)
   rw [hexVal_snoc, hexk, show (hexVal a * 16 + hexs.idxOf x) / 16 = hexVal a from by omega, show (hexVal a * 16 + hexs.idxOf x) % 16 = hexs.idxOf x from by omega, h3, h2]
   refine ⟨rfl, ?_⟩
   rw [Nat.pow_succ]
   omega
/-! ### rows of rising numbers -/
def Rise (l : List Int) : Prop := l.Pairwise (· < ·)
theorem rise_eq : ∀ {a b : List Int}, Rise a → Rise b → (∀ x, x ∈ a ↔ x ∈ b) → a = b
 | [], [], _, _, _ => rfl
 | [], y :: b, _, _, h => by have := (h y).2 (List.mem_cons_self ..); cases this
 | x :: a, [], _, _, h => by have := (h x).1 (List.mem_cons_self ..); cases this
 | x :: a, y :: b, ha, hb, h => by
   obtain ⟨a1, a2⟩ := List.pairwise_cons.1 ha
   obtain ⟨b1, b2⟩ := List.pairwise_cons.1 hb
   have hxy : x = y := by
    rcases List.mem_cons.1 ((h x).1 (List.mem_cons_self ..)) with e | e
    ·exact e
    ·rcases List.mem_cons.1 ((h y).2 (List.mem_cons_self ..)) with e2 | e2
     ·exact e2.symm
     ·have := b1 x e
      have := a1 y e2
      omega
   subst hxy
   congr 1
   refine rise_eq a2 b2 fun z => ⟨fun hz => ?_, fun hz => ?_⟩
   ·rcases List.mem_cons.1 ((h z).1 (List.mem_cons_of_mem _ hz)) with e | e
    ·have := a1 z hz
     omega
    ·exact e
   ·rcases List.mem_cons.1 ((h z).2 (List.mem_cons_of_mem _ hz)) with e | e
    ·have := b1 z hz
     omega
    ·exact e
/-! ### the forms -/
theorem mfind_mem {no : Int} : ∀ {l : List (Int × Int × Int)} {r : Int × Int}, mfind no l = some r → (no, r) ∈ l
 | [], _, h => by cases h
 | x :: l, r, h => by
   unfold mfind at h
   split at h
   ·rename_i e
    injection h with h
    subst h
    subst e
    exact List.mem_cons_self ..
   ·exact List.mem_cons_of_mem _ (mfind_mem h)
theorem mrows_all : ∀ x ∈ mrows, (1 ≤ x.2.1 ∧ x.2.1 ≤ 5) ∧ (1 ≤ x.2.2 ∧ x.2.2 ≤ 64) ∧ (x.1 = 4 → x.2.2 = 12 ∧ x.2.1 = 1) ∧ (2 ≤ x.1 ∧ x.1 ≤ 97) ∧ x.1 ≠ 65 := by decide
theorem unsaid_len (d : Nat) (no : Int) : unsaid d no = [] ∨ (unsaid d no = [48, 48] ∧ d = 3 ∧ no = 4) := by
 unfold unsaid
 split
 ·exact .inr ⟨rfl, by assumption⟩
 ·exact .inl rfl
theorem form_nf {d : Nat} {no : Int} {m : Fm} (h : mform d no = some m) : ∃ k s : Nat, m = nf k s d ∧ (1 ≤ k ∧ k ≤ 5) ∧ (1 ≤ s ∧ s ≤ 64) ∧ (2 ≤ no ∧ no ≤ 97) ∧ no ≠ 65 ∧ mfind no mrows = some ((k : Int), ((s + (unsaid d no).length : Nat) : Int)) ∧ (no = 4 → k = 1 ∧ s + (unsaid d no).length = 12) := by
 unfold mform at h
 obtain ⟨r, hr, rfl⟩ := Option.map_eq_some_iff.1 h
 obtain ⟨⟨a1, a2⟩, ⟨b1, b2⟩, c, e, f⟩ := mrows_all _ (mfind_mem hr)
 simp only at a1 a2 b1 b2 c e f
 have hu : ((unsaid d no).length : Int) = 0 ∨ ((unsaid d no).length : Int) = 2 ∧ no = 4 := by
  rcases unsaid_len d no with h | ⟨h, _, h3⟩
  ·left; rw [h]; rfl
  ·right; rw [h]; exact ⟨rfl, h3⟩
 generalize hul : (unsaid d no).length = u at *
 refine ⟨r.1.toNat, (r.2 - u).toNat, ?_, by omega, ?_, e, f, ?_, fun e4 => ?_⟩
 ·unfold nf
  have hge : 0 ≤ r.2 - (u : Int) := by
   rcases hu with h | ⟨h, h4⟩
   ·omega
   ·have := c h4
    omega
  rw [Int.toNat_of_nonneg (by omega), Int.toNat_of_nonneg hge]
 ·rcases hu with h | ⟨h, h4⟩
  ·omega
  ·have := c h4
   omega
 ·rw [hr]
  congr 1
  refine Prod.ext ?_ ?_
  ·show r.1 = _
   omega
  ·show r.2 = _
   rcases hu with h | ⟨h, h4⟩
   ·omega
   ·have := c h4
    omega
 ·have := c e4
  rcases hu with h | ⟨h, h4⟩ <;> omega
theorem form_of {d d' : Nat} {no : Int} (h : (mform d no).isSome = true) : (mform d' no).isSome = true := by
 unfold mform at h ⊢
 rw [Option.isSome_map] at h ⊢
 exact h
theorem check_zero {k s c : Nat} {t : List UInt8} (hk : 1 ≤ k ∧ k ≤ 5) (hc : 1 ≤ c ∧ c ≤ 3) (hs : 1 ≤ s ∧ s ≤ 64) : (nf k s c).check t = 0 ↔ (nf k s c).right t = true := by
 unfold Fm.check
 rw [if_pos (may_nf hk hc hs)]
 constructor
 ·intro h
  by_cases hr : (nf k s c).right t = true
  ·exact hr
  ·rw [if_neg hr] at h
   cases h
 ·intro h
  rw [if_pos h]
theorem right_n {s c : Nat} {t : List UInt8} : (nf 1 s c).right t = true ↔ t.length = s ∧ onlyOf t dec = true := by
 rw [right_nl (by decide)]
 have e : ptsOf ((1 : Nat) : Int) (c : Int) s = [⟨s, dec, (rws (c : Int).toNat).d⟩] := rfl
 rw [e]
 unfold rightAll rightAll
 simp only [Bool.and_eq_true, decide_eq_true_eq, beq_iff_eq, List.drop_eq_nil_iff]
 constructor
 ·rintro ⟨h1, h2, h3⟩
  rw [List.take_of_length_le h3] at h2
  exact ⟨by omega, h2⟩
 ·rintro ⟨h1, h2⟩
  rw [List.take_of_length_le (by omega)]
  exact ⟨by omega, h2, by omega⟩
theorem right_b {s c : Nat} {t : List UInt8} : (nf 4 s c).right t = true ↔ t.length = 2 * s ∧ onlyOf t hexs = true := by
 rw [right_nl (by decide)]
 have e : ptsOf ((4 : Nat) : Int) (c : Int) s = [⟨2 * s, hexs, (rws (c : Int).toNat).h⟩] := rfl
 rw [e]
 unfold rightAll rightAll
 simp only [Bool.and_eq_true, decide_eq_true_eq, beq_iff_eq, List.drop_eq_nil_iff]
 constructor
 ·rintro ⟨h1, h2, h3⟩
  rw [List.take_of_length_le h3] at h2
  exact ⟨by omega, h2⟩
 ·rintro ⟨h1, h2⟩
  rw [List.take_of_length_le (by omega)]
  exact ⟨by omega, h2, by omega⟩
theorem say_nil {d : Nat} {f : Fld} (h : unsaid d f.1 = []) : say d f = f.2 := by
 unfold say Lib.trimPrefix Lib.hasPrefix
 rw [h]
 simp
theorem say_back {d : Nat} {f : Fld} {m : Fm} (hd : 1 ≤ d ∧ d ≤ 3) (hm : mform d f.1 = some m) {m1 : Fm} (hm1 : mform 1 f.1 = some m1) (h1 : m1.check f.2 = 0) (h : m.check (say d f) = 0) : unsaid d f.1 ++ say d f = f.2 := by
 rcases unsaid_len d f.1 with hu | ⟨hu, hd3, h4⟩
 ·rw [hu, say_nil hu]
  rfl
 ·obtain ⟨k, s, rfl, hk, hs, _, _, _, hx⟩ := form_nf hm
  obtain ⟨k1, s1, rfl, hk1, hs1, _, _, _, hx1⟩ := form_nf hm1
  obtain ⟨rfl, hx⟩ := hx h4
  obtain ⟨rfl, hx1⟩ := hx1 h4
  rw [check_zero hk hd hs, right_n] at h
  rw [check_zero hk1 (by decide) hs1, right_n] at h1
  rw [hu] at hx
  have hu1 : unsaid 1 f.1 = [] := rfl
  rw [hu1] at hx1
  simp only [List.length_cons, List.length_nil] at hx hx1
  rw [hu]
  have hs2 : say d f = Lib.trimPrefix f.2 [48, 48] := by unfold say; rw [hu]
  rw [hs2] at h ⊢
  unfold Lib.trimPrefix at h ⊢
  by_cases hp : Lib.hasPrefix f.2 [48, 48] = true
  ·rw [if_pos hp]
   obtain ⟨r, hr⟩ := List.isPrefixOf_iff_prefix.1 hp
   rw [← hr]
   rfl
  ·rw [if_neg hp] at h
   omega
theorem say_of {d : Nat} {no : Int} {m m1 : Fm} {t : List UInt8} (hd : 1 ≤ d ∧ d ≤ 3) (hm : mform d no = some m) (hm1 : mform 1 no = some m1) (h : m.right t = true) : m1.check (unsaid d no ++ t) = 0 ∧ say d (no, unsaid d no ++ t) = t := by
 obtain ⟨k, s, rfl, hk, hs, _, _, hf, hx⟩ := form_nf hm
 obtain ⟨k1, s1, rfl, hk1, hs1, _, _, hf1, hx1⟩ := form_nf hm1
 have hu1 : unsaid 1 no = [] := rfl
 rw [hf] at hf1
 injection hf1 with hf1
 injection hf1 with e1 e2
 rw [check_zero hk1 (by decide) hs1]
 rcases unsaid_len d no with hu | ⟨hu, hd3, h4⟩
 ·rw [hu] at e2 ⊢
  rw [hu1] at e2
  obtain rfl : k = k1 := by omega
  obtain rfl : s = s1 := by simp only [List.length_nil] at e2; omega
  refine ⟨by rw [List.nil_append, fm_code (c' := d)]; exact h, ?_⟩
  rw [say_nil hu, List.nil_append]
 ·obtain ⟨rfl, hx⟩ := hx h4
  obtain ⟨rfl, hx1⟩ := hx1 h4
  rw [right_n] at h ⊢
  rw [hu] at hx ⊢
  rw [hu1] at hx1
  simp only [List.length_cons, List.length_nil] at hx hx1
  refine ⟨⟨by simp only [List.length_append, List.length_cons, List.length_nil]; omega, ?_⟩, ?_⟩
  ·have h2 := h.2
   unfold onlyOf at h2 ⊢
   rw [List.all_append, h2]
   decide
  ·unfold say Lib.trimPrefix
   rw [hu]
   have : Lib.hasPrefix ([48, 48] ++ t) [48, 48] = true := List.isPrefixOf_iff_prefix.2 ⟨t, rfl⟩
   rw [if_pos this]
   rfl
theorem mem_nums {h a : Nat} {x : Int} : x ∈ nums h a ↔ ∃ i : Nat, i < 64 ∧ h.testBit (63 - i) = true ∧ x = ((a + i + 1 : Nat) : Int) := by
 unfold nums
 simp only [List.mem_map, List.mem_filter, List.mem_range]
 constructor
 ·rintro ⟨i, ⟨h1, h2⟩, rfl⟩
  exact ⟨i, h1, h2, rfl⟩
 ·rintro ⟨i, h1, h2, rfl⟩
  exact ⟨i, ⟨h1, h2⟩, rfl⟩
theorem rise_nums (h a : Nat) : Rise (nums h a) := by
 unfold nums Rise
 rw [List.pairwise_map]
 refine ((List.pairwise_lt_range (n := 64)).filter _).imp ?_
 intro x y hxy
 omega
theorem fold_or (g : Fld → Nat) (p : Fld → Bool) : ∀ (fs : List Fld) (a j : Nat), (fs.foldl (fun a f => if p f = true then a ||| 2 ^ g f else a) a).testBit j = true ↔ a.testBit j = true ∨ ∃ f ∈ fs, p f = true ∧ g f = j
 | [], a, j => by simp
 | f :: r, a, j => by
   rw [List.foldl_cons, fold_or g p r]
   by_cases hp : p f = true
   ·rw [if_pos hp, Nat.testBit_or, Nat.testBit_two_pow]
    simp only [Bool.or_eq_true, decide_eq_true_eq, List.mem_cons]
    constructor
    ·rintro ((h | h) | ⟨x, h1, h2⟩)
     ·exact .inl h
     ·exact .inr ⟨f, .inl rfl, hp, h⟩
     ·exact .inr ⟨x, .inr h1, h2⟩
    ·rintro (h | ⟨x, rfl | h1, h2, h3⟩)
     ·exact .inl (.inl h)
     ·exact .inl (.inr h3)
     ·exact .inr ⟨x, h1, h2, h3⟩
   ·rw [if_neg hp]
    simp only [List.mem_cons]
    constructor
    ·rintro (h | ⟨x, h1, h2⟩)
     ·exact .inl h
     ·exact .inr ⟨x, .inr h1, h2⟩
    ·rintro (h | ⟨x, rfl | h1, h2, h3⟩)
     ·exact .inl h
     ·exact absurd h2 hp
     ·exact .inr ⟨x, h1, h2, h3⟩
theorem bit_half1 (fs : List Fld) (j : Nat) : (half1 fs).testBit j = true ↔ ∃ f ∈ fs, f.1 ≤ 64 ∧ 64 - f.1.toNat = j := by
 have h := fold_or (fun f => 64 - f.1.toNat) (fun f => decide (f.1 ≤ 64)) fs 0 j
 simp only [decide_eq_true_eq, Nat.zero_testBit, Bool.false_eq_true, false_or] at h
 exact h
theorem half2_eq : ∀ (fs : List Fld) (a : Nat), fs.foldl (fun a f => if f.1 ≤ 64 then a else a ||| 2 ^ (128 - f.1.toNat)) a = fs.foldl (fun a f => if decide (64 < f.1) = true then a ||| 2 ^ (128 - f.1.toNat) else a) a
 | [], _ => rfl
 | f :: r, a => by
   rw [List.foldl_cons, List.foldl_cons, half2_eq r]
   congr 1
   by_cases h : f.1 ≤ 64
   ·rw [if_pos h, if_neg (by simpa using h)]
   ·rw [if_neg h, if_pos (by simp; omega)]
theorem bit_half2 (fs : List Fld) (j : Nat) : (half2 fs).testBit j = true ↔ ∃ f ∈ fs, 64 < f.1 ∧ 128 - f.1.toNat = j := by
 have h := fold_or (fun f => 128 - f.1.toNat) (fun f => decide (64 < f.1)) fs 0 j
 unfold half2
 rw [half2_eq]
 simp only [decide_eq_true_eq, Nat.zero_testBit, Bool.false_eq_true, false_or] at h
 simp only [decide_eq_true_eq]
 exact h
def Nos (fs : List Fld) : Prop := Rise (fs.map (·.1)) ∧ ∀ f ∈ fs, 2 ≤ f.1 ∧ f.1 ≤ 97
theorem half1_lt {fs : List Fld} (h : ∀ f ∈ fs, 2 ≤ f.1 ∧ f.1 ≤ 97) : half1 fs < 2 ^ 63 := by
 refine Nat.lt_pow_two_of_testBit _ fun i hi => ?_
 cases hb : (half1 fs).testBit i with
 | false => rfl
 | true =>
   obtain ⟨f, hf, h1, h2⟩ := (bit_half1 fs i).1 hb
   have := h f hf
   omega
theorem half2_lt {fs : List Fld} (h : ∀ f ∈ fs, 2 ≤ f.1 ∧ f.1 ≤ 97) : half2 fs < 2 ^ 64 := by
 refine Nat.lt_pow_two_of_testBit _ fun i hi => ?_
 cases hb : (half2 fs).testBit i with
 | false => rfl
 | true =>
   obtain ⟨f, hf, h1, h2⟩ := (bit_half2 fs i).1 hb
   have := h f hf
   omega
theorem half_nums {fs : List Fld} (h : Nos fs) : nums (half1 fs) 0 ++ nums (half2 fs) 64 = fs.map (·.1) := by
 refine rise_eq ?_ h.1 fun x => ?_
 ·refine List.pairwise_append.2 ⟨rise_nums _ _, rise_nums _ _, fun x hx y hy => ?_⟩
  obtain ⟨i, h1, _, rfl⟩ := mem_nums.1 hx
  obtain ⟨k, _, _, rfl⟩ := mem_nums.1 hy
  omega
 ·rw [List.mem_append, mem_nums, mem_nums, List.mem_map]
  constructor
  ·rintro (⟨i, h1, h2, rfl⟩ | ⟨i, h1, h2, rfl⟩)
   ·obtain ⟨f, hf, h3, h4⟩ := (bit_half1 _ _).1 h2
    have := h.2 f hf
    exact ⟨f, hf, by omega⟩
   ·obtain ⟨f, hf, h3, h4⟩ := (bit_half2 _ _).1 h2
    have := h.2 f hf
    exact ⟨f, hf, by omega⟩
  ·rintro ⟨f, hf, rfl⟩
   have := h.2 f hf
   by_cases h64 : f.1 ≤ 64
   ·exact .inl ⟨f.1.toNat - 1, by omega, (bit_half1 _ _).2 ⟨f, hf, h64, by omega⟩, by omega⟩
   ·exact .inr ⟨f.1.toNat - 65, by omega, (bit_half2 _ _).2 ⟨f, hf, by omega, by omega⟩, by omega⟩
theorem nums_zero (a : Nat) : nums 0 a = [] := by
 unfold nums
 simp [List.filter_eq_nil_iff]
/-! ### the map there and back -/
def mapPut (d : Nat) (fs : List Fld) : List UInt8 := (halves fs).foldr (fun h b => (mapFm d).put h ++ b) []
theorem mhead_eq (d : Nat) (ty : Int) (fs : List Fld) : mhead d ty fs = (typeFm d).put (ver d ++ dig3 ty.toNat) ++ mapPut d fs := by
 unfold mhead mapPut halves
 split
 ·simp
 ·simp [List.append_assoc]
theorem hex_right (d n : Nat) : (mapFm d).right (hexk 16 n) = true := right_b.2 ⟨hexk_len 16 n, hexk_only 16 n⟩
theorem takeHalf_back {d n : Nat} {rest : List UInt8} (hd : 1 ≤ d ∧ d ≤ 3) (hn : n < 2 ^ 64) : takeHalf d ((mapFm d).put (hexk 16 n) ++ rest) = .ok (n, rest) := by
 unfold takeHalf
 rw [show mapFm d = nf 4 8 d from rfl, fm_back (by decide) hd (by decide) (hex_right d n)]
 simp only []
 rw [hexVal_hexk 16 n hn]
theorem takeHalf_one {d n : Nat} {b rest : List UInt8} (hd : 1 ≤ d ∧ d ≤ 3) (h : takeHalf d b = .ok (n, rest)) : (mapFm d).put (hexk 16 n) ++ rest = b ∧ n < 2 ^ 64 := by
 unfold takeHalf at h
 split at h
 ·cases h
 ·rename_i t r hm
  injection h with h
  injection h with h1 h2
  obtain ⟨h3, h4⟩ := fm_one (by decide) hd (by decide) (show (nf 4 8 d).take b = .ok (t, r) from hm)
  obtain ⟨h5, h6⟩ := right_b.1 h3
  obtain ⟨h7, h8⟩ := hexk_hexVal 16 t h5 h6
  subst h1
  subst h2
  rw [h7]
  exact ⟨h4, h8⟩
theorem or_top {n : Nat} (h : n < 2 ^ 63) : (n ||| 2 ^ 63) % 2 ^ 63 = n ∧ (n ||| 2 ^ 63).testBit 63 = true ∧ (n ||| 2 ^ 63) < 2 ^ 64 := by
 refine ⟨Nat.eq_of_testBit_eq fun i => ?_, by rw [Nat.testBit_or, Nat.testBit_two_pow]; simp, Nat.or_lt_two_pow (by omega) (by decide)⟩
 rw [Nat.testBit_mod_two_pow, Nat.testBit_or, Nat.testBit_two_pow]
 by_cases hi : i < 63
 ·have : ¬ (63 = i) := by omega
  simp [hi, this]
 ·have : n.testBit i = false := Nat.testBit_lt_two_pow (Nat.lt_of_lt_of_le h (Nat.pow_le_pow_right (by decide) (by omega)))
  simp [hi, this]
theorem takeMap_back {d : Nat} {fs : List Fld} {rest : List UInt8} (hd : 1 ≤ d ∧ d ≤ 3) (h : Nos fs) : takeMap d (mapPut d fs ++ rest) = .ok (fs.map (·.1), rest) := by
 have e := half_nums h
 have l1 := half1_lt h.2
 have l2 := half2_lt h.2
 unfold mapPut halves
 by_cases h0 : half2 fs = 0
 ·rw [if_pos h0]
  rw [h0, nums_zero, List.append_nil] at e
  have ht : (half1 fs).testBit 63 = false := Nat.testBit_lt_two_pow l1
  simp only [List.foldr_cons, List.foldr_nil, List.append_nil]
  unfold takeMap
  rw [takeHalf_back hd (by omega)]
  simp only []
  rw [if_pos ht, e]
 ·rw [if_neg h0]
  obtain ⟨a1, a2, a3⟩ := or_top l1
  simp only [List.foldr_cons, List.foldr_nil, List.append_nil, List.append_assoc]
  unfold takeMap
  rw [takeHalf_back hd a3]
  simp only []
  rw [if_neg (by rw [a2]; decide), takeHalf_back hd l2]
  simp only []
  rw [if_neg h0, a1, e]
theorem takeMap_one {d : Nat} {fs : List Fld} {b rest : List UInt8} (hd : 1 ≤ d ∧ d ≤ 3) (h : takeMap d b = .ok (fs.map (·.1), rest)) (hn : ∀ f ∈ fs, 2 ≤ f.1 ∧ f.1 ≤ 97) : mapPut d fs ++ rest = b ∧ Rise (fs.map (·.1)) := by
 unfold takeMap at h
 split at h
 ·cases h
 ·rename_i n r hm
  obtain ⟨e1, e2⟩ := takeHalf_one hd hm
  split at h
  ·rename_i ht
   injection h with h
   injection h with h1 h2
   subst h2
   have hmem : ∀ f ∈ fs, ∃ i : Nat, i < 64 ∧ n.testBit (63 - i) = true ∧ f.1 = ((0 + i + 1 : Nat) : Int) := fun f hf => mem_nums.1 (by rw [h1]; exact List.mem_map.2 ⟨f, hf, rfl⟩)
   have hh2 : half2 fs = 0 := Nat.eq_of_testBit_eq fun j => by
    rw [Nat.zero_testBit]
    cases hb : (half2 fs).testBit j with
    | false => rfl
    | true =>
      obtain ⟨f, hf, h3, _⟩ := (bit_half2 _ _).1 hb
      obtain ⟨i, hi, _, h4⟩ := hmem f hf
      omega
   have hh1 : half1 fs = n := Nat.eq_of_testBit_eq fun j => by
    rw [Bool.eq_iff_iff, bit_half1]
    constructor
    ·rintro ⟨f, hf, h3, h4⟩
     obtain ⟨i, hi, h5, h6⟩ := hmem f hf
     rw [show j = 63 - i from by omega]
     exact h5
    ·intro hj
     have hj64 : j < 64 := by
      apply Nat.lt_of_not_le
      intro hle
      have : n.testBit j = false := Nat.testBit_lt_two_pow (Nat.lt_of_lt_of_le e2 (Nat.pow_le_pow_right (by decide) hle))
      rw [hj] at this
      cases this
     have : (((0 + (63 - j) + 1 : Nat)) : Int) ∈ nums n 0 := mem_nums.2 ⟨63 - j, by omega, by rw [show 63 - (63 - j) = j from by omega]; exact hj, rfl⟩
     rw [h1] at this
     obtain ⟨f, hf, h3⟩ := List.mem_map.1 this
     exact ⟨f, hf, by omega, by omega⟩
   refine ⟨?_, by rw [← h1]; exact rise_nums _ _⟩
   unfold mapPut halves
   rw [if_pos hh2, hh1]
   simp only [List.foldr_cons, List.foldr_nil, List.append_nil]
   exact e1
  ·rename_i ht
   have ht1 : n.testBit 63 = true := by
    cases hb : n.testBit 63 with
    | true => rfl
    | false => exact absurd hb ht
   split at h
   ·cases h
   ·rename_i n2 r2 hm2
    obtain ⟨e3, e4⟩ := takeHalf_one hd hm2
    split at h
    ·cases h
    ·rename_i h20
     injection h with h
     injection h with h1 h2
     subst h2
     have hmem : ∀ f ∈ fs, (∃ i : Nat, i < 64 ∧ (n % 2 ^ 63).testBit (63 - i) = true ∧ f.1 = ((0 + i + 1 : Nat) : Int)) ∨ ∃ i : Nat, i < 64 ∧ n2.testBit (63 - i) = true ∧ f.1 = ((64 + i + 1 : Nat) : Int) := fun f hf => by
      have : f.1 ∈ nums (n % 2 ^ 63) 0 ++ nums n2 64 := by rw [h1]; exact List.mem_map.2 ⟨f, hf, rfl⟩
      rcases List.mem_append.1 this with h | h
      ·exact .inl (mem_nums.1 h)
      ·exact .inr (mem_nums.1 h)
     have hh2 : half2 fs = n2 := Nat.eq_of_testBit_eq fun j => by
      rw [Bool.eq_iff_iff, bit_half2]
      constructor
      ·rintro ⟨f, hf, h3, h4⟩
       rcases hmem f hf with ⟨i, hi, h5, h6⟩ | ⟨i, hi, h5, h6⟩
       ·omega
       ·rw [show j = 63 - i from by omega]
        exact h5
      ·intro hj
       have hj64 : j < 64 := by
        apply Nat.lt_of_not_le
        intro hle
        have : n2.testBit j = false := Nat.testBit_lt_two_pow (Nat.lt_of_lt_of_le e4 (Nat.pow_le_pow_right (by decide) hle))
        rw [hj] at this
        cases this
       have : (((64 + (63 - j) + 1 : Nat)) : Int) ∈ nums n2 64 := mem_nums.2 ⟨63 - j, by omega, by rw [show 63 - (63 - j) = j from by omega]; exact hj, rfl⟩
       have := List.mem_append.2 (.inr this : _ ∈ nums (n % 2 ^ 63) 0 ∨ _)
       rw [h1] at this
       obtain ⟨f, hf, h3⟩ := List.mem_map.1 this
       exact ⟨f, hf, by omega, by omega⟩
     have hh1 : half1 fs ||| 2 ^ 63 = n := Nat.eq_of_testBit_eq fun j => by
      rw [Nat.testBit_or, Nat.testBit_two_pow, Bool.eq_iff_iff, Bool.or_eq_true, bit_half1, decide_eq_true_eq]
      constructor
      ·rintro (⟨f, hf, h3, h4⟩ | rfl)
       ·rcases hmem f hf with ⟨i, hi, h5, h6⟩ | ⟨i, hi, h5, h6⟩
        ·rw [Nat.testBit_mod_two_pow, Bool.and_eq_true] at h5
         rw [show j = 63 - i from by omega]
         exact h5.2
        ·omega
       ·exact ht1
      ·intro hj
       by_cases h63 : 63 = j
       ·exact .inr h63
       ·refine .inl ?_
        have hj64 : j < 63 := by
         apply Nat.lt_of_not_le
         intro hle
         have : n.testBit j = false := Nat.testBit_lt_two_pow (Nat.lt_of_lt_of_le e2 (Nat.pow_le_pow_right (by decide) (by omega)))
         rw [hj] at this
         cases this
        have : (((0 + (63 - j) + 1 : Nat)) : Int) ∈ nums (n % 2 ^ 63) 0 := mem_nums.2 ⟨63 - j, by omega, by rw [show 63 - (63 - j) = j from by omega, Nat.testBit_mod_two_pow, hj, decide_eq_true hj64]; rfl, rfl⟩
        have := List.mem_append.2 (.inl this : _ ∨ _ ∈ nums n2 64)
        rw [h1] at this
        obtain ⟨f, hf, h3⟩ := List.mem_map.1 this
        exact ⟨f, hf, by omega, by omega⟩
     refine ⟨?_, ?_⟩
     ·unfold mapPut halves
      rw [if_neg (by rw [hh2]; exact h20), hh1, hh2]
      simp only [List.foldr_cons, List.foldr_nil, List.append_nil, List.append_assoc]
      rw [e3, e1]
     ·rw [← h1]
      refine List.pairwise_append.2 ⟨rise_nums _ _, rise_nums _ _, fun x hx y hy => ?_⟩
      obtain ⟨i, g1, _, rfl⟩ := mem_nums.1 hx
      obtain ⟨k, _, _, rfl⟩ := mem_nums.1 hy
      omega
/-! ### the check -/
def Good (fs : List Fld) : Prop := Rise (fs.map (·.1)) ∧ ∀ f ∈ fs, ∃ m, mform 1 f.1 = some m ∧ m.check f.2 = 0
theorem fieldBad_zero {last : Int} {f : Fld} : fieldBad last f = 0 ↔ last < f.1 ∧ ∃ m, mform 1 f.1 = some m ∧ m.check f.2 = 0 := by
 unfold fieldBad
 cases hm : mform 1 f.1 with
 | none =>
   simp only []
   constructor
   ·intro h; cases h
   ·rintro ⟨_, m, h, _⟩; cases h
 | some m =>
   simp only []
   constructor
   ·intro h
    split at h
    ·cases h
    ·split at h
     ·rename_i h1 h2
      exact ⟨by omega, m, rfl, h2⟩
     ·cases h
   ·rintro ⟨h1, m', h2, h3⟩
    injection h2 with h2
    subst h2
    rw [if_neg (by omega), if_pos h3]
theorem checkFs_iff : ∀ (fs : List Fld) (last : Int), checkFs last fs = 0 ↔ (∀ f ∈ fs, last < f.1) ∧ Good fs
 | [], last => by simp [checkFs, Good, Rise]
 | f :: r, last => by
   unfold checkFs
   constructor
   ·intro h
    by_cases h0 : fieldBad last f = 0
    ·rw [if_pos h0, checkFs_iff r] at h
     obtain ⟨h1, h2, h3⟩ := h
     obtain ⟨a1, a2⟩ := fieldBad_zero.1 h0
     refine ⟨fun x hx => ?_, List.pairwise_cons.2 ⟨fun y hy => ?_, h2⟩, fun x hx => ?_⟩
     ·rcases List.mem_cons.1 hx with rfl | hx
      ·exact a1
      ·have := h1 x hx
       omega
     ·obtain ⟨z, hz, rfl⟩ := List.mem_map.1 hy
      exact h1 z hz
     ·rcases List.mem_cons.1 hx with rfl | hx
      ·exact a2
      ·exact h3 x hx
    ·rw [if_neg h0] at h
     exact absurd h h0
   ·rintro ⟨h1, h2, h3⟩
    obtain ⟨b1, b2⟩ := List.pairwise_cons.1 h2
    rw [if_pos (fieldBad_zero.2 ⟨h1 f (List.mem_cons_self ..), h3 f (List.mem_cons_self ..)⟩), checkFs_iff r]
    exact ⟨fun x hx => b1 _ (List.mem_map.2 ⟨x, hx, rfl⟩), b2, fun x hx => h3 x (List.mem_cons_of_mem _ hx)⟩
theorem good_nos {fs : List Fld} (h : Good fs) : Nos fs := ⟨h.1, fun f hf => by
 obtain ⟨m, h1, _⟩ := h.2 f hf
 obtain ⟨_, _, _, _, _, h2, _⟩ := form_nf h1
 exact h2⟩
theorem mcheck_zero {ty : Int} {fs : List Fld} : mcheck ty fs = 0 ↔ mtypes.contains ty = true ∧ fs.length ≤ 24 ∧ Good fs := by
 unfold mcheck
 constructor
 ·intro h
  split at h
  ·cases h
  ·rename_i h1
   split at h
   ·cases h
   ·rename_i h2
    obtain ⟨_, h3⟩ := (checkFs_iff _ _).1 h
    exact ⟨by cases hc : mtypes.contains ty with | true => rfl | false => exact absurd hc h1, by omega, h3⟩
 ·rintro ⟨h1, h2, h3⟩
  rw [if_neg (by rw [h1]; decide), if_neg (by omega), checkFs_iff]
  exact ⟨fun f hf => by have := (good_nos h3).2 f hf; omega, h3⟩
/-! ### the fields' bytes -/
def Said (d : Nat) (f : Fld) : Prop := ∃ m, mform d f.1 = some m ∧ m.check (say d f) = 0
def sayPut (d : Nat) (f : Fld) : List UInt8 := match mform d f.1 with
 | none => []
 | some m => m.put (say d f)
def body (d : Nat) (fs : List Fld) : List UInt8 := fs.foldr (fun f b => sayPut d f ++ b) []
theorem putFs_iff {d : Nat} : ∀ (fs : List Fld) (b r : List UInt8), putFs d b fs = some r ↔ r = b ++ body d fs ∧ ∀ f ∈ fs, Said d f
 | [], b, r => by
   simp only [putFs, body, List.foldr_nil, List.append_nil]
   constructor
   ·intro h; injection h with h; exact ⟨h.symm, fun _ h => by cases h⟩
   ·rintro ⟨rfl, _⟩; rfl
 | f :: l, b, r => by
   unfold putFs
   have hbody : body d (f :: l) = sayPut d f ++ body d l := rfl
   cases hm : mform d f.1 with
   | none =>
     simp only []
     constructor
     ·intro h; cases h
     ·rintro ⟨_, h⟩
      obtain ⟨m, h1, _⟩ := h f (List.mem_cons_self ..)
      rw [hm] at h1
      cases h1
   | some m =>
     have hs : sayPut d f = m.put (say d f) := by unfold sayPut; rw [hm]
     simp only []
     constructor
     ·intro h
      split at h
      ·rename_i hc
       obtain ⟨h1, h2⟩ := (putFs_iff l _ _).1 h
       refine ⟨by rw [h1, hbody, hs, List.append_assoc], fun x hx => ?_⟩
       rcases List.mem_cons.1 hx with rfl | hx
       ·exact ⟨m, hm, hc⟩
       ·exact h2 x hx
      ·cases h
     ·rintro ⟨h1, h2⟩
      obtain ⟨m', h3, h4⟩ := h2 f (List.mem_cons_self ..)
      rw [hm] at h3
      injection h3 with h3
      subst h3
      rw [if_pos h4, putFs_iff l]
      exact ⟨by rw [h1, hbody, hs, List.append_assoc], fun x hx => h2 x (List.mem_cons_of_mem _ hx)⟩
def Wr (d : Nat) (ty : Int) (fs : List Fld) : Prop := mtypes.contains ty = true ∧ fs.length ≤ 24 ∧ Good fs ∧ ∀ f ∈ fs, Said d f
def wire (d : Nat) (ty : Int) (fs : List Fld) : List UInt8 := (typeFm d).put (ver d ++ dig3 ty.toNat) ++ (mapPut d fs ++ body d fs)
theorem mencode_ok {d : Int} {ty : Int} {fs : List Fld} {b : List UInt8} : mencode d ty fs = .ok b ↔ (1 ≤ d ∧ d ≤ 3) ∧ Wr d.toNat ty fs ∧ b = wire d.toNat ty fs := by
 unfold mencode
 constructor
 ·intro h
  split at h
  ·rename_i hd
   split at h
   ·rename_i hc
    obtain ⟨h1, h2, h3⟩ := mcheck_zero.1 hc
    split at h
    ·cases h
    ·rename_i r hr
     injection h with h
     obtain ⟨h4, h5⟩ := (putFs_iff _ _ _).1 hr
     refine ⟨hd, ⟨h1, h2, h3, h5⟩, ?_⟩
     rw [← h, h4, mhead_eq]
     unfold wire
     rw [List.append_assoc]
   ·cases h
  ·cases h
 ·rintro ⟨hd, ⟨h1, h2, h3, h4⟩, rfl⟩
  rw [if_pos hd, if_pos (mcheck_zero.2 ⟨h1, h2, h3⟩), (putFs_iff _ _ _).2 ⟨rfl, h4⟩]
  simp only []
  rw [mhead_eq]
  unfold wire
  rw [List.append_assoc]
/-! ### types -/
theorem type_right {d : Nat} {ty : Int} (hd : 1 ≤ d ∧ d ≤ 3) (h : mtypes.contains ty = true) : (typeFm d).right (ver d ++ dig3 ty.toNat) = true ∧ mtype d (ver d ++ dig3 ty.toNat) = some ty := by
 have key : ∀ d : Fin 3, ∀ ty ∈ mtypes, (typeFm (d.val + 1)).right (ver (d.val + 1) ++ dig3 ty.toNat) = true ∧ mtype (d.val + 1) (ver (d.val + 1) ++ dig3 ty.toNat) = some ty := by decide +kernel
 have := key ⟨d - 1, by omega⟩ ty (by simpa using h)
 simpa [show d - 1 + 1 = d from by omega] using this
theorem dig3_of : ∀ a ∈ dec, ∀ b ∈ dec, ∀ c ∈ dec, dig3 (val [a, b, c]) = [a, b, c] := by decide +kernel
theorem ver_one (d : Nat) : ∃ v, ver d = [v] := by
 unfold ver
 split
 ·exact ⟨_, rfl⟩
 ·split <;> exact ⟨_, rfl⟩
theorem mtype_one {d : Nat} {t : List UInt8} {ty : Int} (h : mtype d t = some ty) (hl : t.length = 4) : t = ver d ++ dig3 ty.toNat ∧ mtypes.contains ty = true := by
 unfold mtype at h
 split at h
 ·rename_i hp
  split at h
  ·rename_i hq
   split at h
   ·rename_i hc
    injection h with h
    subst h
    refine ⟨?_, hc⟩
    obtain ⟨v, hv⟩ := ver_one d
    rw [hv] at hp ⊢
    match t, hl with
    | [x, a, b, c], _ =>
      have hx : v = x := by simpa [List.isPrefixOf] using hp
      subst hx
      have ho := hq.2.1
      have e : List.drop 1 [v, a, b, c] = [a, b, c] := rfl
      rw [e] at ho ⊢
      rw [Int.toNat_natCast, dig3_of a (onlyOf_mem ho (by simp)) b (onlyOf_mem ho (by simp)) c (onlyOf_mem ho (by simp))]
      rfl
   ·cases h
  ·cases h
 ·cases h
theorem takeType_back {d : Nat} {ty : Int} {rest : List UInt8} (hd : 1 ≤ d ∧ d ≤ 3) (h : mtypes.contains ty = true) : takeType d ((typeFm d).put (ver d ++ dig3 ty.toNat) ++ rest) = .ok (ty, rest) := by
 obtain ⟨h1, h2⟩ := type_right hd h
 unfold takeType
 rw [show typeFm d = nf 1 4 d from rfl] at h1 ⊢
 rw [fm_back (by decide) hd (by decide) h1]
 simp only []
 rw [h2]
theorem takeType_one {d : Nat} {ty : Int} {b rest : List UInt8} (hd : 1 ≤ d ∧ d ≤ 3) (h : takeType d b = .ok (ty, rest)) : (typeFm d).put (ver d ++ dig3 ty.toNat) ++ rest = b ∧ mtypes.contains ty = true := by
 unfold takeType at h
 split at h
 ·cases h
 ·rename_i t r hm
  split at h
  ·cases h
  ·rename_i n hn
   injection h with h
   injection h with h1 h2
   subst h1
   subst h2
   obtain ⟨h3, h4⟩ := fm_one (by decide) hd (by decide) (show (nf 1 4 d).take b = .ok (t, r) from hm)
   obtain ⟨h5, h6⟩ := mtype_one hn (right_n.1 h3).1
   rw [← h5]
   exact ⟨h4, h6⟩
/-! ### fields there and back -/
theorem said_nf {d : Nat} {f : Fld} (hd : 1 ≤ d ∧ d ≤ 3) (h : Said d f) : ∃ k s, mform d f.1 = some (nf k s d) ∧ (1 ≤ k ∧ k ≤ 5) ∧ (1 ≤ s ∧ s ≤ 64) ∧ (nf k s d).right (say d f) = true ∧ sayPut d f = (nf k s d).put (say d f) := by
 obtain ⟨m, hm, hc⟩ := h
 obtain ⟨k, s, rfl, hk, hs, _⟩ := form_nf hm
 exact ⟨k, s, hm, hk, hs, (check_zero hk hd hs).1 hc, by unfold sayPut; rw [hm]⟩
theorem takeFs_back {d : Nat} (hd : 1 ≤ d ∧ d ≤ 3) : ∀ (fs : List Fld) (rest : List UInt8), (∀ f ∈ fs, Said d f ∧ unsaid d f.1 ++ say d f = f.2) → takeFs d (fs.map (·.1)) (body d fs ++ rest) = .ok (fs, rest)
 | [], rest, _ => rfl
 | f :: l, rest, h => by
   obtain ⟨h1, h2⟩ := h f (List.mem_cons_self ..)
   obtain ⟨k, s, hm, hk, hs, hr, hp⟩ := said_nf hd h1
   have hbody : body d (f :: l) = sayPut d f ++ body d l := rfl
   rw [List.map_cons, hbody, hp, List.append_assoc]
   unfold takeFs
   rw [hm]
   simp only []
   rw [fm_back hk hd hs hr]
   simp only []
   rw [takeFs_back hd l rest fun x hx => h x (List.mem_cons_of_mem _ hx)]
   simp only []
   rw [h2]
theorem takeFs_one {d : Nat} (hd : 1 ≤ d ∧ d ≤ 3) : ∀ (l : List Int) (b : List UInt8) (fs : List Fld) (rest : List UInt8), takeFs d l b = .ok (fs, rest) → l = fs.map (·.1) ∧ body d fs ++ rest = b ∧ ∀ f ∈ fs, Said d f ∧ ∃ m, mform 1 f.1 = some m ∧ m.check f.2 = 0
 | [], b, fs, rest, h => by
   unfold takeFs at h
   injection h with h
   injection h with h1 h2
   subst h1
   subst h2
   exact ⟨rfl, rfl, fun _ h => by cases h⟩
 | no :: l, b, fs, rest, h => by
   unfold takeFs at h
   split at h
   ·cases h
   ·rename_i m hm
    split at h
    ·cases h
    ·rename_i t r ht
     split at h
     ·cases h
     ·rename_i fs2 r2 h2
      injection h with h
      injection h with e1 e2
      subst e1
      subst e2
      obtain ⟨i1, i2, i3⟩ := takeFs_one hd l r fs2 r2 h2
      obtain ⟨k, s, rfl, hk, hs, _⟩ := form_nf hm
      obtain ⟨g1, g2⟩ := fm_one hk hd hs ht
      have hsome : (mform 1 no).isSome = true := form_of (d := d) (by rw [hm]; rfl)
      obtain ⟨m1, hm1⟩ := Option.isSome_iff_exists.1 hsome
      obtain ⟨s1, s2⟩ := say_of hd hm hm1 g1
      refine ⟨by rw [i1]; rfl, ?_, fun x hx => ?_⟩
      ·have hbody : body d ((no, unsaid d no ++ t) :: fs2) = sayPut d (no, unsaid d no ++ t) ++ body d fs2 := rfl
       have hsp : sayPut d (no, unsaid d no ++ t) = (nf k s d).put t := by
        unfold sayPut
        rw [hm]
        simp only []
        rw [s2]
       rw [hbody, hsp, List.append_assoc, i2, g2]
      ·rcases List.mem_cons.1 hx with rfl | hx
       ·exact ⟨⟨_, hm, by rw [s2, check_zero hk hd hs]; exact g1⟩, m1, hm1, s1⟩
       ·exact i3 x hx
/-! ### how many bytes there may be -/
theorem sum_rows (g : Int → Nat) : ∀ (R : List (Int × Int × Int)) (l : List Int), Rise l → (∀ x ∈ l, ∃ r ∈ R, r.1 = x) → R.Pairwise (fun a b => a.1 < b.1) → (l.map g).sum ≤ (R.map fun r => g r.1).sum
 | [], [], _, _, _ => Nat.le_refl _
 | [], x :: l, _, h, _ => by obtain ⟨r, hr, _⟩ := h x (List.mem_cons_self ..); cases hr
 | r :: R, [], _, _, _ => Nat.zero_le _
 | r :: R, x :: l, hl, h, hR => by
   obtain ⟨l1, l2⟩ := List.pairwise_cons.1 hl
   obtain ⟨r1, r2⟩ := List.pairwise_cons.1 hR
   obtain ⟨q, hq, hqx⟩ := h x (List.mem_cons_self ..)
   rw [List.map_cons, List.map_cons, List.sum_cons, List.sum_cons]
   have hrest : ∀ y ∈ l, ∃ q ∈ R, q.1 = y := fun y hy => by
    obtain ⟨p, hp, hpy⟩ := h y (List.mem_cons_of_mem _ hy)
    rcases List.mem_cons.1 hp with rfl | hp
    ·have := l1 y hy
     rcases List.mem_cons.1 hq with rfl | hq
     ·omega
     ·have := r1 q hq
      omega
    ·exact ⟨p, hp, hpy⟩
   rcases List.mem_cons.1 hq with rfl | hq
   ·have := sum_rows g R l l2 hrest r2
    rw [← hqx]
    omega
   ·have := sum_rows g R (x :: l) hl (fun y hy => by
     rcases List.mem_cons.1 hy with rfl | hy
     ·exact ⟨q, hq, hqx⟩
     ·exact hrest y hy) r2
    rw [List.map_cons, List.sum_cons] at this
    omega
def capOf (no : Int) : Nat := match mfind no mrows with
 | none => 0
 | some r => 2 * r.2.toNat + 2
theorem mrows_rise : mrows.Pairwise (fun a b => a.1 < b.1) := by decide
theorem caps_all : (mrows.map fun r => capOf r.1).sum = 382 := by decide +kernel
theorem good_rows {fs : List Fld} (h : Good fs) : ∀ x ∈ fs.map (·.1), ∃ r ∈ mrows, r.1 = x := fun x hx => by
 obtain ⟨f, hf, rfl⟩ := List.mem_map.1 hx
 obtain ⟨m, h1, _⟩ := h.2 f hf
 unfold mform at h1
 obtain ⟨r, hr, _⟩ := Option.map_eq_some_iff.1 h1
 exact ⟨_, mfind_mem hr, rfl⟩
theorem good_len {fs : List Fld} (h : Good fs) : fs.length ≤ 17 := by
 have := sum_rows (fun _ => 1) mrows _ h.1 (good_rows h) mrows_rise
 have e : ∀ l : List Int, (l.map fun _ => 1).sum = l.length := fun l => by
  induction l with
  | nil => rfl
  | cons x l ih => rw [List.map_cons, List.sum_cons, ih, List.length_cons]; omega
 rw [e, List.length_map] at this
 exact this
theorem put_cap {k s c : Nat} {t : List UInt8} (hk : 1 ≤ k ∧ k ≤ 5) (hc : 1 ≤ c ∧ c ≤ 3) (hs : 1 ≤ s ∧ s ≤ 64) (hr : (nf k s c).right t = true) : ((nf k s c).put t).length ≤ 2 * s + 2 := by
 rw [fm_len hc hs hr]
 have one : ∀ (n : Nat) (a b : List UInt8), Pt.size ⟨n, a, b⟩ ≤ n := fun n a b => by
  unfold Pt.size
  split
  ·show (n + 1) / 2 ≤ n
   omega
  ·exact Nat.le_refl _
 have all : ∀ (kk : Int) (n : Nat), sizeAll (ptsOf kk (c : Int) n) ≤ (if kk = 4 then 2 * n else if kk = 5 then 1 + n else n) := fun kk n => by
  unfold ptsOf
  by_cases h3 : kk = 3
  ·rw [if_pos h3, if_neg (by omega), if_neg (by omega)]
   exact one _ _ _
  ·rw [if_neg h3]
   by_cases h4 : kk = 4
   ·rw [if_pos h4, if_pos h4]
    exact one _ _ _
   ·rw [if_neg h4, if_neg h4]
    by_cases h5 : kk = 5
    ·rw [if_pos h5, if_pos h5]
     exact Nat.add_le_add (one _ _ _) (one _ _ _)
    ·rw [if_neg h5, if_neg h5]
     exact one _ _ _
 split
 ·rename_i h2
  subst h2
  obtain ⟨hl, _⟩ := ll_right hr
  have a1 := all 1 2
  have a2 := all 2 t.length
  rw [if_neg (by decide), if_neg (by decide)] at a1 a2
  omega
 ·have a1 := all (k : Int) s
  split at a1
  ·omega
  ·split at a1 <;> omega
theorem body_cap {d : Nat} (hd : 1 ≤ d ∧ d ≤ 3) : ∀ fs : List Fld, (∀ f ∈ fs, Said d f) → (body d fs).length ≤ ((fs.map (·.1)).map capOf).sum
 | [], _ => Nat.le_refl _
 | f :: l, h => by
   have hbody : body d (f :: l) = sayPut d f ++ body d l := rfl
   obtain ⟨m, hm, hc⟩ := h f (List.mem_cons_self ..)
   obtain ⟨k, s, rfl, hk, hs, _, _, hf, _⟩ := form_nf hm
   have h1 := put_cap hk hd hs ((check_zero hk hd hs).1 hc)
   have hsp : sayPut d f = (nf k s d).put (say d f) := by unfold sayPut; rw [hm]
   have hcap : capOf f.1 = 2 * (s + (unsaid d f.1).length) + 2 := by
    unfold capOf
    rw [hf]
    show 2 * (((s + (unsaid d f.1).length : Nat) : Int)).toNat + 2 = _
    rw [Int.toNat_natCast]
   have ih := body_cap hd l fun x hx => h x (List.mem_cons_of_mem _ hx)
   rw [hbody, List.length_append, List.map_cons, List.map_cons, List.sum_cons, hsp, hcap]
   omega
theorem wire_len {d : Nat} {ty : Int} {fs : List Fld} (hd : 1 ≤ d ∧ d ≤ 3) (h : Wr d ty fs) : (wire d ty fs).length ≤ 500 := by
 obtain ⟨h1, _, h3, h4⟩ := h
 have a1 := put_cap (k := 1) (s := 4) (c := d) (by decide) hd (by decide) (type_right hd h1).1
 have a2 : (mapPut d fs).length ≤ 36 := by
  have hp : ∀ n, ((mapFm d).put (hexk 16 n)).length ≤ 18 := fun n => put_cap (k := 4) (s := 8) (c := d) (by decide) hd (by decide) (hex_right d n)
  unfold mapPut halves
  split
  ·have := hp (half1 fs)
   simp only [List.foldr_cons, List.foldr_nil, List.append_nil]
   omega
  ·have := hp (half1 fs ||| 2 ^ 63)
   have := hp (half2 fs)
   simp only [List.foldr_cons, List.foldr_nil, List.append_nil, List.length_append]
   omega
 have a3 := body_cap hd fs h4
 have a4 := sum_rows capOf mrows _ h3.1 (good_rows h3) mrows_rise
 rw [caps_all] at a4
 unfold wire
 rw [List.length_append, List.length_append]
 have : ((typeFm d).put (ver d ++ dig3 ty.toNat)).length ≤ 10 := a1
 omega
theorem wr_fields {d : Nat} {ty : Int} {fs : List Fld} (hd : 1 ≤ d ∧ d ≤ 3) (h : Wr d ty fs) : ∀ f ∈ fs, Said d f ∧ unsaid d f.1 ++ say d f = f.2 := fun f hf => by
 obtain ⟨_, _, h3, h4⟩ := h
 obtain ⟨m, hm, hc⟩ := h4 f hf
 obtain ⟨m1, hm1, hc1⟩ := h3.2 f hf
 exact ⟨⟨m, hm, hc⟩, say_back hd hm hm1 hc1 hc⟩
theorem forms_all {d : Nat} {fs : List Fld} (h : ∀ f ∈ fs, (mform d f.1).isSome = true) : allForms d (fs.map (·.1)) = true := by
 unfold allForms
 rw [List.all_eq_true]
 intro x hx
 obtain ⟨f, hf, rfl⟩ := List.mem_map.1 hx
 exact h f hf
theorem toNat_in {d : Int} (h : 1 ≤ d ∧ d ≤ 3) : 1 ≤ d.toNat ∧ d.toNat ≤ 3 := by omega
theorem mdecode_wire {d : Int} {ty : Int} {fs : List Fld} (hd : 1 ≤ d ∧ d ≤ 3) (h : Wr d.toNat ty fs) (rest : List UInt8) (hl : (wire d.toNat ty fs ++ rest).length ≤ 512 ∨ rest = []) : mdecode d (wire d.toNat ty fs ++ rest) = if rest = [] then .ok (ty, fs) else .error 54 := by
 have hd2 := toNat_in hd
 have hw := wire_len hd2 h
 have htake : (wire d.toNat ty fs ++ rest).take 512 = wire d.toNat ty fs ++ rest := List.take_of_length_le (by
  rcases hl with h | rfl
  ·exact h
  ·rw [List.append_nil]; omega)
 unfold mdecode
 rw [if_pos hd, htake]
 unfold wire
 rw [List.append_assoc, takeType_back hd2 h.1]
 simp only []
 rw [List.append_assoc, takeMap_back hd2 (good_nos h.2.2.1)]
 simp only []
 rw [if_pos (forms_all fun f hf => by obtain ⟨⟨m, hm, _⟩, _⟩ := wr_fields hd2 h f hf; rw [hm]; rfl), takeFs_back hd2 fs rest (wr_fields hd2 h)]
theorem mdecode_back {d : Int} {ty : Int} {fs : List Fld} {b : List UInt8} (h : mencode d ty fs = .ok b) : mdecode d b = .ok (ty, fs) := by
 obtain ⟨hd, hw, rfl⟩ := mencode_ok.1 h
 have := mdecode_wire hd hw [] (.inr rfl)
 rw [List.append_nil, if_pos rfl] at this
 exact this
theorem mdecode_one {d : Int} {ty : Int} {fs : List Fld} {b : List UInt8} (h : mdecode d b = .ok (ty, fs)) : mencode d ty fs = .ok b := by
 unfold mdecode at h
 split at h
 ·rename_i hd
  have hd2 := toNat_in hd
  split at h
  ·cases h
  ·rename_i ty1 b1 h1
   split at h
   ·cases h
   ·rename_i l b2 h2
    split at h
    ·split at h
     ·cases h
     ·rename_i fs1 b3 h3
      split at h
      ·rename_i hb3
       injection h with h
       injection h with e1 e2
       subst e1
       subst e2
       subst hb3
       obtain ⟨g1, g2⟩ := takeType_one hd2 h1
       obtain ⟨g3, g4, g5⟩ := takeFs_one hd2 l b2 _ _ h3
       subst g3
       obtain ⟨g6, g7⟩ := takeMap_one hd2 h2 fun f hf => by
        obtain ⟨⟨m, hm, _⟩, _⟩ := g5 f hf
        obtain ⟨_, _, _, _, _, h, _⟩ := form_nf hm
        exact h
       have hgood : Good fs1 := ⟨g7, fun f hf => (g5 f hf).2⟩
       have hwr : Wr d.toNat ty1 fs1 := ⟨g2, by have := good_len hgood; omega, hgood, fun f hf => (g5 f hf).1⟩
       have hb : b.take 512 = wire d.toNat ty1 fs1 := by
        unfold wire
        rw [List.append_nil] at g4
        rw [g4, g6, g1]
       have hlen := wire_len hd2 hwr
       rw [← hb, List.length_take] at hlen
       rw [List.take_of_length_le (by omega)] at hb
       exact mencode_ok.2 ⟨hd, hwr, hb⟩
      ·cases h
    ·cases h
 ·cases h
def others (no : Int) (fs : List Fld) : List Fld := fs.filter fun f => f.1 != no
theorem gd_left {a b : List UInt8} {i : Nat} (h : i < a.length) : (a ++ b).getD i 0 = a.getD i 0 := by simp [List.getD, List.getElem?_append_left h]
theorem gd_right {a b : List UInt8} {i : Nat} (h : a.length ≤ i) : (a ++ b).getD i 0 = b.getD (i - a.length) 0 := by simp [List.getD, List.getElem?_append_right h]
def be : Nat → Nat → List UInt8
 | 0, _ => []
 | k + 1, n => be k (n / 256) ++ [UInt8.ofNat (n % 256)]
theorem be_len : ∀ (k n : Nat), (be k n).length = k
 | 0, _ => rfl
 | k + 1, n => by rw [be, List.length_append, be_len k]; rfl
theorem be_at : ∀ (k n i : Nat), i < k → ((be k n).getD i 0).toNat = n / 256 ^ (k - 1 - i) % 256
 | 0, _, _, h => absurd h (Nat.not_lt_zero _)
 | k + 1, n, i, h => by
   rw [be]
   by_cases hi : i < k
   ·rw [gd_left (by rw [be_len]; exact hi), be_at k _ i hi, Nat.div_div_eq_div_mul]
    congr 2
    rw [show k + 1 - 1 - i = (k - 1 - i) + 1 from by omega, Nat.pow_succ, Nat.mul_comm]
   ·obtain rfl : i = k := by omega
    rw [gd_right (by rw [be_len]; exact Nat.le_refl _), be_len, Nat.sub_self, Nat.add_sub_cancel, Nat.sub_self]
    show (UInt8.ofNat (n % 256)).toNat = _
    rw [UInt8.toNat_ofNat']
    simp
theorem be_bit (h i r : Nat) (hi : i < 8) (hr : r < 8) : ((be 8 h).getD i 0).toNat / 2 ^ (7 - r) % 2 = 1 ↔ h.testBit (63 - (8 * i + r)) = true := by
 rw [be_at 8 h i hi]
 have e : (h / 256 ^ (8 - 1 - i) % 256).testBit (7 - r) = h.testBit (63 - (8 * i + r)) := by
  rw [show (256 : Nat) = 2 ^ 8 from rfl, Nat.testBit_mod_two_pow, ← Nat.pow_mul, Nat.testBit_div_two_pow, decide_eq_true (show 7 - r < 8 by omega), Bool.true_and]
  congr 1
  omega
 rw [← e, Nat.testBit_eq_decide_div_mod_eq]
 simp
theorem get_ext {a b : List UInt8} (hl : a.length = b.length) (h : ∀ i, i < a.length → (a.getD i 0).toNat = (b.getD i 0).toNat) : a = b := by
 refine List.ext_getElem hl fun i h1 h2 => ?_
 have := h i h1
 simp only [List.getD, List.getElem?_eq_getElem h1, List.getElem?_eq_getElem h2, Option.getD_some] at this
 exact UInt8.toNat_inj.1 this
end Go.Proofs.YticofobhkmabiaaGreatDoor.Fdd
namespace Go.Proofs.YticofobhkmabiaaGreatDoor
open Fdd
/-! ### what a reading eats -/
def Eats {X : Type} (T : List UInt8 → Except Int (X × List UInt8)) (k : Nat) : Prop :=
 ∀ b c, k ≤ b.length → (∀ e, T b = .error e → T (b ++ c) = .error e) ∧ ∀ x r, T b = .ok (x, r) → T (b ++ c) = .ok (x, r ++ c) ∧ b.length ≤ r.length + k
theorem eats_mono {X : Type} {T : List UInt8 → Except Int (X × List UInt8)} {k m : Nat} (h : Eats T k) (hk : k ≤ m) : Eats T m := fun b c hb => by
 obtain ⟨h1, h2⟩ := h b c (by omega)
 refine ⟨h1, fun x r e => ?_⟩
 obtain ⟨h3, h4⟩ := h2 x r e
 exact ⟨h3, by omega⟩
theorem decAll_more : ∀ (ps : List Pt) (b c : List UInt8), sizeAll ps ≤ b.length → decAll ps (b ++ c) = decAll ps b
 | [], _, _, _ => rfl
 | p :: r, b, c, h => by
   unfold sizeAll at h
   unfold decAll
   rw [List.take_append_of_le_length (by omega), List.drop_append_of_le_length (by omega), decAll_more r _ c (by rw [List.length_drop]; omega)]
theorem takeAll_eats (ps : List Pt) : Eats (takeAll ps) (sizeAll ps) := fun b c h => by
 unfold takeAll
 rw [if_neg (by omega), if_neg (by rw [List.length_append]; omega), decAll_more ps b c h]
 cases hd : decAll ps b with
 | none => exact ⟨fun e he => he, fun x r he => (by cases he)⟩
 | some t =>
   refine ⟨fun e he => (by cases he), fun x r he => ?_⟩
   injection he with he
   injection he with e1 e2
   subst e1 e2
   rw [List.drop_append_of_le_length h, List.length_drop]
   exact ⟨rfl, by omega⟩
theorem pt_size_le (n : Nat) (a b : List UInt8) : Pt.size ⟨n, a, b⟩ ≤ n := by
 unfold Pt.size
 split
 ·show (n + 1) / 2 ≤ n
  omega
 ·exact Nat.le_refl _
theorem pts_size (kk c : Int) (n : Nat) : sizeAll (ptsOf kk c n) ≤ (if kk = 4 then 2 * n else if kk = 5 then 1 + n else n) := by
 unfold ptsOf
 by_cases h3 : kk = 3
 ·rw [if_pos h3, if_neg (by omega), if_neg (by omega)]
  exact pt_size_le _ _ _
 ·rw [if_neg h3]
  by_cases h4 : kk = 4
  ·rw [if_pos h4, if_pos h4]
   exact pt_size_le _ _ _
  ·rw [if_neg h4, if_neg h4]
   by_cases h5 : kk = 5
   ·rw [if_pos h5, if_pos h5]
    exact Nat.add_le_add (pt_size_le _ _ _) (pt_size_le _ _ _)
   ·rw [if_neg h5, if_neg h5]
    exact pt_size_le _ _ _
theorem fm_eats (k s d : Nat) (hs : 1 ≤ s) : Eats (nf k s d).take (2 * s + 2) := fun b c hb => by
 unfold Fm.take
 by_cases hm : (nf k s d).may = true
 ·rw [if_pos hm, if_pos hm]
  by_cases h2 : (nf k s d).kind = 2
  ·simp only [if_pos h2]
   have e1 := takeAll_eats (ptsOf 1 (nf k s d).code 2) b c (by
    have := pts_size 1 (nf k s d).code 2
    rw [if_neg (by decide), if_neg (by decide)] at this
    omega)
   have l1 := pts_size 1 (nf k s d).code 2
   rw [if_neg (by decide), if_neg (by decide)] at l1
   cases ht : takeAll (ptsOf 1 (nf k s d).code 2) b with
   | error e =>
     rw [e1.1 e ht]
     exact ⟨fun e he => he, fun x r he => (by cases he)⟩
   | ok p =>
     obtain ⟨t, r⟩ := p
     obtain ⟨h5, h6⟩ := e1.2 t r ht
     rw [h5]
     dsimp only
     show (∀ e, (if 1 ≤ val t ∧ (val t : Int) ≤ (nf k s d).size then takeAll (ptsOf 2 (nf k s d).code (val t)) r else .error 42) = .error e → (if 1 ≤ val t ∧ (val t : Int) ≤ (nf k s d).size then takeAll (ptsOf 2 (nf k s d).code (val t)) (r ++ c) else .error 42) = .error e) ∧
      ∀ x q, (if 1 ≤ val t ∧ (val t : Int) ≤ (nf k s d).size then takeAll (ptsOf 2 (nf k s d).code (val t)) r else .error 42) = .ok (x, q) → (if 1 ≤ val t ∧ (val t : Int) ≤ (nf k s d).size then takeAll (ptsOf 2 (nf k s d).code (val t)) (r ++ c) else .error 42) = .ok (x, q ++ c) ∧ b.length ≤ q.length + (2 * s + 2)
     by_cases hv : 1 ≤ val t ∧ (val t : Int) ≤ (nf k s d).size
     ·rw [if_pos hv, if_pos hv]
      have hv2 : val t ≤ s := by
       have : (nf k s d).size = (s : Int) := rfl
       omega
      have l2 := pts_size 2 (nf k s d).code (val t)
      rw [if_neg (by decide), if_neg (by decide)] at l2
      obtain ⟨a1, a2⟩ := takeAll_eats (ptsOf 2 (nf k s d).code (val t)) r c (by omega)
      refine ⟨a1, fun x q he => ?_⟩
      obtain ⟨a3, a4⟩ := a2 x q he
      exact ⟨a3, by omega⟩
     ·rw [if_neg hv, if_neg hv]
      exact ⟨fun e he => he, fun x r he => (by cases he)⟩
  ·simp only [if_neg h2]
   have l1 := pts_size (nf k s d).kind (nf k s d).code (nf k s d).size.toNat
   have hsz : (nf k s d).size.toNat = s := rfl
   rw [hsz] at l1 ⊢
   exact eats_mono (takeAll_eats _) (by
    refine Nat.le_trans l1 ?_
    split
    ·omega
    ·split <;> omega) b c hb
 ·rw [if_neg hm, if_neg hm]
  exact ⟨fun e he => he, fun x r he => (by cases he)⟩
theorem type_eats (d : Nat) : Eats (takeType d) 10 := fun b c hb => by
 obtain ⟨h1, h2⟩ := fm_eats 1 4 d (by decide) b c hb
 unfold takeType
 cases ht : (typeFm d).take b with
 | error e =>
   rw [show (typeFm d).take (b ++ c) = _ from h1 e ht]
   exact ⟨fun e he => he, fun x r he => (by cases he)⟩
 | ok p =>
   obtain ⟨t, r⟩ := p
   obtain ⟨h5, h6⟩ := h2 t r ht
   rw [show (typeFm d).take (b ++ c) = _ from h5]
   cases hm : mtype d t with
   | none => exact ⟨fun e he => by simpa [hm] using he, fun x r he => by simp [hm] at he⟩
   | some n =>
     refine ⟨fun e he => by simp [hm] at he, fun x q he => ?_⟩
     simp only [hm] at he ⊢
     injection he with he
     injection he with e1 e2
     subst e1 e2
     exact ⟨rfl, h6⟩
theorem half_eats (d : Nat) : Eats (takeHalf d) 18 := fun b c hb => by
 obtain ⟨h1, h2⟩ := fm_eats 4 8 d (by decide) b c hb
 unfold takeHalf
 cases ht : (mapFm d).take b with
 | error e =>
   rw [show (mapFm d).take (b ++ c) = _ from h1 e ht]
   exact ⟨fun e he => he, fun x r he => (by cases he)⟩
 | ok p =>
   obtain ⟨t, r⟩ := p
   obtain ⟨h5, h6⟩ := h2 t r ht
   rw [show (mapFm d).take (b ++ c) = _ from h5]
   refine ⟨fun e he => (by cases he), fun x q he => ?_⟩
   injection he with he
   injection he with e1 e2
   subst e1 e2
   exact ⟨rfl, h6⟩
theorem map_eats (d : Nat) : Eats (takeMap d) 36 := fun b c hb => by
 obtain ⟨h1, h2⟩ := half_eats d b c (by omega)
 unfold takeMap
 cases ht : takeHalf d b with
 | error e =>
   rw [h1 e ht]
   exact ⟨fun e he => he, fun x r he => (by cases he)⟩
 | ok p =>
   obtain ⟨h, r⟩ := p
   obtain ⟨h5, h6⟩ := h2 h r ht
   rw [h5]
   dsimp only
   by_cases hb63 : h.testBit 63 = false
   ·rw [if_pos hb63, if_pos hb63]
    refine ⟨fun e he => (by cases he), fun x q he => ?_⟩
    injection he with he
    injection he with e1 e2
    subst e1 e2
    exact ⟨rfl, by omega⟩
   ·rw [if_neg hb63, if_neg hb63]
    obtain ⟨g1, g2⟩ := half_eats d r c (by omega)
    cases ht2 : takeHalf d r with
    | error e =>
      rw [g1 e ht2]
      exact ⟨fun e he => he, fun x r he => (by cases he)⟩
    | ok p =>
      obtain ⟨k, q⟩ := p
      obtain ⟨g5, g6⟩ := g2 k q ht2
      rw [g5]
      dsimp only
      by_cases hk : k = 0
      ·rw [if_pos hk, if_pos hk]
       exact ⟨fun e he => he, fun x r he => (by cases he)⟩
      ·rw [if_neg hk, if_neg hk]
       refine ⟨fun e he => (by cases he), fun x z he => ?_⟩
       injection he with he
       injection he with e1 e2
       subst e1 e2
       exact ⟨rfl, by omega⟩
theorem allForms_cons {d : Nat} {no : Int} {l : List Int} (h : allForms d (no :: l) = true) : (∃ m, mform d no = some m) ∧ allForms d l = true := by
 unfold allForms at h
 rw [List.all_cons, Bool.and_eq_true] at h
 obtain ⟨m, hm⟩ := Option.isSome_iff_exists.1 h.1
 exact ⟨⟨m, hm⟩, h.2⟩
theorem form_cap {d : Nat} {no : Int} {m : Fm} (h : mform d no = some m) : Eats m.take (capOf no) := by
 obtain ⟨k, s, rfl, _, hs, _, _, hf, _⟩ := form_nf h
 unfold capOf
 rw [hf]
 refine eats_mono (fm_eats k s d hs.1) ?_
 show 2 * s + 2 ≤ 2 * (((s + (unsaid d no).length : Nat) : Int)).toNat + 2
 omega
theorem fs_eats (d : Nat) : ∀ l : List Int, allForms d l = true → Eats (takeFs d l) ((l.map capOf).sum)
 | [], _ => fun b c hb => ⟨fun e he => (by cases he), fun x r he => by
  injection he with he
  injection he with e1 e2
  subst e1 e2
  exact ⟨rfl, by simp⟩⟩
 | no :: l, h => fun b c hb => by
   obtain ⟨⟨m, hm⟩, hl⟩ := allForms_cons h
   rw [List.map_cons, List.sum_cons] at hb ⊢
   obtain ⟨h1, h2⟩ := form_cap hm b c (by omega)
   unfold takeFs
   simp only [hm]
   cases ht : m.take b with
   | error e =>
     rw [h1 e ht]
     exact ⟨fun e he => he, fun x r he => (by cases he)⟩
   | ok p =>
     obtain ⟨t, r⟩ := p
     obtain ⟨h5, h6⟩ := h2 t r ht
     rw [h5]
     dsimp only
     obtain ⟨g1, g2⟩ := fs_eats d l hl r c (by omega)
     cases ht2 : takeFs d l r with
     | error e =>
       rw [g1 e ht2]
       exact ⟨fun e he => he, fun x r he => (by cases he)⟩
     | ok p =>
       obtain ⟨fs, q⟩ := p
       obtain ⟨g5, g6⟩ := g2 fs q ht2
       rw [g5]
       refine ⟨fun e he => (by cases he), fun x z he => ?_⟩
       injection he with he
       injection he with e1 e2
       subst e1 e2
       exact ⟨rfl, by omega⟩
def mdecodeL (d : Int) (b0 : List UInt8) : Except Int (Int × List Fld) :=
 if 1 ≤ d ∧ d ≤ 3 then match takeType d.toNat b0 with
  | .error e => .error e
  | .ok (ty, b1) => match takeMap d.toNat b1 with
    | .error e => .error e
    | .ok (l, b2) => if allForms d.toNat l = true then match takeFs d.toNat l b2 with
     | .error e => .error e
     | .ok (fs, b3) => if b3 = [] then .ok (ty, fs) else .error 54
      else .error 52
 else .error 50
theorem map_rise {d : Nat} {b : List UInt8} {l : List Int} {r : List UInt8} (h : takeMap d b = .ok (l, r)) : Rise l := by
 unfold takeMap at h
 split at h
 ·cases h
 ·split at h
  ·injection h with h
   injection h with h _
   subst h
   exact rise_nums _ _
  ·split at h
   ·cases h
   ·split at h
    ·cases h
    ·injection h with h
     injection h with h _
     subst h
     unfold Rise
     rw [List.pairwise_append]
     refine ⟨rise_nums _ _, rise_nums _ _, fun x hx y hy => ?_⟩
     obtain ⟨i, hi, _, rfl⟩ := mem_nums.1 hx
     obtain ⟨j, hj, _, rfl⟩ := mem_nums.1 hy
     omega
theorem forms_cap {d : Nat} {l : List Int} (hr : Rise l) (h : allForms d l = true) : (l.map capOf).sum ≤ 382 := by
 rw [← caps_all]
 refine sum_rows capOf mrows l hr (fun x hx => ?_) mrows_rise
 unfold allForms at h
 obtain ⟨m, hm⟩ := Option.isSome_iff_exists.1 (List.all_eq_true.1 h x hx)
 unfold mform at hm
 obtain ⟨r, hr, _⟩ := Option.map_eq_some_iff.1 hm
 exact ⟨_, mfind_mem hr, rfl⟩
theorem mdecode_long (d : Int) (b : List UInt8) : mdecode d b = mdecodeL d b := by
 by_cases hl : b.length ≤ 512
 ·unfold mdecode mdecodeL
  rw [List.take_of_length_le hl]
  all_goals rfl
 ·have hb : b = b.take 512 ++ b.drop 512 := (List.take_append_drop 512 b).symm
  have hl2 : (b.take 512).length = 512 := by rw [List.length_take]; omega
  unfold mdecode mdecodeL
  rw [show takeType d.toNat b = takeType d.toNat (b.take 512 ++ b.drop 512) from by rw [← hb]]
  generalize b.take 512 = b0 at hl2 ⊢
  generalize b.drop 512 = c
  by_cases hd : 1 ≤ d ∧ d ≤ 3
  ·rw [if_pos hd, if_pos hd]
   obtain ⟨h1, h2⟩ := type_eats d.toNat b0 c (by omega)
   cases ht : takeType d.toNat b0 with
   | error e =>
     rw [h1 e ht]
   | ok p =>
     obtain ⟨ty, b1⟩ := p
     obtain ⟨h5, h6⟩ := h2 ty b1 ht
     rw [h5]
     dsimp only
     obtain ⟨g1, g2⟩ := map_eats d.toNat b1 c (by omega)
     cases hm : takeMap d.toNat b1 with
     | error e =>
       rw [g1 e hm]
     | ok p =>
       obtain ⟨l, b2⟩ := p
       obtain ⟨g5, g6⟩ := g2 l b2 hm
       rw [g5]
       dsimp only
       by_cases ha : allForms d.toNat l = true
       ·rw [if_pos ha, if_pos ha]
        have hc := forms_cap (map_rise hm) ha
        obtain ⟨k1, k2⟩ := fs_eats d.toNat l ha b2 c (by omega)
        cases hf : takeFs d.toNat l b2 with
        | error e =>
          rw [k1 e hf]
        | ok p =>
          obtain ⟨fs, b3⟩ := p
          obtain ⟨k5, k6⟩ := k2 fs b3 hf
          rw [k5]
          dsimp only
          have hne : b3 ≠ [] := by
           rintro rfl
           simp at k6
           omega
          rw [if_neg hne, if_neg (by simp [hne])]
       ·rw [if_neg ha, if_neg ha]
  ·rw [if_neg hd, if_neg hd]
/-! ### the halves of a map, as bytes -/
def beV (l : List UInt8) : Nat := l.foldl (fun a x => a * 256 + x.toNat) 0
theorem beV_snoc (l : List UInt8) (x : UInt8) : beV (l ++ [x]) = beV l * 256 + x.toNat := by
 unfold beV
 rw [List.foldl_append]
 rfl
theorem be_of : ∀ (k : Nat) (l : List UInt8), l.length = k → be k (beV l) = l ∧ beV l < 256 ^ k
 | 0, l, h => by
   have h0 := List.eq_nil_of_length_eq_zero h
   subst h0
   exact ⟨rfl, by decide⟩
 | k + 1, l, h => by
   obtain ⟨a, x, rfl⟩ := snoc_of l (fun e => by rw [e] at h; cases h)
   have ha : a.length = k := by simpa using h
   obtain ⟨h1, h2⟩ := be_of k a ha
   have hx := x.toNat_lt
   rw [beV_snoc, be, show (beV a * 256 + x.toNat) / 256 = beV a from by omega, show (beV a * 256 + x.toNat) % 256 = x.toNat from by omega, h1, UInt8.ofNat_toNat]
   refine ⟨rfl, ?_⟩
   rw [Nat.pow_succ]
   omega
theorem hexVal_unpack : ∀ (l : List UInt8) (a : Nat), (unpack hexs l).foldl (fun a c => a * 16 + hexs.idxOf c) a = l.foldl (fun a x => a * 256 + x.toNat) a
 | [], _ => rfl
 | x :: r, a => by
   have hx := x.toNat_lt
   unfold unpack
   rw [List.foldl_cons, List.foldl_cons, List.foldl_cons, (hex_idx (show x.toNat / 16 < 16 by omega)).1, (hex_idx (Nat.mod_lt x.toNat (by decide : 0 < 16))).1, hexVal_unpack r]
   congr 1
   omega
theorem unpackL_len : ∀ (cs l : List UInt8), (unpack cs l).length = 2 * l.length
 | _, [] => rfl
 | cs, x :: r => by
   unfold unpack
   rw [List.length_cons, List.length_cons, unpackL_len cs r, List.length_cons]
   omega
theorem may_map {d : Nat} (hd : 1 ≤ d ∧ d ≤ 3) : (mapFm d).may = true := by
 have hc : d = 1 ∨ d = 2 ∨ d = 3 := by omega
 rcases hc with rfl | rfl | rfl <;> rfl
theorem half_23 {d : Nat} (hd : d = 2 ∨ d = 3) (b : List UInt8) : takeHalf d b = if b.length < 8 then .error 43 else .ok (beV (b.take 8), b.drop 8) := by
 have hp : ptsOf (mapFm d).kind (mapFm d).code (mapFm d).size.toNat = [⟨16, hexs, []⟩] := by rcases hd with rfl | rfl <;> rfl
 have hT : (mapFm d).take b = takeAll [⟨16, hexs, []⟩] b := by
  unfold Fm.take
  rw [if_pos (may_map (by omega)), if_neg (show ¬ (mapFm d).kind = 2 from (by decide : ¬ ((4 : Int) = 2))), hp]
 unfold takeHalf
 rw [hT]
 unfold takeAll
 rw [show sizeAll [(⟨16, hexs, []⟩ : Pt)] = 8 from rfl]
 by_cases hl : b.length < 8
 ·rw [if_pos hl, if_pos hl]
 ·rw [if_neg hl, if_neg hl]
  have hk : packOk hexs (b.take 8) = true := by
   unfold packOk
   rw [List.all_eq_true]
   intro x _
   have hx := x.toNat_lt
   have h16 : hexs.length = 16 := rfl
   rw [h16, decide_eq_true (show x.toNat / 16 < 16 by omega), decide_eq_true (show x.toNat % 16 < 16 by omega)]
   rfl
  have hlen : (unpack hexs (b.take 8)).length = 16 := by rw [unpackL_len, List.length_take]; omega
  have hD : decAll [(⟨16, hexs, []⟩ : Pt)] b = some (unpack hexs (b.take 8)) := by
   unfold decAll Pt.dec
   rw [if_pos rfl]
   unfold unpacked
   rw [show (⟨16, hexs, []⟩ : Pt).size = 8 from rfl, if_pos hk, if_neg (fun h => absurd h.1 (by decide)), hlen]
   simp [decAll]
  rw [hD]
  show Except.ok (hexVal (unpack hexs (b.take 8)), b.drop 8) = _
  unfold hexVal beV
  rw [hexVal_unpack]
def hxv (c : UInt8) : Nat := hexU.idxOf c
theorem hxv_one {c : UInt8} (h : c ∈ hexU) : hexs.idxOf (one hexU hexs c) = hxv c ∧ hxv c < 16 := by
 have := idx_lt h
 unfold one hxv
 have h16 : hexU.length = 16 := rfl
 rw [h16] at this
 exact ⟨(hex_idx this).1, this⟩
def hexF (l : List UInt8) : Nat := l.foldl (fun a c => a * 16 + hxv c) 0
theorem hexF_map : ∀ (l : List UInt8) (a : Nat), onlyOf l hexU = true → (l.map (one hexU hexs)).foldl (fun a c => a * 16 + hexs.idxOf c) a = l.foldl (fun a c => a * 16 + hxv c) a
 | [], _, _ => rfl
 | c :: r, a, h => by
   unfold onlyOf at h
   rw [List.all_cons, Bool.and_eq_true] at h
   rw [List.map_cons, List.foldl_cons, List.foldl_cons, (hxv_one (by simpa using h.1)).1, hexF_map r _ h.2]
theorem half_1 (b : List UInt8) : takeHalf 1 b = if b.length < 16 then .error 43 else if onlyOf (b.take 16) hexU = true then .ok (hexF (b.take 16), b.drop 16) else .error 42 := by
 have hT : (mapFm 1).take b = takeAll [⟨16, hexs, hexU⟩] b := by
  unfold Fm.take
  rw [if_pos (may_map (by omega)), if_neg (show ¬ (mapFm 1).kind = 2 from (by decide : ¬ ((4 : Int) = 2)))]
  rfl
 unfold takeHalf
 rw [hT]
 unfold takeAll
 rw [show sizeAll [(⟨16, hexs, hexU⟩ : Pt)] = 16 from rfl]
 by_cases hl : b.length < 16
 ·rw [if_pos hl, if_pos hl]
 ·rw [if_neg hl, if_neg hl]
  have hD : decAll [(⟨16, hexs, hexU⟩ : Pt)] b = if onlyOf (b.take 16) hexU = true then some ((b.take 16).map (one hexU hexs)) else none := by
   unfold decAll Pt.dec
   rw [if_neg (show ¬ (⟨16, hexs, hexU⟩ : Pt).stands = [] from fun h => by cases h), show (⟨16, hexs, hexU⟩ : Pt).size = 16 from rfl]
   show (match if onlyOf (b.take 16) hexU = true then some ((b.take 16).map (one hexU hexs)) else none with | none => none | some t => (decAll [] (b.drop 16)).map (t ++ ·)) = _
   split
   ·rename_i h; rw [h]
   ·rename_i t h; rw [h]; simp [decAll]
  rw [hD]
  by_cases ho : onlyOf (b.take 16) hexU = true
  ·rw [if_pos ho, if_pos ho]
   show Except.ok (hexVal ((b.take 16).map (one hexU hexs)), b.drop 16) = _
   unfold hexVal hexF
   rw [hexF_map _ _ ho]
  ·rw [if_neg ho, if_neg ho]
def pkU : List UInt8 → List UInt8
 | a :: b :: r => UInt8.ofNat (hxv a * 16 + hxv b) :: pkU r
 | [a] => [UInt8.ofNat (hxv a)]
 | [] => []
theorem pkU_even (c : UInt8) : ∀ (q : Nat) (l : List UInt8), l.length = 2 * q → pkU (l ++ [c]) = pkU l ++ [UInt8.ofNat (hxv c)] ∧ (pkU l).length = q
 | 0, l, h => by
   have h0 : l = [] := List.eq_nil_of_length_eq_zero (by omega)
   subst h0
   exact ⟨rfl, rfl⟩
 | q + 1, a :: b :: r, h => by
   obtain ⟨h1, h2⟩ := pkU_even c q r (by simp only [List.length_cons] at h; omega)
   show UInt8.ofNat (hxv a * 16 + hxv b) :: pkU (r ++ [c]) = _ ∧ (pkU r).length + 1 = _
   rw [h1, h2]
   exact ⟨rfl, rfl⟩
 | q + 1, [a], h => by simp at h; omega
 | q + 1, [], h => by simp at h
theorem pkU_odd (a c : UInt8) : ∀ (q : Nat) (l : List UInt8), l.length = 2 * q → pkU (l ++ [a] ++ [c]) = pkU l ++ [UInt8.ofNat (hxv a * 16 + hxv c)]
 | 0, l, h => by
   have h0 : l = [] := List.eq_nil_of_length_eq_zero (by omega)
   subst h0
   rfl
 | q + 1, x :: y :: r, h => by
   have h1 := pkU_odd a c q r (by simp only [List.length_cons] at h; omega)
   show UInt8.ofNat (hxv x * 16 + hxv y) :: pkU (r ++ [a] ++ [c]) = _
   rw [h1]
   rfl
 | q + 1, [a], h => by simp at h; omega
 | q + 1, [], h => by simp at h
theorem beV_pk : ∀ (q : Nat) (l : List UInt8) (a : Nat), l.length = 2 * q → (∀ c ∈ l, hxv c < 16) → (pkU l).foldl (fun a x => a * 256 + x.toNat) a = l.foldl (fun a c => a * 16 + hxv c) a
 | 0, l, a, h, _ => by
   have h0 : l = [] := List.eq_nil_of_length_eq_zero (by omega)
   subst h0
   rfl
 | q + 1, x :: y :: r, a, h, hx => by
   have h1 := hx x (by simp)
   have h2 := hx y (by simp)
   show (pkU r).foldl _ (a * 256 + (UInt8.ofNat (hxv x * 16 + hxv y)).toNat) = _
   rw [beV_pk q r _ (by simp only [List.length_cons] at h; omega) (fun c hc => hx c (by simp [hc])), List.foldl_cons, List.foldl_cons, UInt8.toNat_ofNat', Nat.mod_eq_of_lt (by omega)]
   congr 1
   omega
 | q + 1, [a], _, h, _ => by simp at h; omega
 | q + 1, [], _, h, _ => by simp at h
theorem pk16 {l : List UInt8} (hl : l.length = 16) (h : onlyOf l hexU = true) : pkU l = be 8 (hexF l) ∧ hexF l < 2 ^ 64 := by
 have hm : ∀ c ∈ l, hxv c < 16 := fun c hc => (hxv_one (onlyOf_mem h hc)).2
 have e : beV (pkU l) = hexF l := beV_pk 8 l 0 hl hm
 have hlen : (pkU l).length = 8 := (pkU_even 0 8 l hl).2
 obtain ⟨h1, h2⟩ := be_of 8 (pkU l) hlen
 rw [e] at h1 h2
 exact ⟨h1.symm, h2⟩
/-! ### the numbers that a map tells -/
def bitB (l : List UInt8) (i : Nat) : Bool := (l.getD (i / 8) 0).toNat / 2 ^ (7 - i % 8) % 2 == 1
def nosTo (l : List UInt8) (k : Nat) : List Int := ((List.range k).filter fun i => decide (1 ≤ i) && bitB l i).map fun i => ((i + 1 : Nat) : Int)
theorem nosTo_next (l : List UInt8) {k : Nat} (h : 1 ≤ k) : nosTo l (k + 1) = nosTo l k ++ (if bitB l k = true then [((k + 1 : Nat) : Int)] else []) := by
 unfold nosTo
 rw [List.range_succ, List.filter_append, List.map_append]
 congr 1
 by_cases hb : bitB l k = true
 ·rw [if_pos hb, List.filter_cons_of_pos (by rw [decide_eq_true h, hb]; rfl)]
  rfl
 ·rw [if_neg hb, List.filter_cons_of_neg (by simp [hb])]
  rfl
theorem nosTo_one (l : List UInt8) : nosTo l 1 = [] := by
 unfold nosTo
 rfl
theorem bitB_be (h i : Nat) (hi : i < 64) : bitB (be 8 h) i = h.testBit (63 - i) := by
 have := be_bit h (i / 8) (i % 8) (by omega) (by omega)
 rw [show 8 * (i / 8) + i % 8 = i from by omega] at this
 unfold bitB
 rw [Bool.eq_iff_iff, beq_iff_eq]
 exact this
theorem bitB_left {a b : List UInt8} {i : Nat} (h : i < 8 * a.length) : bitB (a ++ b) i = bitB a i := by
 unfold bitB
 rw [gd_left (by omega)]
theorem bitB_right {a b : List UInt8} {i : Nat} : bitB (a ++ b) (8 * a.length + i) = bitB b i := by
 unfold bitB
 rw [gd_right (by omega), show (8 * a.length + i) / 8 - a.length = i / 8 from by omega, show (8 * a.length + i) % 8 = i % 8 from by omega]
theorem nos_near {h : Nat} (hb : h.testBit 63 = false) : nosTo (be 8 h) 64 = nums h 0 := by
 unfold nosTo nums
 rw [show (List.range 64).filter (fun i => decide (1 ≤ i) && bitB (be 8 h) i) = (List.range 64).filter (fun i => h.testBit (63 - i)) from List.filter_congr fun i hi => by
  have hi := List.mem_range.1 hi
  rw [bitB_be h i hi]
  by_cases h0 : 1 ≤ i
  ·rw [decide_eq_true h0, Bool.true_and]
  ·have : i = 0 := by omega
   subst this
   rw [hb, Bool.and_false]]
 refine List.map_congr_left fun i _ => ?_
 omega
theorem nos_far {h k : Nat} : nosTo (be 8 h ++ be 8 k) 128 = nums (h % 2 ^ 63) 0 ++ nums k 64 := by
 unfold nosTo nums
 rw [show (128 : Nat) = 64 + 64 from rfl, List.range_add, List.filter_append, List.map_append, List.filter_map, List.map_map]
 congr 1
 ·rw [show (List.range 64).filter (fun i => decide (1 ≤ i) && bitB (be 8 h ++ be 8 k) i) = (List.range 64).filter (fun i => (h % 2 ^ 63).testBit (63 - i)) from List.filter_congr fun i hi => by
   have hi := List.mem_range.1 hi
   rw [bitB_left (by rw [be_len]; omega), bitB_be h i hi, Nat.testBit_mod_two_pow]
   congr 1
   exact decide_eq_decide.2 (by omega)]
  refine List.map_congr_left fun i _ => ?_
  omega
 ·rw [show (List.range 64).filter ((fun i => decide (1 ≤ i) && bitB (be 8 h ++ be 8 k) i) ∘ fun x => 64 + x) = (List.range 64).filter (fun i => k.testBit (63 - i)) from List.filter_congr fun i hi => by
   have hi := List.mem_range.1 hi
   show (decide (1 ≤ 64 + i) && bitB (be 8 h ++ be 8 k) (64 + i)) = _
   rw [decide_eq_true (by omega), Bool.true_and, show 64 + i = 8 * (be 8 h).length + i from by rw [be_len], bitB_right, bitB_be k i hi]]
  refine List.map_congr_left fun i _ => ?_
  show ((64 + i + 1 : Nat) : Int) = _
  omega
theorem first_bit {h : Nat} : 128 ≤ ((be 8 h).getD 0 0).toNat ↔ h.testBit 63 = true := by
 have := be_bit h 0 0 (by omega) (by omega)
 rw [show 63 - (8 * 0 + 0) = 63 from rfl] at this
 rw [← this]
 have hx := ((be 8 h).getD 0 0).toNat_lt
 show _ ↔ _ / 128 % 2 = 1
 omega
theorem be_zero {k : Nat} (hk : k < 2 ^ 64) : k = 0 ↔ ∀ i, i < 8 → (be 8 k).getD i 0 = 0 := by
 constructor
 ·rintro rfl i hi
  have := be_at 8 0 i hi
  apply UInt8.toNat_inj.1
  rw [this]
  simp
 ·intro h
  have e : be 8 k = be 8 0 := by
   refine get_ext (by rw [be_len, be_len]) fun i hi => ?_
   rw [be_len] at hi
   rw [h i hi]
   have := be_at 8 0 i hi
   rw [this]
   simp
  apply Nat.eq_of_testBit_eq
  intro j
  by_cases hj : j < 64
  ·have h1 := bitB_be k (63 - j) (by omega)
   have h2 := bitB_be 0 (63 - j) (by omega)
   rw [show 63 - (63 - j) = j from by omega] at h1 h2
   rw [← h1, ← h2, e]
  ·rw [Nat.testBit_lt_two_pow (Nat.lt_of_lt_of_le hk (Nat.pow_le_pow_right (by decide) (by omega)))]
   simp
open Go.RowKit Go.Extern.Stop Go.Stop Go.Extern
set_option maxRecDepth 20000
theorem c_typeOf (v : Value) (w : World) : (callFunc 68 #[.iface 236 v]).run Tryz.prog w = .ok (.value (.iface 151 (.agg #[.pointer (some ⟨21, 236, none⟩)]))) w := by
 rw [@run_callFunc_extern Tryz.prog 68 _ Extern.ReflectliteType.typeOf Tryz.func68 (by kernel_rfl) (by kernel_rfl) (by kernel_rfl) (by kernel_rfl)]
 kernel_rfl
theorem c_comparable (w : World) : (callFunc 196 #[.agg #[.pointer (some ⟨21, 236, none⟩)]]).run Tryz.prog w = .ok (.value (.bool true)) w := by
 rw [@run_callFunc_extern Tryz.prog 196 _ (Extern.ReflectliteType.method fun t => do Extern.Rtype.noPackHeld "Comparable" t; pure (.bool (← typeInfo t).comparable)) Tryz.func196 (by kernel_rfl) (by kernel_rfl) (by kernel_rfl) (by kernel_rfl)]
 kernel_rfl
theorem is_methodC (v : Value) (w : World) : (Go.method 374 151 v "Comparable").run Tryz.prog w = .ok (196, v) w := by kernel_rfl
theorem is_comp : (Tryz.prog.info? 236).map (·.comparable) = some true := by kernel_rfl
theorem is_size : (Tryz.prog.info? 238).map (·.size) = some 1 := by kernel_rfl
theorem no_IsE (v : Value) (xT : TypeId) (w : World) : (Instr.typeAssert (.iface 236 v) xT 163 true).run Tryz.prog w = .ok (.tuple #[.nilIface, .bool false]) w := run_typeAssert_lacksB Tryz.underlying163 (by kernel_rfl) (by kernel_rfl) v xT w
theorem no_UnE (v : Value) (xT : TypeId) (w : World) : (Instr.typeAssert (.iface 236 v) xT 158 true).run Tryz.prog w = .ok (.tuple #[.nilIface, .bool false]) w := run_typeAssert_lacksB Tryz.underlying158 (by kernel_rfl) (by kernel_rfl) v xT w
theorem no_UsE (v : Value) (xT : TypeId) (w : World) : (Instr.typeAssert (.iface 236 v) xT 160 true).run Tryz.prog w = .ok (.tuple #[.nilIface, .bool false]) w := run_typeAssert_lacksB Tryz.underlying160 (by kernel_rfl) (by kernel_rfl) v xT w
theorem no_AsE (v : Value) (xT : TypeId) (w : World) : (Instr.typeAssert (.iface 236 v) xT 155 true).run Tryz.prog w = .ok (.tuple #[.nilIface, .bool false]) w := run_typeAssert_lacksB Tryz.underlying155 (by kernel_rfl) (by kernel_rfl) v xT w
theorem no_IsF (v : Value) (xT : TypeId) (w : World) : (Instr.typeAssert (.iface 80 v) xT 163 true).run Tryz.prog w = .ok (.tuple #[.nilIface, .bool false]) w := run_typeAssert_lacksB Tryz.underlying163 (by kernel_rfl) (by kernel_rfl) v xT w
theorem has_UnF (v : Value) (xT : TypeId) (w : World) : (Instr.typeAssert (.iface 80 v) xT 158 true).run Tryz.prog w = .ok (.tuple #[.iface 80 v, .bool true]) w := run_typeAssert_hasB Tryz.underlying158 (by kernel_rfl) v xT w
theorem method_UnF (v : Value) (w : World) : (Go.method 374 80 v "Unwrap").run Tryz.prog w = .ok (190, v) w := by kernel_rfl
theorem is_any (a b : Addr) (ca cb : Array Value) (ta tb : TypeId) (w : World) (ha : w.heap[a.block]? = some (.cells ca ta (0, 0))) (hb : w.heap[b.block]? = some (.cells cb tb (0, 0))) :
 Calls Tryz.prog 43 #[.iface 236 (.pointer (some a)), .iface 236 (.pointer (some b))] w fun e w' => e = .returned (.bool (decide (a = b))) ∧ w' = w := by
 obtain ⟨i, hi, hcmp⟩ := Option.map_eq_some_iff.1 is_comp
 obtain ⟨j, hj, hjs⟩ := Option.map_eq_some_iff.1 is_size
 have tT := c_typeOf
 have cT := c_comparable
 have mR := is_methodC
 have nE := no_IsE
 have uE := no_UnE
 have vE := no_UsE
 by_cases hab : a = b
 ·subst hab
  rw [decide_eq_true rfl]
  have heq := run_eql_iface_ptr_same (P := Tryz.prog) w a Tryz.underlying43 Tryz.underlying236 hi hcmp hj
  go_enter Tryz.func43, Tryz.ntmps43
  go_wp2
  refine wp_loop_rounds 1 ?_
  rw [rounds_succ]
  go_wp2
  go_ret
  exact ⟨rfl, rfl⟩
 ·rw [decide_eq_false hab]
  have heq := run_eql_iface_ptr_other (P := Tryz.prog) w Tryz.underlying43 Tryz.underlying236 hi hcmp hj (by rw [hjs]; decide) (a := a) (b := b) hab ha hb
  clear hab
  go_enter Tryz.func43, Tryz.ntmps43
  go_wp2
  refine wp_loop_rounds 1 ?_
  rw [rounds_succ]
  go_wp2
  go_ret
  exact ⟨rfl, rfl⟩
theorem is_nil (b : Addr) (w : World) :
 Calls Tryz.prog 43 #[.nilIface, .iface 236 (.pointer (some b))] w fun e w' => e = .returned (.bool false) ∧ w' = w := by
 have hn := run_eql_iface_nil_left (P := Tryz.prog) w 236 (.pointer (some b)) Tryz.underlying43
 go_enter Tryz.func43, Tryz.ntmps43
 go_wp2
 go_ret
 exact ⟨rfl, rfl⟩
set_option maxRecDepth 20000
theorem c_valueOfP (t : Addr) (w : World) : (callFunc 64 #[.iface 82 (.pointer (some t))]).run Tryz.prog w = .ok (.value (.agg #[.pointer (some ⟨21, 82, none⟩), .pointer (some ⟨w.heap.size, 0, none⟩), .int .u64 150])) (w.alloc (.cells #[.pointer (some t)] 82)) := by
 rw [@run_callFunc_extern Tryz.prog 64 _ (fun args => ReflectliteValue.unpack (args.getD 0 (.tuple #[]))) Tryz.func64 (by kernel_rfl) (by kernel_rfl) (by kernel_rfl) (by kernel_rfl)]
 kernel_rfl
theorem c_valueOfF (no : Int) (u : Value) (w : World) : (callFunc 64 #[.iface 80 (.agg #[.int .i64 no, u])]).run Tryz.prog w = .ok (.value (.agg #[.pointer (some ⟨21, 80, none⟩), .pointer (some ⟨w.heap.size, 0, none⟩), .int .u64 153])) (w.alloc (.cells #[.int .i64 no, u] 80)) := by
 rw [@run_callFunc_extern Tryz.prog 64 _ (fun args => ReflectliteValue.unpack (args.getD 0 (.tuple #[]))) Tryz.func64 (by kernel_rfl) (by kernel_rfl) (by kernel_rfl) (by kernel_rfl)]
 kernel_rfl
theorem c_typeP (a : Addr) (w : World) : (callFunc 65 #[.agg #[.pointer (some ⟨21, 82, none⟩), .pointer (some a), .int .u64 150]]).run Tryz.prog w = .ok (.value (.iface 151 (.agg #[.pointer (some ⟨21, 82, none⟩)]))) w := by
 rw [@run_callFunc_extern Tryz.prog 65 _ (ReflectliteValue.methodAny (ReflectliteValue.valueError "reflectlite.Value.Type" 0) (fun t _ _ _ => ReflectliteType.toType t)) Tryz.func65 (by kernel_rfl) (by kernel_rfl) (by kernel_rfl) (by kernel_rfl)]
 kernel_rfl
theorem c_methodKind (x : Value) (w : World) : (Go.method 374 151 (.agg #[x]) "Kind").run Tryz.prog w = .ok (186, x) w := by kernel_rfl
theorem c_kindP (w : World) : (callFunc 186 #[.pointer (some ⟨21, 82, none⟩)]).run Tryz.prog w = .ok (.value (.int .u8 22)) w := by
 rw [@run_callFunc_extern Tryz.prog 186 _ (ReflectliteType.abiMethod fun t => do pure (.int .u8 (← Rtype.kind t))) Tryz.func186 (by kernel_rfl) (by kernel_rfl) (by kernel_rfl) (by kernel_rfl)]
 kernel_rfl
theorem c_kindF (w : World) : (callFunc 186 #[.pointer (some ⟨21, 80, none⟩)]).run Tryz.prog w = .ok (.value (.int .u8 25)) w := by
 rw [@run_callFunc_extern Tryz.prog 186 _ (ReflectliteType.abiMethod fun t => do pure (.int .u8 (← Rtype.kind t))) Tryz.func186 (by kernel_rfl) (by kernel_rfl) (by kernel_rfl) (by kernel_rfl)]
 kernel_rfl
theorem c_methodElem (x : Value) (w : World) : (Go.method 374 151 (.agg #[x]) "Elem").run Tryz.prog w = .ok (197, .agg #[x]) w := by kernel_rfl
theorem c_methodImpl (x : Value) (w : World) : (Go.method 374 151 (.agg #[x]) "Implements").run Tryz.prog w = .ok (198, .agg #[x]) w := by kernel_rfl
theorem c_methodAssign (x : Value) (w : World) : (Go.method 374 151 (.agg #[x]) "AssignableTo").run Tryz.prog w = .ok (195, .agg #[x]) w := by kernel_rfl
theorem c_elemP (w : World) : (callFunc 197 #[.agg #[.pointer (some ⟨21, 82, none⟩)]]).run Tryz.prog w = .ok (.value (.iface 151 (.agg #[.pointer (some ⟨21, 80, none⟩)]))) w := by
 rw [@run_callFunc_extern Tryz.prog 197 _ (ReflectliteType.method ReflectliteType.elem) Tryz.func197 (by kernel_rfl) (by kernel_rfl) (by kernel_rfl) (by kernel_rfl)]
 kernel_rfl
theorem c_implF (w : World) : (callFunc 198 #[.agg #[.pointer (some ⟨21, 80, none⟩)], .iface 151 (.agg #[.pointer (some ⟨21, 43, none⟩)])]).run Tryz.prog w = .ok (.value (.bool true)) w := by
 rw [@run_callFunc_extern Tryz.prog 198 _ (ReflectliteType.relation "Implements" ReflectliteType.implements_) Tryz.func198 (by kernel_rfl) (by kernel_rfl) (by kernel_rfl) (by kernel_rfl)]
 kernel_rfl
theorem c_assignF (w : World) : (callFunc 195 #[.agg #[.pointer (some ⟨21, 80, none⟩)], .iface 151 (.agg #[.pointer (some ⟨21, 80, none⟩)])]).run Tryz.prog w = .ok (.value (.bool true)) w := by
 rw [@run_callFunc_extern Tryz.prog 195 _ (ReflectliteType.relation "AssignableTo" ReflectliteType.assignableTo) Tryz.func195 (by kernel_rfl) (by kernel_rfl) (by kernel_rfl) (by kernel_rfl)]
 kernel_rfl
theorem c_assignE (w : World) : (callFunc 195 #[.agg #[.pointer (some ⟨21, 236, none⟩)], .iface 151 (.agg #[.pointer (some ⟨21, 80, none⟩)])]).run Tryz.prog w = .ok (.value (.bool false)) w := by
 rw [@run_callFunc_extern Tryz.prog 195 _ (ReflectliteType.relation "AssignableTo" ReflectliteType.assignableTo) Tryz.func195 (by kernel_rfl) (by kernel_rfl) (by kernel_rfl) (by kernel_rfl)]
 kernel_rfl
theorem c_typeOfF (v : Value) (w : World) : (callFunc 68 #[.iface 80 v]).run Tryz.prog w = .ok (.value (.iface 151 (.agg #[.pointer (some ⟨21, 80, none⟩)]))) w := by
 rw [@run_callFunc_extern Tryz.prog 68 _ Extern.ReflectliteType.typeOf Tryz.func68 (by kernel_rfl) (by kernel_rfl) (by kernel_rfl) (by kernel_rfl)]
 kernel_rfl
theorem rlm (z : Sem Value) (f : TypeId → Addr → Nat → Nat → Sem Value) (v : Value) :
 ReflectliteValue.method z f #[v] = (do match ← ReflectliteValue.parts v with | none => z | some (t, a, fl) => f t a fl (fl % 32)) := rfl
theorem c_partsP (a : Addr) (w : World) : (ReflectliteValue.parts (.agg #[.pointer (some ⟨21, 82, none⟩), .pointer (some a), .int .u64 150])).run Tryz.prog w = .ok (some (82, a, 150)) w := by kernel_rfl
theorem c_isNil (a p : Addr) (W : World) (ha : W.cell? a = some (.pointer (some p))) : (callFunc 66 #[.agg #[.pointer (some ⟨21, 82, none⟩), .pointer (some a), .int .u64 150]]).run Tryz.prog W = .ok (.value (.bool false)) W := by
 rw [@run_callFunc_extern Tryz.prog 66 _ (ReflectliteValue.method (ReflectliteValue.valueError "reflectlite.Value.IsNil" 0) ReflectliteValue.isNil) Tryz.func66 (by kernel_rfl) (by kernel_rfl) (by kernel_rfl) (by kernel_rfl)]
 rw [rlm]
 simp only [Sem.run_bind, c_partsP, Result.andThen]
 simp [ReflectliteValue.isNil, loadVar, isAgg, underlying, Tryz.underlying82, ha, Result.andThen]
theorem c_elemOfP (w : World) : (Rtype.elem? 82).run Tryz.prog w = .ok (some 80) w := by kernel_rfl
theorem c_mkF (p : Addr) (w : World) : (ReflectliteValue.mk 80 p ReflectliteValue.flagAddr).run Tryz.prog w = .ok (.agg #[.pointer (some ⟨21, 80, none⟩), .pointer (some p), .int .u64 409]) w := by kernel_rfl
theorem c_elemV (a p : Addr) (W : World) (ha : W.cell? a = some (.pointer (some p))) : (callFunc 96 #[.agg #[.pointer (some ⟨21, 82, none⟩), .pointer (some a), .int .u64 150]]).run Tryz.prog W = .ok (.value (.agg #[.pointer (some ⟨21, 80, none⟩), .pointer (some p), .int .u64 409])) W := by
 rw [@run_callFunc_extern Tryz.prog 96 _ (ReflectliteValue.method (ReflectliteValue.valueError "reflectlite.Value.Elem" 0) ReflectliteValue.elem) Tryz.func96 (by kernel_rfl) (by kernel_rfl) (by kernel_rfl) (by kernel_rfl)]
 rw [rlm]
 simp only [Sem.run_bind, c_partsP, Result.andThen]
 simp [ReflectliteValue.elem, loadVar, isAgg, underlying, Tryz.underlying82, ha, Result.andThen, c_elemOfP, c_mkF]
theorem c_partsFa (a : Addr) (w : World) : (ReflectliteValue.parts (.agg #[.pointer (some ⟨21, 80, none⟩), .pointer (some a), .int .u64 409])).run Tryz.prog w = .ok (some (80, a, 409)) w := by kernel_rfl
theorem c_partsF (a : Addr) (w : World) : (ReflectliteValue.parts (.agg #[.pointer (some ⟨21, 80, none⟩), .pointer (some a), .int .u64 153])).run Tryz.prog w = .ok (some (80, a, 153)) w := by kernel_rfl
theorem c_directF (w : World) : (Rtype.directlyAssignable 80 80).run Tryz.prog w = .ok true w := by kernel_rfl
theorem rls (v x : Value) : ReflectliteValue.set #[v, x] = (do
 let (some (dst, a, fl), some (src, b, _)) := (← ReflectliteValue.parts v, ← ReflectliteValue.parts x)
  | unsupported (.noEntry "extern/(internal/reflectlite.Value).Set.zeroValue")
 if fl / ReflectliteValue.flagAddr % 2 == 0 then unsupported (.noEntry "extern/(internal/reflectlite.Value).Set.unaddressable")
 let val ← loadVar src b
 if ← Rtype.directlyAssignable dst src then storeVar dst a val
 else if ← Rtype.implements dst src then
  if (← Rtype.kind src) == 20 then
   match val with
   | .nilIface => unsupported (.noEntry "extern/reflectlite: a nil value of one interface type handed on as a value of another")
   | _ => storeVar dst a val
  else storeVar dst a (.iface src val)
 else panicString ("reflectlite.Set: value of type " ++ (← Rtype.spelt src) ++ " is not assignable to type " ++ (← Rtype.spelt dst))
 pure (.tuple #[])) := rfl
set_option maxRecDepth 20000
theorem heap_new {w : World} {o : Obj} {a : Nat} {x : Obj} (h : w.heap[a]? = some x) : (w.alloc o).heap[a]? = some x := by
 have hlt : a < w.heap.size := (Array.getElem?_eq_some_iff.1 h).1
 rw [← h]
 simp only [World.alloc, Array.getElem?_push, Nat.ne_of_lt hlt, if_false]
theorem is_fe (no : Int) (a b : Addr) (ca cb : Array Value) (ta tb : TypeId) (w : World) (ha : w.heap[a.block]? = some (.cells ca ta (0, 0))) (hb : w.heap[b.block]? = some (.cells cb tb (0, 0))) :
 Calls Tryz.prog 43 #[.iface 80 (.agg #[.int .i64 no, .iface 236 (.pointer (some a))]), .iface 236 (.pointer (some b))] w fun e w' => e = .returned (.bool (decide (a = b))) ∧ Turn nowhere w w' := by
 obtain ⟨i, hi, hcmp⟩ := Option.map_eq_some_iff.1 is_comp
 obtain ⟨j, hj, hjs⟩ := Option.map_eq_some_iff.1 is_size
 have tT := c_typeOf
 have cT := c_comparable
 have mR := is_methodC
 have nE := no_IsE
 have uE := no_UnE
 have vE := no_UsE
 have nF := no_IsF
 have uF := has_UnF
 have mU := method_UnF
 by_cases hab : a = b
 ·subst hab
  rw [decide_eq_true rfl]
  have heq := run_eql_iface_ptr_same (P := Tryz.prog) (w.alloc (.cells #[.int .i64 no, .iface 236 (.pointer (some a))] 80)) a Tryz.underlying43 Tryz.underlying236 hi hcmp hj
  have hty := run_eql_iface_types (P := Tryz.prog) 80 236 (.agg #[.int .i64 no, .iface 236 (.pointer (some a))]) (.pointer (some a)) Tryz.underlying43 (by decide) w
  go_enter Tryz.func43, Tryz.ntmps43
  go_wp2
  refine wp_loop_rounds 2 ?_
  rw [rounds_succ]
  go_wp2
  rw [rounds_succ]
  go_wp2
  go_ret
  exact ⟨rfl, (Turn.refl nowhere w).alloc _⟩
 ·rw [decide_eq_false hab]
  have heq := run_eql_iface_ptr_other (P := Tryz.prog) (w.alloc (.cells #[.int .i64 no, .iface 236 (.pointer (some a))] 80)) Tryz.underlying43 Tryz.underlying236 hi hcmp hj (by rw [hjs]; decide) (a := a) (b := b) hab (heap_new ha) (heap_new hb)
  have hty := run_eql_iface_types (P := Tryz.prog) 80 236 (.agg #[.int .i64 no, .iface 236 (.pointer (some a))]) (.pointer (some b)) Tryz.underlying43 (by decide) w
  clear hab
  go_enter Tryz.func43, Tryz.ntmps43
  go_wp2
  refine wp_loop_rounds 2 ?_
  rw [rounds_succ]
  go_wp2
  rw [rounds_succ]
  go_wp2
  go_ret
  exact ⟨rfl, (Turn.refl nowhere w).alloc _⟩
theorem as_nil (t : Value) (w : World) :
 Calls Tryz.prog 41 #[.nilIface, t] w fun e w' => e = .returned (.bool false) ∧ w' = w := by
 go_enter Tryz.func41, Tryz.ntmps41
 go_wp2
 go_ret
 exact ⟨rfl, rfl⟩
theorem as_miss (a : Addr) (t : Addr) (w : World) (hg : w.cell? ⟨8, 0, none⟩ = some (.iface 151 (.agg #[.pointer (some ⟨21, 43, none⟩)]))) :
 Calls Tryz.prog 41 #[.iface 236 (.pointer (some a)), .iface 82 (.pointer (some t))] w fun e w' => e = .returned (.bool false) ∧ Turn nowhere w w' := by
 have x1 := c_valueOfP
 have x2 := c_typeP
 have x3 := c_methodKind
 have x4 := c_kindP
 have x5 := c_kindF
 have x6 := c_methodElem
 have x7 := c_methodImpl
 have x8 := c_methodAssign
 have x9 := c_elemP
 have y1 := c_implF
 have y2 := c_assignE
 have y3 := c_typeOf
 have y4 := c_isNil ⟨w.heap.size, 0, none⟩ t ((w.alloc (.cells #[.pointer (some t)] 82)).alloc (.cells #[.pointer (some ⟨21, 82, none⟩), .pointer (some ⟨w.heap.size, 0, none⟩), .int .u64 150] 114)) (by simp)
 have nE := no_AsE
 have uE := no_UnE
 have vE := no_UsE
 have hlt : 8 < w.heap.size := World.block_lt_of_cell? _ _ hg
 have hg2 : ((w.alloc (.cells #[.pointer (some t)] 82)).alloc (.cells #[.pointer (some ⟨21, 82, none⟩), .pointer (some ⟨w.heap.size, 0, none⟩), .int .u64 150] 114)).cell? ⟨8, 0, none⟩ = some (.iface 151 (.agg #[.pointer (some ⟨21, 43, none⟩)])) := by
  rw [World.cell?_alloc_lt _ _ ⟨8, 0, none⟩ (by simp; omega), World.cell?_alloc_lt _ _ ⟨8, 0, none⟩ hlt]; exact hg
 clear hlt
 go_enter Tryz.func41, Tryz.ntmps41
 go_wp2
 refine wp_loop_rounds 1 ?_
 rw [rounds_succ]
 go_wp2
 go_ret
 exact ⟨rfl, (((Turn.refl nowhere w).alloc _).alloc _).alloc _⟩
set_option maxRecDepth 20000
theorem sizeF : (Tryz.prog.info? 80).map (·.size) = some 2 := by kernel_rfl
theorem c_set (t b : Nat) (no : Int) (u : Value) (old : Array Value) (W : World) (hu : u.oneCell' = true) (ht : Blk W t 80 old) (ho : old.size = 2) (hb : Blk W b 80 #[.int .i64 no, u]) :
 (callFunc 97 #[.agg #[.pointer (some ⟨21, 80, none⟩), .pointer (some ⟨t, 0, none⟩), .int .u64 409], .agg #[.pointer (some ⟨21, 80, none⟩), .pointer (some ⟨b, 0, none⟩), .int .u64 153]]).run Tryz.prog W = .ok (.value (.tuple #[])) (W.setRow t #[.int .i64 no, u]) := by
 rw [@run_callFunc_extern Tryz.prog 97 _ ReflectliteValue.set Tryz.func97 (by kernel_rfl) (by kernel_rfl) (by kernel_rfl) (by kernel_rfl)]
 rw [rls]
 have l1 := run_loadVar_row (P := Tryz.prog) W b 80 80 _ _ _ hb Tryz.underlying80 rfl (by rw [sizeF]; rfl)
 have s1 := run_storeVar_row (P := Tryz.prog) W t 80 80 old #[.int .i64 no, u] ht (by rw [sizeF]; rfl) ho (by simp [hu]; rfl)
 simp only [Sem.run_bind, c_partsFa, c_partsF, Result.andThen]
 simp [ReflectliteValue.flagAddr, l1, c_directF, s1, Result.andThen]
theorem as_hit (no : Int) (u : Value) (t : Nat) (old : Array Value) (w : World) (hu : u.oneCell' = true) (hg : w.cell? ⟨8, 0, none⟩ = some (.iface 151 (.agg #[.pointer (some ⟨21, 43, none⟩)]))) (ht : Blk w t 80 old) (ho : old.size = 2) :
 Calls Tryz.prog 41 #[.iface 80 (.agg #[.int .i64 no, u]), .iface 82 (.pointer (some ⟨t, 0, none⟩))] w fun e w' => e = .returned (.bool true) ∧ Blk w' t 80 #[.int .i64 no, u] ∧ Turn (only t) w w' := by
 have x1 := c_valueOfP
 have x0 := c_valueOfF
 have x2 := c_typeP
 have x3 := c_methodKind
 have x4 := c_kindP
 have x5 := c_kindF
 have x6 := c_methodElem
 have x7 := c_methodImpl
 have x8 := c_methodAssign
 have x9 := c_elemP
 have y1 := c_implF
 have y2 := c_assignF
 have y3 := c_typeOfF
 have y4 := c_isNil ⟨w.heap.size, 0, none⟩ ⟨t, 0, none⟩ ((w.alloc (.cells #[.pointer (some ⟨t, 0, none⟩)] 82)).alloc (.cells #[.pointer (some ⟨21, 82, none⟩), .pointer (some ⟨w.heap.size, 0, none⟩), .int .u64 150] 114)) (by simp)
 have y5 := c_elemV ⟨w.heap.size, 0, none⟩ ⟨t, 0, none⟩ (((w.alloc (.cells #[.pointer (some ⟨t, 0, none⟩)] 82)).alloc (.cells #[.pointer (some ⟨21, 82, none⟩), .pointer (some ⟨w.heap.size, 0, none⟩), .int .u64 150] 114)).alloc (.cells #[.pointer (some ⟨21, 82, none⟩), .pointer (some ⟨w.heap.size, 0, none⟩), .int .u64 150] 114)) (by rw [World.cell?_alloc_lt _ _ ⟨w.heap.size, 0, none⟩ (by simp; omega)]; simp)
 have hb4 : Blk ((((w.alloc (.cells #[.pointer (some ⟨t, 0, none⟩)] 82)).alloc (.cells #[.pointer (some ⟨21, 82, none⟩), .pointer (some ⟨w.heap.size, 0, none⟩), .int .u64 150] 114)).alloc (.cells #[.pointer (some ⟨21, 82, none⟩), .pointer (some ⟨w.heap.size, 0, none⟩), .int .u64 150] 114)).alloc (.cells #[.int .i64 no, u] 80)) t 80 old := (((ht.alloc _).alloc _).alloc _).alloc _
 have y6 := c_set t (w.heap.size + 1 + 1 + 1) no u old ((((w.alloc (.cells #[.pointer (some ⟨t, 0, none⟩)] 82)).alloc (.cells #[.pointer (some ⟨21, 82, none⟩), .pointer (some ⟨w.heap.size, 0, none⟩), .int .u64 150] 114)).alloc (.cells #[.pointer (some ⟨21, 82, none⟩), .pointer (some ⟨w.heap.size, 0, none⟩), .int .u64 150] 114)).alloc (.cells #[.int .i64 no, u] 80)) hu hb4 ho (by
  have := Blk.new (((w.alloc (.cells #[.pointer (some ⟨t, 0, none⟩)] 82)).alloc (.cells #[.pointer (some ⟨21, 82, none⟩), .pointer (some ⟨w.heap.size, 0, none⟩), .int .u64 150] 114)).alloc (.cells #[.pointer (some ⟨21, 82, none⟩), .pointer (some ⟨w.heap.size, 0, none⟩), .int .u64 150] 114)) 80 #[.int .i64 no, u]
  simpa using this)
 have hlt : 8 < w.heap.size := World.block_lt_of_cell? _ _ hg
 have hg2 : ((w.alloc (.cells #[.pointer (some ⟨t, 0, none⟩)] 82)).alloc (.cells #[.pointer (some ⟨21, 82, none⟩), .pointer (some ⟨w.heap.size, 0, none⟩), .int .u64 150] 114)).cell? ⟨8, 0, none⟩ = some (.iface 151 (.agg #[.pointer (some ⟨21, 43, none⟩)])) := by
  rw [World.cell?_alloc_lt _ _ ⟨8, 0, none⟩ (by simp; omega), World.cell?_alloc_lt _ _ ⟨8, 0, none⟩ hlt]; exact hg
 have HT := zH ht
 have HB4 := zH hb4
 clear hlt ht hb4 hu ho
 go_enter Tryz.func41, Tryz.ntmps41
 go_wp2
 refine wp_loop_rounds 1 ?_
 rw [rounds_succ]
 go_wp2
 go_ret
 refine ⟨rfl, setRow_heap _ t _ _ _ _ HB4.out, ?_⟩
 refine Turn.trans ((((((Turn.refl nowhere w).alloc _).alloc _).alloc _).alloc _).mono fun _ _ e => e.elim) (G := only t) ⟨rfl, rfl, rfl, by simp, fun k hk hn => setRow_other _ t k _ hn⟩ fun _ _ e => e
structure Sents where
 (dialect type_ long map more field text bytes short : Addr)
def SenAt (W : World) (g : Nat) (a : Addr) : Prop := W.cell? ⟨g, 0, none⟩ = some (.iface 236 (.pointer (some a))) ∧ ∃ c t, W.heap[a.block]? = some (.cells c t (0, 0))
theorem SenAt.turn {W W' : World} {g : Nat} {a : Addr} (h : SenAt W g a) (ht : Turn nowhere W W') : SenAt W' g a := by
 obtain ⟨h1, c, t, h2⟩ := h
 exact ⟨(ht.cell (World.block_lt_of_cell? _ _ h1) (fun e => e)).trans h1, c, t, (ht.block a.block (Array.getElem?_eq_some_iff.1 h2).1 (fun e => e)).trans h2⟩
def rowCells : List Value := mrows.flatMap fun r => [.int .i64 r.1, .int .i64 r.2.1, .int .i64 r.2.2]
def strOf (l : List UInt8) : Value := .string ⟨l.toArray⟩
def tongCells : List Value := [.int .i64 0, strOf [], strOf [], .int .i64 1, strOf [48], strOf [], .int .i64 2, strOf [49], strOf [], .int .i64 3, strOf [57], strOf [48, 48]]
structure Sen (s : Sents) (W : World) : Prop where
 dialect : SenAt W 0 s.dialect
 type_ : SenAt W 1 s.type_
 long : SenAt W 2 s.long
 map : SenAt W 3 s.map
 more : SenAt W 4 s.more
 field : SenAt W 6 s.field
 text : SenAt W 9 s.text
 bytes : SenAt W 10 s.bytes
 short : SenAt W 11 s.short
 ne : s.more ≠ s.dialect ∧ s.more ≠ s.type_ ∧ s.more ≠ s.long ∧ s.more ≠ s.map ∧ s.map ≠ s.dialect ∧ s.map ≠ s.type_ ∧ s.map ≠ s.long ∧ s.long ≠ s.dialect ∧ s.long ≠ s.type_ ∧ s.type_ ≠ s.dialect ∧ s.field ≠ s.text ∧ s.field ≠ s.bytes ∧ s.field ≠ s.short ∧ s.short ≠ s.text ∧ s.short ≠ s.bytes ∧ s.bytes ≠ s.text
 etype : W.cell? ⟨8, 0, none⟩ = some (.iface 151 (.agg #[.pointer (some ⟨21, 43, none⟩)]))
structure Tab (W : World) : Prop where
 rows : ∃ b off c, W.cell? ⟨7, 0, none⟩ = some (.slice (some ⟨b, off, none⟩) 17 c) ∧ ∀ i v, rowCells[i]? = some v → W.cell? ⟨b, off + i, none⟩ = some v
 tongues : ∀ i v, tongCells[i]? = some v → W.cell? ⟨5, i, none⟩ = some v
theorem Sen.turn {s : Sents} {W W' : World} (h : Sen s W) (ht : Turn nowhere W W') : Sen s W' where
 dialect := h.dialect.turn ht
 type_ := h.type_.turn ht
 long := h.long.turn ht
 map := h.map.turn ht
 more := h.more.turn ht
 field := h.field.turn ht
 text := h.text.turn ht
 bytes := h.bytes.turn ht
 short := h.short.turn ht
 ne := h.ne
 etype := (ht.cell (World.block_lt_of_cell? _ _ h.etype) (fun e => e)).trans h.etype
theorem Tab.turn {W W' : World} (h : Tab W) (ht : Turn nowhere W W') : Tab W' where
 rows := by
  obtain ⟨b, off, c, h1, h2⟩ := h.rows
  exact ⟨b, off, c, (ht.cell (World.block_lt_of_cell? _ _ h1) (fun e => e)).trans h1, fun i v hv => (ht.cell (World.block_lt_of_cell? _ _ (h2 i v hv)) (fun e => e)).trans (h2 i v hv)⟩
 tongues := fun i v hv => (ht.cell (World.block_lt_of_cell? _ _ (h.tongues i v hv)) (fun e => e)).trans (h.tongues i v hv)
theorem is_eq {a : Addr} {g : Nat} {w : World} (ha : SenAt w g a) :
 Calls Tryz.prog 43 #[.iface 236 (.pointer (some a)), .iface 236 (.pointer (some a))] w fun e w' => e = .returned (.bool true) ∧ w' = w := by
 obtain ⟨_, c, t, h⟩ := ha
 have := is_any a a c c t t w h h
 rw [decide_eq_true rfl] at this
 exact this
theorem is_ne {a b : Addr} {g g' : Nat} {w : World} (ha : SenAt w g a) (hb : SenAt w g' b) (hne : a ≠ b) :
 Calls Tryz.prog 43 #[.iface 236 (.pointer (some a)), .iface 236 (.pointer (some b))] w fun e w' => e = .returned (.bool false) ∧ w' = w := by
 obtain ⟨_, c, t, h⟩ := ha
 obtain ⟨_, c', t', h'⟩ := hb
 have := is_any a b c c' t t' w h h'
 rw [decide_eq_false hne] at this
 exact this
theorem fe_eq {no : Int} {a : Addr} {g : Nat} {w : World} (ha : SenAt w g a) :
 Calls Tryz.prog 43 #[.iface 80 (.agg #[.int .i64 no, .iface 236 (.pointer (some a))]), .iface 236 (.pointer (some a))] w fun e w' => e = .returned (.bool true) ∧ Turn nowhere w w' := by
 obtain ⟨_, c, t, h⟩ := ha
 have := is_fe no a a c c t t w h h
 rw [decide_eq_true rfl] at this
 exact this
theorem fe_ne {no : Int} {a b : Addr} {g g' : Nat} {w : World} (ha : SenAt w g a) (hb : SenAt w g' b) (hne : a ≠ b) :
 Calls Tryz.prog 43 #[.iface 80 (.agg #[.int .i64 no, .iface 236 (.pointer (some a))]), .iface 236 (.pointer (some b))] w fun e w' => e = .returned (.bool false) ∧ Turn nowhere w w' := by
 obtain ⟨_, c, t, h⟩ := ha
 obtain ⟨_, c', t', h'⟩ := hb
 have := is_fe no a b c c' t t' w h h'
 rw [decide_eq_false hne] at this
 exact this
theorem tellField_field {s : Sents} {w : World} (no : Int) (hs : Sen s w) :
 Calls Tryz.prog 42 #[.agg #[.int .i64 no, .iface 236 (.pointer (some s.field))]] w fun e w' => e = .returned (.int .i64 52) ∧ Turn nowhere w w' := by
 have HS := zH hs
 have HNE := zH hs.ne
 clear hs
 go_enter Tryz.func42, Tryz.ntmps42
 go_upto_region 1 with fail
 have ht0 := (Turn.refl nowhere w).alloc (.cells #[.int .i64 no, .iface 236 (.pointer (some s.field))] 80)
 have hb0 := Blk.new w 80 #[.int .i64 no, .iface 236 (.pointer (some s.field))]
 generalize World.alloc w _ = w0 at *
 obtain ⟨b0, hb00⟩ : ∃ b0, b0 = w.heap.size := ⟨_, rfl⟩
 rw [← hb00] at hb0 ⊢
 clear hb00
 have HT := zH ht0
 have HB := zH hb0
 clear ht0 hb0
 have c0 : w0.cell? ⟨b0, 0, none⟩ = some (.int .i64 no) := HB.out.cell 0
 have c1 : w0.cell? ⟨b0, 1, none⟩ = some (.iface 236 (.pointer (some s.field))) := HB.out.cell 1
 have cg : w0.cell? ⟨9, 0, none⟩ = some (.iface 236 (.pointer (some s.text))) := (HS.out.turn HT.out).text.1
 go_upto_region 3 with (go_at_call 43; refine (fe_ne (HS.out.turn HT.out).field (HS.out.turn HT.out).text HNE.out.2.2.2.2.2.2.2.2.2.2.1).mono ?_; rintro e w1 ⟨rfl, ht1⟩)
 have HT1 := zH (HT.out.next ht1)
 have HB1 := zH (HB.out.turn ht1 (fun e => e))
 clear ht1 c0 c1 cg HT HB
 have HT := HT1
 have HB := HB1
 clear HT1 HB1
 have c0 : w1.cell? ⟨b0, 0, none⟩ = some (.int .i64 no) := HB.out.cell 0
 have c1 : w1.cell? ⟨b0, 1, none⟩ = some (.iface 236 (.pointer (some s.field))) := HB.out.cell 1
 have cg : w1.cell? ⟨10, 0, none⟩ = some (.iface 236 (.pointer (some s.bytes))) := (HS.out.turn HT.out).bytes.1
 go_upto_region 5 with (go_at_call 43; refine (fe_ne (HS.out.turn HT.out).field (HS.out.turn HT.out).bytes HNE.out.2.2.2.2.2.2.2.2.2.2.2.1).mono ?_; rintro e w2 ⟨rfl, ht2⟩)
 have HT2 := zH (HT.out.next ht2)
 have HB2 := zH (HB.out.turn ht2 (fun e => e))
 clear ht2 c0 c1 cg HT HB
 have HT := HT2
 have HB := HB2
 clear HT2 HB2
 have c0 : w2.cell? ⟨b0, 0, none⟩ = some (.int .i64 no) := HB.out.cell 0
 have c1 : w2.cell? ⟨b0, 1, none⟩ = some (.iface 236 (.pointer (some s.field))) := HB.out.cell 1
 have cg : w2.cell? ⟨11, 0, none⟩ = some (.iface 236 (.pointer (some s.short))) := (HS.out.turn HT.out).short.1
 go_upto_region 7 with (go_at_call 43; refine (fe_ne (HS.out.turn HT.out).field (HS.out.turn HT.out).short HNE.out.2.2.2.2.2.2.2.2.2.2.2.2.1).mono ?_; rintro e w3 ⟨rfl, ht3⟩)
 have HT3 := zH (HT.out.next ht3)
 have HB3 := zH (HB.out.turn ht3 (fun e => e))
 clear ht3 c0 c1 cg HT HB
 have HT := HT3
 have HB := HB3
 clear HT3 HB3
 go_wp2_with fail
 go_ret
 exact ⟨rfl, HT.out⟩
theorem tellField_text {s : Sents} {w : World} (no : Int) (hs : Sen s w) :
 Calls Tryz.prog 42 #[.agg #[.int .i64 no, .iface 236 (.pointer (some s.text))]] w fun e w' => e = .returned (.int .i64 41) ∧ Turn nowhere w w' := by
 have HS := zH hs
 have HNE := zH hs.ne
 clear hs
 go_enter Tryz.func42, Tryz.ntmps42
 go_upto_region 1 with fail
 have ht0 := (Turn.refl nowhere w).alloc (.cells #[.int .i64 no, .iface 236 (.pointer (some s.text))] 80)
 have hb0 := Blk.new w 80 #[.int .i64 no, .iface 236 (.pointer (some s.text))]
 generalize World.alloc w _ = w0 at *
 obtain ⟨b0, hb00⟩ : ∃ b0, b0 = w.heap.size := ⟨_, rfl⟩
 rw [← hb00] at hb0 ⊢
 clear hb00
 have HT := zH ht0
 have HB := zH hb0
 clear ht0 hb0
 have c0 : w0.cell? ⟨b0, 0, none⟩ = some (.int .i64 no) := HB.out.cell 0
 have c1 : w0.cell? ⟨b0, 1, none⟩ = some (.iface 236 (.pointer (some s.text))) := HB.out.cell 1
 have cg : w0.cell? ⟨9, 0, none⟩ = some (.iface 236 (.pointer (some s.text))) := (HS.out.turn HT.out).text.1
 go_upto_region 2 with (go_at_call 43; refine (fe_eq (HS.out.turn HT.out).text).mono ?_; rintro e w1 ⟨rfl, ht1⟩)
 have HT1 := zH (HT.out.next ht1)
 have HB1 := zH (HB.out.turn ht1 (fun e => e))
 clear ht1 c0 c1 cg HT HB
 have HT := HT1
 have HB := HB1
 clear HT1 HB1
 go_wp2_with fail
 go_ret
 exact ⟨rfl, HT.out⟩
theorem tellField_bytes {s : Sents} {w : World} (no : Int) (hs : Sen s w) :
 Calls Tryz.prog 42 #[.agg #[.int .i64 no, .iface 236 (.pointer (some s.bytes))]] w fun e w' => e = .returned (.int .i64 42) ∧ Turn nowhere w w' := by
 have HS := zH hs
 have HNE := zH hs.ne
 clear hs
 go_enter Tryz.func42, Tryz.ntmps42
 go_upto_region 1 with fail
 have ht0 := (Turn.refl nowhere w).alloc (.cells #[.int .i64 no, .iface 236 (.pointer (some s.bytes))] 80)
 have hb0 := Blk.new w 80 #[.int .i64 no, .iface 236 (.pointer (some s.bytes))]
 generalize World.alloc w _ = w0 at *
 obtain ⟨b0, hb00⟩ : ∃ b0, b0 = w.heap.size := ⟨_, rfl⟩
 rw [← hb00] at hb0 ⊢
 clear hb00
 have HT := zH ht0
 have HB := zH hb0
 clear ht0 hb0
 have c0 : w0.cell? ⟨b0, 0, none⟩ = some (.int .i64 no) := HB.out.cell 0
 have c1 : w0.cell? ⟨b0, 1, none⟩ = some (.iface 236 (.pointer (some s.bytes))) := HB.out.cell 1
 have cg : w0.cell? ⟨9, 0, none⟩ = some (.iface 236 (.pointer (some s.text))) := (HS.out.turn HT.out).text.1
 go_upto_region 3 with (go_at_call 43; refine (fe_ne (HS.out.turn HT.out).bytes (HS.out.turn HT.out).text HNE.out.2.2.2.2.2.2.2.2.2.2.2.2.2.2.2).mono ?_; rintro e w1 ⟨rfl, ht1⟩)
 have HT1 := zH (HT.out.next ht1)
 have HB1 := zH (HB.out.turn ht1 (fun e => e))
 clear ht1 c0 c1 cg HT HB
 have HT := HT1
 have HB := HB1
 clear HT1 HB1
 have c0 : w1.cell? ⟨b0, 0, none⟩ = some (.int .i64 no) := HB.out.cell 0
 have c1 : w1.cell? ⟨b0, 1, none⟩ = some (.iface 236 (.pointer (some s.bytes))) := HB.out.cell 1
 have cg : w1.cell? ⟨10, 0, none⟩ = some (.iface 236 (.pointer (some s.bytes))) := (HS.out.turn HT.out).bytes.1
 go_upto_region 4 with (go_at_call 43; refine (fe_eq (HS.out.turn HT.out).bytes).mono ?_; rintro e w2 ⟨rfl, ht2⟩)
 have HT2 := zH (HT.out.next ht2)
 have HB2 := zH (HB.out.turn ht2 (fun e => e))
 clear ht2 c0 c1 cg HT HB
 have HT := HT2
 have HB := HB2
 clear HT2 HB2
 go_wp2_with fail
 go_ret
 exact ⟨rfl, HT.out⟩
theorem tellField_short {s : Sents} {w : World} (no : Int) (hs : Sen s w) :
 Calls Tryz.prog 42 #[.agg #[.int .i64 no, .iface 236 (.pointer (some s.short))]] w fun e w' => e = .returned (.int .i64 43) ∧ Turn nowhere w w' := by
 have HS := zH hs
 have HNE := zH hs.ne
 clear hs
 go_enter Tryz.func42, Tryz.ntmps42
 go_upto_region 1 with fail
 have ht0 := (Turn.refl nowhere w).alloc (.cells #[.int .i64 no, .iface 236 (.pointer (some s.short))] 80)
 have hb0 := Blk.new w 80 #[.int .i64 no, .iface 236 (.pointer (some s.short))]
 generalize World.alloc w _ = w0 at *
 obtain ⟨b0, hb00⟩ : ∃ b0, b0 = w.heap.size := ⟨_, rfl⟩
 rw [← hb00] at hb0 ⊢
 clear hb00
 have HT := zH ht0
 have HB := zH hb0
 clear ht0 hb0
 have c0 : w0.cell? ⟨b0, 0, none⟩ = some (.int .i64 no) := HB.out.cell 0
 have c1 : w0.cell? ⟨b0, 1, none⟩ = some (.iface 236 (.pointer (some s.short))) := HB.out.cell 1
 have cg : w0.cell? ⟨9, 0, none⟩ = some (.iface 236 (.pointer (some s.text))) := (HS.out.turn HT.out).text.1
 go_upto_region 3 with (go_at_call 43; refine (fe_ne (HS.out.turn HT.out).short (HS.out.turn HT.out).text HNE.out.2.2.2.2.2.2.2.2.2.2.2.2.2.1).mono ?_; rintro e w1 ⟨rfl, ht1⟩)
 have HT1 := zH (HT.out.next ht1)
 have HB1 := zH (HB.out.turn ht1 (fun e => e))
 clear ht1 c0 c1 cg HT HB
 have HT := HT1
 have HB := HB1
 clear HT1 HB1
 have c0 : w1.cell? ⟨b0, 0, none⟩ = some (.int .i64 no) := HB.out.cell 0
 have c1 : w1.cell? ⟨b0, 1, none⟩ = some (.iface 236 (.pointer (some s.short))) := HB.out.cell 1
 have cg : w1.cell? ⟨10, 0, none⟩ = some (.iface 236 (.pointer (some s.bytes))) := (HS.out.turn HT.out).bytes.1
 go_upto_region 5 with (go_at_call 43; refine (fe_ne (HS.out.turn HT.out).short (HS.out.turn HT.out).bytes HNE.out.2.2.2.2.2.2.2.2.2.2.2.2.2.2.1).mono ?_; rintro e w2 ⟨rfl, ht2⟩)
 have HT2 := zH (HT.out.next ht2)
 have HB2 := zH (HB.out.turn ht2 (fun e => e))
 clear ht2 c0 c1 cg HT HB
 have HT := HT2
 have HB := HB2
 clear HT2 HB2
 have c0 : w2.cell? ⟨b0, 0, none⟩ = some (.int .i64 no) := HB.out.cell 0
 have c1 : w2.cell? ⟨b0, 1, none⟩ = some (.iface 236 (.pointer (some s.short))) := HB.out.cell 1
 have cg : w2.cell? ⟨11, 0, none⟩ = some (.iface 236 (.pointer (some s.short))) := (HS.out.turn HT.out).short.1
 go_upto_region 6 with (go_at_call 43; refine (fe_eq (HS.out.turn HT.out).short).mono ?_; rintro e w3 ⟨rfl, ht3⟩)
 have HT3 := zH (HT.out.next ht3)
 have HB3 := zH (HB.out.turn ht3 (fun e => e))
 clear ht3 c0 c1 cg HT HB
 have HT := HT3
 have HB := HB3
 clear HT3 HB3
 go_wp2_with fail
 go_ret
 exact ⟨rfl, HT.out⟩
theorem tell_dialect {s : Sents} {w : World} (hs : Sen s w) :
 Calls Tryz.prog 20 #[.iface 236 (.pointer (some s.dialect))] w fun e w' => e = .returned (.int .i64 50) ∧ Turn nowhere w w' := by
 have HS := zH hs
 have HNE := zH hs.ne
 clear hs
 go_enter Tryz.func20, Tryz.ntmps20
 go_upto_region 2 with fail
 have ht0 := (Turn.refl nowhere w).alloc (.cells #[.int .i64 0, .nilIface] 80)
 have hb0 := Blk.new w 80 #[.int .i64 0, .nilIface]
 have hg0 : w.heap.size = w.heap.size := rfl
 generalize World.alloc w _ = w0 at *
 obtain ⟨b0, hb00⟩ : ∃ b0, b0 = w.heap.size := ⟨_, rfl⟩
 rw [← hb00] at hb0 ⊢
 have HG := zH hb00
 have HT := zH ht0
 have HB := zH hb0
 clear ht0 hb0 hb00 hg0
 have he := (HS.out.turn HT.out).etype
 go_upto_region 4 with (go_at_call 41; refine (as_miss s.dialect ⟨b0, 0, none⟩ _ he).mono ?_; rintro e w1 ⟨rfl, ht1⟩)
 have HT1 := zH (HT.out.next ht1)
 clear ht1 he HT HB
 have HT := HT1
 clear HT1
 have cg : w1.cell? ⟨0, 0, none⟩ = some (.iface 236 (.pointer (some s.dialect))) := (HS.out.turn HT.out).dialect.1
 go_upto_region 5 with (go_at_call 43; refine (is_eq (HS.out.turn HT.out).dialect).mono ?_; rintro e w1 ⟨rfl, rfl⟩)
 clear cg
 go_wp2_with fail
 go_ret
 exact ⟨rfl, HT.out⟩
theorem tell_type_ {s : Sents} {w : World} (hs : Sen s w) :
 Calls Tryz.prog 20 #[.iface 236 (.pointer (some s.type_))] w fun e w' => e = .returned (.int .i64 51) ∧ Turn nowhere w w' := by
 have HS := zH hs
 have HNE := zH hs.ne
 clear hs
 go_enter Tryz.func20, Tryz.ntmps20
 go_upto_region 2 with fail
 have ht0 := (Turn.refl nowhere w).alloc (.cells #[.int .i64 0, .nilIface] 80)
 have hb0 := Blk.new w 80 #[.int .i64 0, .nilIface]
 have hg0 : w.heap.size = w.heap.size := rfl
 generalize World.alloc w _ = w0 at *
 obtain ⟨b0, hb00⟩ : ∃ b0, b0 = w.heap.size := ⟨_, rfl⟩
 rw [← hb00] at hb0 ⊢
 have HG := zH hb00
 have HT := zH ht0
 have HB := zH hb0
 clear ht0 hb0 hb00 hg0
 have he := (HS.out.turn HT.out).etype
 go_upto_region 4 with (go_at_call 41; refine (as_miss s.type_ ⟨b0, 0, none⟩ _ he).mono ?_; rintro e w1 ⟨rfl, ht1⟩)
 have HT1 := zH (HT.out.next ht1)
 clear ht1 he HT HB
 have HT := HT1
 clear HT1
 have cg : w1.cell? ⟨0, 0, none⟩ = some (.iface 236 (.pointer (some s.dialect))) := (HS.out.turn HT.out).dialect.1
 go_upto_region 6 with (go_at_call 43; refine (is_ne (HS.out.turn HT.out).type_ (HS.out.turn HT.out).dialect HNE.out.2.2.2.2.2.2.2.2.2.1).mono ?_; rintro e w1 ⟨rfl, rfl⟩)
 clear cg
 have cg : w1.cell? ⟨1, 0, none⟩ = some (.iface 236 (.pointer (some s.type_))) := (HS.out.turn HT.out).type_.1
 go_upto_region 7 with (go_at_call 43; refine (is_eq (HS.out.turn HT.out).type_).mono ?_; rintro e w1 ⟨rfl, rfl⟩)
 clear cg
 go_wp2_with fail
 go_ret
 exact ⟨rfl, HT.out⟩
theorem tell_long {s : Sents} {w : World} (hs : Sen s w) :
 Calls Tryz.prog 20 #[.iface 236 (.pointer (some s.long))] w fun e w' => e = .returned (.int .i64 5) ∧ Turn nowhere w w' := by
 have HS := zH hs
 have HNE := zH hs.ne
 clear hs
 go_enter Tryz.func20, Tryz.ntmps20
 go_upto_region 2 with fail
 have ht0 := (Turn.refl nowhere w).alloc (.cells #[.int .i64 0, .nilIface] 80)
 have hb0 := Blk.new w 80 #[.int .i64 0, .nilIface]
 have hg0 : w.heap.size = w.heap.size := rfl
 generalize World.alloc w _ = w0 at *
 obtain ⟨b0, hb00⟩ : ∃ b0, b0 = w.heap.size := ⟨_, rfl⟩
 rw [← hb00] at hb0 ⊢
 have HG := zH hb00
 have HT := zH ht0
 have HB := zH hb0
 clear ht0 hb0 hb00 hg0
 have he := (HS.out.turn HT.out).etype
 go_upto_region 4 with (go_at_call 41; refine (as_miss s.long ⟨b0, 0, none⟩ _ he).mono ?_; rintro e w1 ⟨rfl, ht1⟩)
 have HT1 := zH (HT.out.next ht1)
 clear ht1 he HT HB
 have HT := HT1
 clear HT1
 have cg : w1.cell? ⟨0, 0, none⟩ = some (.iface 236 (.pointer (some s.dialect))) := (HS.out.turn HT.out).dialect.1
 go_upto_region 6 with (go_at_call 43; refine (is_ne (HS.out.turn HT.out).long (HS.out.turn HT.out).dialect HNE.out.2.2.2.2.2.2.2.1).mono ?_; rintro e w1 ⟨rfl, rfl⟩)
 clear cg
 have cg : w1.cell? ⟨1, 0, none⟩ = some (.iface 236 (.pointer (some s.type_))) := (HS.out.turn HT.out).type_.1
 go_upto_region 8 with (go_at_call 43; refine (is_ne (HS.out.turn HT.out).long (HS.out.turn HT.out).type_ HNE.out.2.2.2.2.2.2.2.2.1).mono ?_; rintro e w1 ⟨rfl, rfl⟩)
 clear cg
 have cg : w1.cell? ⟨2, 0, none⟩ = some (.iface 236 (.pointer (some s.long))) := (HS.out.turn HT.out).long.1
 go_upto_region 9 with (go_at_call 43; refine (is_eq (HS.out.turn HT.out).long).mono ?_; rintro e w1 ⟨rfl, rfl⟩)
 clear cg
 go_wp2_with fail
 go_ret
 exact ⟨rfl, HT.out⟩
theorem tell_map {s : Sents} {w : World} (hs : Sen s w) :
 Calls Tryz.prog 20 #[.iface 236 (.pointer (some s.map))] w fun e w' => e = .returned (.int .i64 53) ∧ Turn nowhere w w' := by
 have HS := zH hs
 have HNE := zH hs.ne
 clear hs
 go_enter Tryz.func20, Tryz.ntmps20
 go_upto_region 2 with fail
 have ht0 := (Turn.refl nowhere w).alloc (.cells #[.int .i64 0, .nilIface] 80)
 have hb0 := Blk.new w 80 #[.int .i64 0, .nilIface]
 have hg0 : w.heap.size = w.heap.size := rfl
 generalize World.alloc w _ = w0 at *
 obtain ⟨b0, hb00⟩ : ∃ b0, b0 = w.heap.size := ⟨_, rfl⟩
 rw [← hb00] at hb0 ⊢
 have HG := zH hb00
 have HT := zH ht0
 have HB := zH hb0
 clear ht0 hb0 hb00 hg0
 have he := (HS.out.turn HT.out).etype
 go_upto_region 4 with (go_at_call 41; refine (as_miss s.map ⟨b0, 0, none⟩ _ he).mono ?_; rintro e w1 ⟨rfl, ht1⟩)
 have HT1 := zH (HT.out.next ht1)
 clear ht1 he HT HB
 have HT := HT1
 clear HT1
 have cg : w1.cell? ⟨0, 0, none⟩ = some (.iface 236 (.pointer (some s.dialect))) := (HS.out.turn HT.out).dialect.1
 go_upto_region 6 with (go_at_call 43; refine (is_ne (HS.out.turn HT.out).map (HS.out.turn HT.out).dialect HNE.out.2.2.2.2.1).mono ?_; rintro e w1 ⟨rfl, rfl⟩)
 clear cg
 have cg : w1.cell? ⟨1, 0, none⟩ = some (.iface 236 (.pointer (some s.type_))) := (HS.out.turn HT.out).type_.1
 go_upto_region 8 with (go_at_call 43; refine (is_ne (HS.out.turn HT.out).map (HS.out.turn HT.out).type_ HNE.out.2.2.2.2.2.1).mono ?_; rintro e w1 ⟨rfl, rfl⟩)
 clear cg
 have cg : w1.cell? ⟨2, 0, none⟩ = some (.iface 236 (.pointer (some s.long))) := (HS.out.turn HT.out).long.1
 go_upto_region 10 with (go_at_call 43; refine (is_ne (HS.out.turn HT.out).map (HS.out.turn HT.out).long HNE.out.2.2.2.2.2.2.1).mono ?_; rintro e w1 ⟨rfl, rfl⟩)
 clear cg
 have cg : w1.cell? ⟨3, 0, none⟩ = some (.iface 236 (.pointer (some s.map))) := (HS.out.turn HT.out).map.1
 go_upto_region 11 with (go_at_call 43; refine (is_eq (HS.out.turn HT.out).map).mono ?_; rintro e w1 ⟨rfl, rfl⟩)
 clear cg
 go_wp2_with fail
 go_ret
 exact ⟨rfl, HT.out⟩
theorem tell_more {s : Sents} {w : World} (hs : Sen s w) :
 Calls Tryz.prog 20 #[.iface 236 (.pointer (some s.more))] w fun e w' => e = .returned (.int .i64 54) ∧ Turn nowhere w w' := by
 have HS := zH hs
 have HNE := zH hs.ne
 clear hs
 go_enter Tryz.func20, Tryz.ntmps20
 go_upto_region 2 with fail
 have ht0 := (Turn.refl nowhere w).alloc (.cells #[.int .i64 0, .nilIface] 80)
 have hb0 := Blk.new w 80 #[.int .i64 0, .nilIface]
 have hg0 : w.heap.size = w.heap.size := rfl
 generalize World.alloc w _ = w0 at *
 obtain ⟨b0, hb00⟩ : ∃ b0, b0 = w.heap.size := ⟨_, rfl⟩
 rw [← hb00] at hb0 ⊢
 have HG := zH hb00
 have HT := zH ht0
 have HB := zH hb0
 clear ht0 hb0 hb00 hg0
 have he := (HS.out.turn HT.out).etype
 go_upto_region 4 with (go_at_call 41; refine (as_miss s.more ⟨b0, 0, none⟩ _ he).mono ?_; rintro e w1 ⟨rfl, ht1⟩)
 have HT1 := zH (HT.out.next ht1)
 clear ht1 he HT HB
 have HT := HT1
 clear HT1
 have cg : w1.cell? ⟨0, 0, none⟩ = some (.iface 236 (.pointer (some s.dialect))) := (HS.out.turn HT.out).dialect.1
 go_upto_region 6 with (go_at_call 43; refine (is_ne (HS.out.turn HT.out).more (HS.out.turn HT.out).dialect HNE.out.1).mono ?_; rintro e w1 ⟨rfl, rfl⟩)
 clear cg
 have cg : w1.cell? ⟨1, 0, none⟩ = some (.iface 236 (.pointer (some s.type_))) := (HS.out.turn HT.out).type_.1
 go_upto_region 8 with (go_at_call 43; refine (is_ne (HS.out.turn HT.out).more (HS.out.turn HT.out).type_ HNE.out.2.1).mono ?_; rintro e w1 ⟨rfl, rfl⟩)
 clear cg
 have cg : w1.cell? ⟨2, 0, none⟩ = some (.iface 236 (.pointer (some s.long))) := (HS.out.turn HT.out).long.1
 go_upto_region 10 with (go_at_call 43; refine (is_ne (HS.out.turn HT.out).more (HS.out.turn HT.out).long HNE.out.2.2.1).mono ?_; rintro e w1 ⟨rfl, rfl⟩)
 clear cg
 have cg : w1.cell? ⟨3, 0, none⟩ = some (.iface 236 (.pointer (some s.map))) := (HS.out.turn HT.out).map.1
 go_upto_region 12 with (go_at_call 43; refine (is_ne (HS.out.turn HT.out).more (HS.out.turn HT.out).map HNE.out.2.2.2.1).mono ?_; rintro e w1 ⟨rfl, rfl⟩)
 clear cg
 have cg : w1.cell? ⟨4, 0, none⟩ = some (.iface 236 (.pointer (some s.more))) := (HS.out.turn HT.out).more.1
 go_upto_region 13 with (go_at_call 43; refine (is_eq (HS.out.turn HT.out).more).mono ?_; rintro e w1 ⟨rfl, rfl⟩)
 clear cg
 go_wp2_with fail
 go_ret
 exact ⟨rfl, HT.out⟩
theorem tell_field {s : Sents} {w : World} (no : Int) (hs : Sen s w) :
 Calls Tryz.prog 20 #[.iface 80 (.agg #[.int .i64 no, .iface 236 (.pointer (some s.field))])] w fun e w' => e = .returned (.int .i64 52) ∧ Turn nowhere w w' := by
 have HS := zH hs
 have HNE := zH hs.ne
 clear hs
 go_enter Tryz.func20, Tryz.ntmps20
 go_upto_region 2 with fail
 have ht0 := (Turn.refl nowhere w).alloc (.cells #[.int .i64 0, .nilIface] 80)
 have hb0 := Blk.new w 80 #[.int .i64 0, .nilIface]
 have hg0 : w.heap.size = w.heap.size := rfl
 generalize World.alloc w _ = w0 at *
 obtain ⟨b0, hb00⟩ : ∃ b0, b0 = w.heap.size := ⟨_, rfl⟩
 rw [← hb00] at hb0 ⊢
 have HG := zH hb00
 have HT := zH ht0
 have HB := zH hb0
 clear ht0 hb0 hb00 hg0
 have he := (HS.out.turn HT.out).etype
 go_upto_region 3 with (go_at_call 41; refine (as_hit no (.iface 236 (.pointer (some s.field))) b0 #[.int .i64 0, .nilIface] _ rfl he HB.out rfl).mono ?_; rintro e w1 ⟨rfl, hb1, ht1⟩)
 have HT1 := zH (HT.out.trans (ht1.mono (G := fun k => k = b0) fun _ _ e => e) (fun k hk e => by
  have := HG.out
  have e : k = b0 := e
  omega))
 have c0 : w1.cell? ⟨b0, 0, none⟩ = some (.int .i64 no) := hb1.cell 0
 have c1 : w1.cell? ⟨b0, 1, none⟩ = some (.iface 236 (.pointer (some s.field))) := hb1.cell 1
 clear ht1 he HT HB hb1
 go_wp2_with (go_at_call 42; refine (tellField_field no (HS.out.turn HT1.out)).mono ?_; rintro e w2 ⟨rfl, ht2⟩)
 go_ret
 exact ⟨rfl, HT1.out.next ht2⟩
theorem tell_text {s : Sents} {w : World} (no : Int) (hs : Sen s w) :
 Calls Tryz.prog 20 #[.iface 80 (.agg #[.int .i64 no, .iface 236 (.pointer (some s.text))])] w fun e w' => e = .returned (.int .i64 41) ∧ Turn nowhere w w' := by
 have HS := zH hs
 have HNE := zH hs.ne
 clear hs
 go_enter Tryz.func20, Tryz.ntmps20
 go_upto_region 2 with fail
 have ht0 := (Turn.refl nowhere w).alloc (.cells #[.int .i64 0, .nilIface] 80)
 have hb0 := Blk.new w 80 #[.int .i64 0, .nilIface]
 have hg0 : w.heap.size = w.heap.size := rfl
 generalize World.alloc w _ = w0 at *
 obtain ⟨b0, hb00⟩ : ∃ b0, b0 = w.heap.size := ⟨_, rfl⟩
 rw [← hb00] at hb0 ⊢
 have HG := zH hb00
 have HT := zH ht0
 have HB := zH hb0
 clear ht0 hb0 hb00 hg0
 have he := (HS.out.turn HT.out).etype
 go_upto_region 3 with (go_at_call 41; refine (as_hit no (.iface 236 (.pointer (some s.text))) b0 #[.int .i64 0, .nilIface] _ rfl he HB.out rfl).mono ?_; rintro e w1 ⟨rfl, hb1, ht1⟩)
 have HT1 := zH (HT.out.trans (ht1.mono (G := fun k => k = b0) fun _ _ e => e) (fun k hk e => by
  have := HG.out
  have e : k = b0 := e
  omega))
 have c0 : w1.cell? ⟨b0, 0, none⟩ = some (.int .i64 no) := hb1.cell 0
 have c1 : w1.cell? ⟨b0, 1, none⟩ = some (.iface 236 (.pointer (some s.text))) := hb1.cell 1
 clear ht1 he HT HB hb1
 go_wp2_with (go_at_call 42; refine (tellField_text no (HS.out.turn HT1.out)).mono ?_; rintro e w2 ⟨rfl, ht2⟩)
 go_ret
 exact ⟨rfl, HT1.out.next ht2⟩
theorem tell_bytes {s : Sents} {w : World} (no : Int) (hs : Sen s w) :
 Calls Tryz.prog 20 #[.iface 80 (.agg #[.int .i64 no, .iface 236 (.pointer (some s.bytes))])] w fun e w' => e = .returned (.int .i64 42) ∧ Turn nowhere w w' := by
 have HS := zH hs
 have HNE := zH hs.ne
 clear hs
 go_enter Tryz.func20, Tryz.ntmps20
 go_upto_region 2 with fail
 have ht0 := (Turn.refl nowhere w).alloc (.cells #[.int .i64 0, .nilIface] 80)
 have hb0 := Blk.new w 80 #[.int .i64 0, .nilIface]
 have hg0 : w.heap.size = w.heap.size := rfl
 generalize World.alloc w _ = w0 at *
 obtain ⟨b0, hb00⟩ : ∃ b0, b0 = w.heap.size := ⟨_, rfl⟩
 rw [← hb00] at hb0 ⊢
 have HG := zH hb00
 have HT := zH ht0
 have HB := zH hb0
 clear ht0 hb0 hb00 hg0
 have he := (HS.out.turn HT.out).etype
 go_upto_region 3 with (go_at_call 41; refine (as_hit no (.iface 236 (.pointer (some s.bytes))) b0 #[.int .i64 0, .nilIface] _ rfl he HB.out rfl).mono ?_; rintro e w1 ⟨rfl, hb1, ht1⟩)
 have HT1 := zH (HT.out.trans (ht1.mono (G := fun k => k = b0) fun _ _ e => e) (fun k hk e => by
  have := HG.out
  have e : k = b0 := e
  omega))
 have c0 : w1.cell? ⟨b0, 0, none⟩ = some (.int .i64 no) := hb1.cell 0
 have c1 : w1.cell? ⟨b0, 1, none⟩ = some (.iface 236 (.pointer (some s.bytes))) := hb1.cell 1
 clear ht1 he HT HB hb1
 go_wp2_with (go_at_call 42; refine (tellField_bytes no (HS.out.turn HT1.out)).mono ?_; rintro e w2 ⟨rfl, ht2⟩)
 go_ret
 exact ⟨rfl, HT1.out.next ht2⟩
theorem tell_short {s : Sents} {w : World} (no : Int) (hs : Sen s w) :
 Calls Tryz.prog 20 #[.iface 80 (.agg #[.int .i64 no, .iface 236 (.pointer (some s.short))])] w fun e w' => e = .returned (.int .i64 43) ∧ Turn nowhere w w' := by
 have HS := zH hs
 have HNE := zH hs.ne
 clear hs
 go_enter Tryz.func20, Tryz.ntmps20
 go_upto_region 2 with fail
 have ht0 := (Turn.refl nowhere w).alloc (.cells #[.int .i64 0, .nilIface] 80)
 have hb0 := Blk.new w 80 #[.int .i64 0, .nilIface]
 have hg0 : w.heap.size = w.heap.size := rfl
 generalize World.alloc w _ = w0 at *
 obtain ⟨b0, hb00⟩ : ∃ b0, b0 = w.heap.size := ⟨_, rfl⟩
 rw [← hb00] at hb0 ⊢
 have HG := zH hb00
 have HT := zH ht0
 have HB := zH hb0
 clear ht0 hb0 hb00 hg0
 have he := (HS.out.turn HT.out).etype
 go_upto_region 3 with (go_at_call 41; refine (as_hit no (.iface 236 (.pointer (some s.short))) b0 #[.int .i64 0, .nilIface] _ rfl he HB.out rfl).mono ?_; rintro e w1 ⟨rfl, hb1, ht1⟩)
 have HT1 := zH (HT.out.trans (ht1.mono (G := fun k => k = b0) fun _ _ e => e) (fun k hk e => by
  have := HG.out
  have e : k = b0 := e
  omega))
 have c0 : w1.cell? ⟨b0, 0, none⟩ = some (.int .i64 no) := hb1.cell 0
 have c1 : w1.cell? ⟨b0, 1, none⟩ = some (.iface 236 (.pointer (some s.short))) := hb1.cell 1
 clear ht1 he HT HB hb1
 go_wp2_with (go_at_call 42; refine (tellField_short no (HS.out.turn HT1.out)).mono ?_; rintro e w2 ⟨rfl, ht2⟩)
 go_ret
 exact ⟨rfl, HT1.out.next ht2⟩
theorem tell_nil {s : Sents} {w : World} (hs : Sen s w) :
 Calls Tryz.prog 20 #[.nilIface] w fun e w' => e = .returned (.int .i64 0) ∧ Turn nowhere w w' := by
 have HS := zH hs
 have HNE := zH hs.ne
 clear hs
 go_enter Tryz.func20, Tryz.ntmps20
 go_upto_region 2 with fail
 have ht0 := (Turn.refl nowhere w).alloc (.cells #[.int .i64 0, .nilIface] 80)
 have hb0 := Blk.new w 80 #[.int .i64 0, .nilIface]
 have hg0 : w.heap.size = w.heap.size := rfl
 generalize World.alloc w _ = w0 at *
 obtain ⟨b0, hb00⟩ : ∃ b0, b0 = w.heap.size := ⟨_, rfl⟩
 rw [← hb00] at hb0 ⊢
 have HG := zH hb00
 have HT := zH ht0
 have HB := zH hb0
 clear ht0 hb0 hb00 hg0
 go_upto_region 4 with (go_at_call 41; refine (as_nil _ _).mono ?_; rintro e w1 ⟨rfl, rfl⟩)
 clear HB
 have cg : w1.cell? ⟨0, 0, none⟩ = some (.iface 236 (.pointer (some s.dialect))) := (HS.out.turn HT.out).dialect.1
 go_upto_region 6 with (go_at_call 43; refine (is_nil s.dialect _).mono ?_; rintro e w1 ⟨rfl, rfl⟩)
 clear cg
 have cg : w1.cell? ⟨1, 0, none⟩ = some (.iface 236 (.pointer (some s.type_))) := (HS.out.turn HT.out).type_.1
 go_upto_region 8 with (go_at_call 43; refine (is_nil s.type_ _).mono ?_; rintro e w1 ⟨rfl, rfl⟩)
 clear cg
 have cg : w1.cell? ⟨2, 0, none⟩ = some (.iface 236 (.pointer (some s.long))) := (HS.out.turn HT.out).long.1
 go_upto_region 10 with (go_at_call 43; refine (is_nil s.long _).mono ?_; rintro e w1 ⟨rfl, rfl⟩)
 clear cg
 have cg : w1.cell? ⟨3, 0, none⟩ = some (.iface 236 (.pointer (some s.map))) := (HS.out.turn HT.out).map.1
 go_upto_region 12 with (go_at_call 43; refine (is_nil s.map _).mono ?_; rintro e w1 ⟨rfl, rfl⟩)
 clear cg
 have cg : w1.cell? ⟨4, 0, none⟩ = some (.iface 236 (.pointer (some s.more))) := (HS.out.turn HT.out).more.1
 go_upto_region 14 with (go_at_call 43; refine (is_nil s.more _).mono ?_; rintro e w1 ⟨rfl, rfl⟩)
 clear cg
 go_wp2_with fail
 go_ret
 exact ⟨rfl, HT.out⟩
inductive ErrV (s : Sents) : Value → Int → Prop
 | nil : ErrV s .nilIface 0
 | dialect : ErrV s (.iface 236 (.pointer (some s.dialect))) 50
 | type_ : ErrV s (.iface 236 (.pointer (some s.type_))) 51
 | long : ErrV s (.iface 236 (.pointer (some s.long))) 5
 | map : ErrV s (.iface 236 (.pointer (some s.map))) 53
 | more : ErrV s (.iface 236 (.pointer (some s.more))) 54
 | field (no : Int) : ErrV s (.iface 80 (.agg #[.int .i64 no, .iface 236 (.pointer (some s.field))])) 52
 | text (no : Int) : ErrV s (.iface 80 (.agg #[.int .i64 no, .iface 236 (.pointer (some s.text))])) 41
 | bytes (no : Int) : ErrV s (.iface 80 (.agg #[.int .i64 no, .iface 236 (.pointer (some s.bytes))])) 42
 | short (no : Int) : ErrV s (.iface 80 (.agg #[.int .i64 no, .iface 236 (.pointer (some s.short))])) 43
theorem tell_walk {s : Sents} {w : World} {v : Value} {n : Int} (h : ErrV s v n) (hs : Sen s w) :
 Calls Tryz.prog 20 #[v] w fun e w' => e = .returned (.int .i64 n) ∧ Turn nowhere w w' := by
 cases h with
 | nil => exact tell_nil hs
 | dialect => exact tell_dialect hs
 | type_ => exact tell_type_ hs
 | long => exact tell_long hs
 | map => exact tell_map hs
 | more => exact tell_more hs
 | field no => exact tell_field no hs
 | text no => exact tell_text no hs
 | bytes no => exact tell_bytes no hs
 | short no => exact tell_short no hs
theorem ret_cell2 {P : Program} {fn : Func} {p u : Tmp} {ty : TypeId} (h : fn.results = #[.cell p ty, .tmp u]) (tmps : Array Value) (w : World) (g : Nat) (t : TypeId) (cs : Array Value) (d : TypeDesc) {v : Value}
 (hp : tmps.getD p undef = .pointer (some ⟨g, 0, none⟩)) (hv : tmps.getD u undef = v) (hg : Blk w g t cs) (hu : P.underlying ty = some d) (hd : (match d with | .struct _ | .array _ _ => true | _ => false) = true) (hi : (P.info? ty).map (·.size) = some cs.size) :
 (results fn tmps).run P w = .ok (.tuple #[.agg cs, v]) w := by
 subst hv
 have hp' : tmps[p]?.getD undef = .pointer (some ⟨g, 0, none⟩) := by simpa using hp
 rw [results_cell_tmp h]
 simp [hp', asAddr, run_loadVar_row w g t ty cs (0, 0) d hg hu hd hi, Result.andThen]
theorem gx_aaddr {P : Program} {a : Act} {o : Oper} {W : World} {t e : TypeId} {x y : Operand} {b off n i sz m : Nat} {k : IntKind} (ho : o.op = .indexAddr t x y) (hx : a.eval x = .pointer (some ⟨b, off, none⟩)) (hy : a.eval y = .int k (i : Int))
 (ht : P.underlying t = some (.array n e)) (hs : (P.info? e).map (·.size) = some sz) (hi : i < n) (hm : off + i * sz = m) : (execOp a.eval o).run P W = .ok (.value (.pointer (some ⟨b, m, none⟩))) W := by
 obtain ⟨j, hj, hjs⟩ := Option.map_eq_some_iff.1 hs
 subst hm
 unfold execOp
 simp [ho, hx, hy, Instr.indexAt, run_underlying ht, asIntOf, sizeOf, typeInfo, hj, hjs, hi, add_nat, Result.andThen, Instr.sureAddr]
theorem gx_loads {P : Program} {a : Act} {o : Oper} {W : World} {ty : TypeId} {x : Operand} {b off : Nat} {cs : List Value} {d : TypeDesc} (ho : o.op = .load ty x) (hx : a.eval x = .pointer (some ⟨b, off, none⟩)) (hr : W.rangeAt b off cs)
 (hu : P.underlying ty = some d) (hd : d.isRow = true) (hi : (P.info? ty).map (·.size) = some cs.length) : (execOp a.eval o).run P W = .ok (.value (.agg cs.toArray)) W :=
 exec_load ho hx (run_loadAt_mid W b off ty cs d hr hu hd hi)
theorem wp_store_rowU {P : Program} {o : Oper} {a : Act} {w : World} {K : Act → World → Prop} {Q : Exit → Act → World → Prop} (ty : TypeId) (x y : Operand) (ho : o.op = .store ty x y) {g : Nat} {t : TypeId} {old : Array Value} (cells : Array Value) (hb : Blk w g t old)
 (hx : a.eval x = .pointer (some ⟨g, 0, none⟩)) (hy : a.eval y = .agg cells) (hs : old.size = cells.size) (hi : (P.info? ty).map (·.size) = some cells.size) (h1 : ∀ v ∈ cells.toList, v.oneCell' = true)
 (h : ∀ w', Blk w' g t cells → Turn (only g) w w' → K (a.put o.dst undef) w') : o.wp P a w K Q := by
 obtain ⟨w', hr, h2, h3⟩ := run_store_row (P := P) hb hs hi h1
 unfold Oper.wp execOp
 simp only [ho, hx, hy, hr, Sem.run_bind, Sem.run_pure, Result.andThen_ok]
 exact h w' h2 h3
theorem exec_bld {P : Program} {a : Act} {o : Oper} {t : TypeId} {r : Value} {W : World} (ho : o.op = .build t #[]) (h : (Instr.build t #[]).run P W = .ok r W) : (execOp a.eval o).run P W = .ok (.value r) W := by
 unfold execOp
 simp only [ho, List.map_toArray, List.map_nil, h, Sem.run_bind, Sem.run_pure, Result.andThen_ok]
theorem zeroT_one : ∀ v ∈ (#[.int .i64 0, strV [], strV []] : Array Value).toList, v.oneCell' = true := fun v hv => by
 simp only [List.mem_cons, List.not_mem_nil, or_false] at hv
 rcases hv with rfl | rfl | rfl <;> rfl
theorem size_tongue : (Tryz.prog.info? 70).map (·.size) = some 3 := by kernel_rfl
theorem size_form : (Tryz.prog.info? 49).map (·.size) = some 3 := by kernel_rfl
theorem zero_tongue (w : World) : (zeroValue 70).run Tryz.prog w = .ok (.agg #[.int .i64 0, strV [], strV []]) w := by kernel_rfl
theorem build_tongue0 (W : World) : (Instr.build 70 #[]).run Tryz.prog W = .ok (.agg #[.int .i64 0, strV [], strV []]) W := by kernel_rfl
def tongA (d : Nat) : Array Value := #[.int .i64 (d : Int), strV (ver d), strV (unsaid d 4)]
def tongV (d : Nat) : Value := .agg (tongA d)
def errS (a : Addr) : Value := .iface 236 (.pointer (some a))
theorem tongA_one (d : Nat) : ∀ v ∈ (tongA d).toList, v.oneCell' = true := fun v hv => by
 unfold tongA at hv
 simp only [List.mem_cons, List.not_mem_nil, or_false] at hv
 rcases hv with rfl | rfl | rfl <;> rfl
theorem tong_cells {W : World} (h : Tab W) {d : Nat} (hd : 1 ≤ d ∧ d ≤ 3) : W.cell? ⟨5, 3 * d, none⟩ = some (.int .i64 (d : Int)) ∧ W.cell? ⟨5, 3 * d + 1, none⟩ = some (strV (ver d)) ∧ W.cell? ⟨5, 3 * d + 2, none⟩ = some (strV (unsaid d 4)) := by
 have hc : d = 1 ∨ d = 2 ∨ d = 3 := by omega
 rcases hc with rfl | rfl | rfl
 ·exact ⟨h.tongues 3 _ rfl, h.tongues 4 _ rfl, h.tongues 5 _ rfl⟩
 ·exact ⟨h.tongues 6 _ rfl, h.tongues 7 _ rfl, h.tongues 8 _ rfl⟩
 ·exact ⟨h.tongues 9 _ rfl, h.tongues 10 _ rfl, h.tongues 11 _ rfl⟩
theorem tong_range {W : World} (h : Tab W) {d : Nat} (hd : 1 ≤ d ∧ d ≤ 3) : W.rangeAt 5 (d * 3) (tongA d).toList := by
 obtain ⟨c0, c1, c2⟩ := tong_cells h hd
 rw [Nat.mul_comm] at c0 c1 c2
 intro j v hj
 match j, hj with
 | 0, hj => injection hj with hj; subst hj; exact c0
 | 1, hj => injection hj with hj; subst hj; exact c1
 | 2, hj => injection hj with hj; subst hj; exact c2
theorem tongueOf_ok {s : Sents} {w : World} {d : Nat} (hd : 1 ≤ d ∧ d ≤ 3) (ht : Tab w) :
 Calls Tryz.prog 35 #[.int .i64 (d : Int)] w fun e w' => e = .returned (.tuple #[tongV d, .nilIface]) ∧ Turn nowhere w w' := by
 have HT := zH ht
 have HD := zH hd
 have y1 : ¬ ((d : Int) < 1) := by omega
 have y2 : ¬ (4 ≤ (d : Int)) := by omega
 have y3 : (d : Int) < 4 := by omega
 have y4 : (0 : Int) ≤ (d : Int) := by omega
 clear ht hd
 go_enter Tryz.func35, Tryz.ntmps35
 go_upto_region 3 with fail
 have hT1 := HT.out.turn ((Turn.refl nowhere w).alloc (.cells #[.int .i64 0, strV [], strV []] 70))
 have hB1 := Blk.new w 70 #[.int .i64 0, strV [], strV []]
 have hU1 := (Turn.refl nowhere w).alloc (.cells #[.int .i64 0, strV [], strV []] 70)
 obtain ⟨b0, hb00⟩ : ∃ b0, b0 = w.heap.size := ⟨_, rfl⟩
 rw [← hb00] at hB1 ⊢
 have HG := zH hb00
 have HB := zH hB1
 have HU := zH hU1
 have HR := zH (tong_range hT1 HD.out)
 clear hb00 hT1 hB1 hU1
 change Code.wp _ _ _ _ (w.alloc (.cells #[.int .i64 0, strV [], strV []] 70))
 generalize World.alloc w (.cells #[.int .i64 0, strV [], strV []] 70) = w1 at *
 refine wp_region_lit ?_
 refine wM (.int .i64 (d : Int)) ?_
 simp only [zz]
 refine wR (v := .pointer (some ⟨5, d * 3, none⟩)) rfl (gx_aaddr (i := d) (off := 0) rfl rfl rfl Tryz.underlying86 size_tongue (by have := HD.out; omega) (by omega)) ?_
 simp only [zz]
 refine wR (v := tongV d) rfl (gx_loads rfl rfl HR.out Tryz.underlying70 rfl (by rw [size_tongue]; rfl)) ?_
 simp only [zz]
 refine wpList_store_row rfl 70 (.tmp 2) (.tmp 14) rfl (tongA d) HB.out rfl rfl rfl (by rw [size_tongue]; rfl) (tongA_one d) ?_
 intro w2 hB2 hU2
 have HB2 := zH hB2
 have HU2 := zH (HU.out.trans hU2 (fun k hk e => by
  have := HG.out
  have e : k = b0 := e
  omega))
 clear hB2 hU2
 simp only [zz]
 go_wp2_with fail
 refine bodyPost_ret (v := .tuple #[tongV d, .nilIface]) (ret_cell2 rfl _ _ b0 _ _ _ rfl rfl HB2.out Tryz.underlying70 rfl (by rw [size_tongue]; rfl)) rfl ?_
 exact ⟨rfl, HU2.out⟩
theorem tongueOf_bad {s : Sents} {w : World} {d : Int} (hd : ¬ (1 ≤ d ∧ d ≤ 3)) (hs : Sen s w) :
 Calls Tryz.prog 35 #[.int .i64 d] w fun e w' => e = .returned (.tuple #[.agg #[.int .i64 0, strV [], strV []], errS s.dialect]) ∧ Turn nowhere w w' := by
 have hS1 := hs.turn ((Turn.refl nowhere w).alloc (.cells #[.int .i64 0, strV [], strV []] 70))
 have hB1 := Blk.new w 70 #[.int .i64 0, strV [], strV []]
 have hU1 := (Turn.refl nowhere w).alloc (.cells #[.int .i64 0, strV [], strV []] 70)
 obtain ⟨b0, hb00⟩ : ∃ b0, b0 = w.heap.size := ⟨_, rfl⟩
 rw [← hb00] at hB1
 have HLT : Hid (0 < b0) := zH (by rw [hb00]; exact World.block_lt_of_cell? _ _ hs.dialect.1)
 have HG := zH hb00
 have HB := zH hB1
 have HU := zH hU1
 have HS := zH hS1
 clear hS1 hB1 hU1 hs
 by_cases h1 : d < 1
 ·clear hd
  go_enter Tryz.func35, Tryz.ntmps35
  go_upto_region 2 with fail
  rw [← hb00]
  clear hb00
  change Code.wp _ _ _ _ (w.alloc (.cells #[.int .i64 0, strV [], strV []] 70))
  generalize World.alloc w (.cells #[.int .i64 0, strV [], strV []] 70) = w1 at *
  have hS0 : w1.drew.cell? ⟨0, 0, none⟩ = some (errS s.dialect) := HS.out.dialect.1
  have HBd : Hid (Blk w1.drew b0 70 #[.int .i64 0, strV [], strV []]) := zH HB.out.drew
  have HUd : Hid (Turn nowhere w w1.drew) := zH HU.out.drew
  clear HB HU HS
  refine wp_region_alw (fun W => W.cell? ⟨0, 0, none⟩ = some (errS s.dialect)) (by kernel_rfl) ?_
  generalize w1.drew = w3 at *
  refine aT (i := 0) (v := .agg #[.int .i64 0, strV [], strV []]) rfl (by kernel_rfl) (by kernel_rfl) (fun W hW => exec_bld rfl (build_tongue0 _)) hS0 ?_
  simp only [zz]
  refine aT (i := 1) (v := errS s.dialect) rfl (by kernel_rfl) (by kernel_rfl) (fun W hW => exec_load1 rfl rfl (by kernel_rfl) hW) hS0 ?_
  simp only [zz]
  refine alw_step (i := 2) (by kernel_rfl) rfl rfl ?_
  intro K1 HK1
  refine wp_store_rowU 70 (.tmp 2) (.tmp 10) rfl #[.int .i64 0, strV [], strV []] HBd.out rfl rfl rfl (by rw [size_tongue]; rfl) (zeroT_one) ?_
  intro w2 hB2 hU2
  have hS1 : w2.cell? ⟨0, 0, none⟩ = some (errS s.dialect) := (hU2.cell (World.block_lt_of_cell? _ _ hS0) (fun e => by
   have e : 0 = b0 := e
   have := HLT.out
   omega)).trans hS0
  have HB2 := zH hB2
  have HU2 := zH (HUd.out.trans hU2 (fun k hk e => by
   have := HG.out
   have e : k = b0 := e
   omega))
  clear hB2 hU2 HUd HBd hS0
  refine HK1.out _ _ ⟨hS1, ?_⟩
  clear HK1
  simp only [zz]
  refine aT (i := 3) (v := errS s.dialect) rfl (by kernel_rfl) (by kernel_rfl) (fun W hW => gx_assign rfl rfl) hS1 ?_
  simp only [zz]
  refine alw_done rfl ?_
  clear hS1
  refine NoPanic.normal ?_
  go_wp2_with fail
  refine bodyPost_ret (v := .tuple #[.agg #[.int .i64 0, strV [], strV []], errS s.dialect]) (ret_cell2 rfl _ _ b0 _ _ _ rfl rfl HB2.out Tryz.underlying70 rfl (by rw [size_tongue]; rfl)) rfl ?_
  exact ⟨rfl, HU2.out⟩
 ·have h2 : 4 ≤ d := by omega
  clear hd
  go_enter Tryz.func35, Tryz.ntmps35
  go_upto_region 2 with fail
  rw [← hb00]
  clear hb00
  change Code.wp _ _ _ _ (w.alloc (.cells #[.int .i64 0, strV [], strV []] 70))
  generalize World.alloc w (.cells #[.int .i64 0, strV [], strV []] 70) = w1 at *
  have hS0 : w1.drew.cell? ⟨0, 0, none⟩ = some (errS s.dialect) := HS.out.dialect.1
  have HBd : Hid (Blk w1.drew b0 70 #[.int .i64 0, strV [], strV []]) := zH HB.out.drew
  have HUd : Hid (Turn nowhere w w1.drew) := zH HU.out.drew
  clear HB HU HS
  refine wp_region_alw (fun W => W.cell? ⟨0, 0, none⟩ = some (errS s.dialect)) (by kernel_rfl) ?_
  generalize w1.drew = w3 at *
  refine aT (i := 0) (v := .agg #[.int .i64 0, strV [], strV []]) rfl (by kernel_rfl) (by kernel_rfl) (fun W hW => exec_bld rfl (build_tongue0 _)) hS0 ?_
  simp only [zz]
  refine aT (i := 1) (v := errS s.dialect) rfl (by kernel_rfl) (by kernel_rfl) (fun W hW => exec_load1 rfl rfl (by kernel_rfl) hW) hS0 ?_
  simp only [zz]
  refine alw_step (i := 2) (by kernel_rfl) rfl rfl ?_
  intro K1 HK1
  refine wp_store_rowU 70 (.tmp 2) (.tmp 10) rfl #[.int .i64 0, strV [], strV []] HBd.out rfl rfl rfl (by rw [size_tongue]; rfl) (zeroT_one) ?_
  intro w2 hB2 hU2
  have hS1 : w2.cell? ⟨0, 0, none⟩ = some (errS s.dialect) := (hU2.cell (World.block_lt_of_cell? _ _ hS0) (fun e => by
   have e : 0 = b0 := e
   have := HLT.out
   omega)).trans hS0
  have HB2 := zH hB2
  have HU2 := zH (HUd.out.trans hU2 (fun k hk e => by
   have := HG.out
   have e : k = b0 := e
   omega))
  clear hB2 hU2 HUd HBd hS0
  refine HK1.out _ _ ⟨hS1, ?_⟩
  clear HK1
  simp only [zz]
  refine aT (i := 3) (v := errS s.dialect) rfl (by kernel_rfl) (by kernel_rfl) (fun W hW => gx_assign rfl rfl) hS1 ?_
  simp only [zz]
  refine alw_done rfl ?_
  clear hS1
  refine NoPanic.normal ?_
  go_wp2_with fail
  refine bodyPost_ret (v := .tuple #[.agg #[.int .i64 0, strV [], strV []], errS s.dialect]) (ret_cell2 rfl _ _ b0 _ _ _ rfl rfl HB2.out Tryz.underlying70 rfl (by rw [size_tongue]; rfl)) rfl ?_
  exact ⟨rfl, HU2.out⟩
end Go.Proofs.YticofobhkmabiaaGreatDoor
