/-
  Fields of messages, in plain data: forms, parts, how they are written and read. No conditions; nothing of the program.
-/
import Derived.Lib.Bytealg
namespace Go.Proofs.YtgdlidjjogoiaaaGreatDoor.Fdd
set_option linter.unusedVariables false
def dec : List UInt8 := [48, 49, 50, 51, 52, 53, 54, 55, 56, 57]
def hexs : List UInt8 := [48, 49, 50, 51, 52, 53, 54, 55, 56, 57, 97, 98, 99, 100, 101, 102]
def sgn : List UInt8 := [48, 49, 50, 51, 52, 53, 54, 55, 56, 57, 65, 66, 67, 68, 69, 70, 71, 72, 73, 74, 75, 76, 77, 78, 79, 80, 81, 82, 83, 84, 85, 86, 87, 88, 89, 90, 32]
def mk : List UInt8 := [67, 68]
def hexU : List UInt8 := [48, 49, 50, 51, 52, 53, 54, 55, 56, 57, 65, 66, 67, 68, 69, 70]
def eDec : List UInt8 := [240, 241, 242, 243, 244, 245, 246, 247, 248, 249]
def eSgn : List UInt8 := [240, 241, 242, 243, 244, 245, 246, 247, 248, 249, 193, 194, 195, 196, 197, 198, 199, 200, 201, 209, 210, 211, 212, 213, 214, 215, 216, 217, 226, 227, 228, 229, 230, 231, 232, 233, 64]
def eMk : List UInt8 := [195, 196]
/-- what stands for each sort of characters -/
structure Rw where
  d : List UInt8
  h : List UInt8
  s : List UInt8
  m : List UInt8
def rws : Nat → Rw
  | 1 => ⟨dec, hexU, sgn, mk⟩
  | 2 => ⟨[], [], sgn, mk⟩
  | 3 => ⟨eDec, [], eSgn, eMk⟩
  | _ => ⟨[], [], [], []⟩
structure Pt where
  n : Nat
  chars : List UInt8
  stands : List UInt8
structure Fm where
  kind : Int
  size : Int
  code : Int
def ptsOf (kind code : Int) (n : Nat) : List Pt :=
  if kind = 3 then [⟨n, sgn, (rws code.toNat).s⟩]
  else if kind = 4 then [⟨2 * n, hexs, (rws code.toNat).h⟩]
  else if kind = 5 then [⟨1, mk, (rws code.toNat).m⟩, ⟨n, dec, (rws code.toNat).d⟩]
  else [⟨n, dec, (rws code.toNat).d⟩]
/-- all characters are of a sort -/
def onlyOf (l cs : List UInt8) : Bool := l.all (cs.contains ·)
def Fm.may (f : Fm) : Bool := decide (1 ≤ f.kind ∧ f.kind ≤ 5) && (decide (1 ≤ f.code ∧ f.code ≤ 3) && decide (1 ≤ f.size ∧ f.size ≤ 64))
def rightAll : List Pt → List UInt8 → Bool
  | [], t => t == []
  | p :: r, t => decide (p.n ≤ t.length) && (onlyOf (t.take p.n) p.chars && rightAll r (t.drop p.n))
def Fm.right (f : Fm) (t : List UInt8) : Bool :=
  if f.kind = 2 then decide (1 ≤ t.length ∧ (t.length : Int) ≤ f.size) && rightAll (ptsOf 2 f.code t.length) t else rightAll (ptsOf f.kind f.code f.size.toNat) t
def Fm.check (f : Fm) (t : List UInt8) : Int := if f.may = true then if f.right t = true then 0 else 41 else 40
/-- two characters a byte -/
def pack (chars : List UInt8) : List UInt8 → List UInt8
  | a :: b :: r => UInt8.ofNat (16 * chars.idxOf a + chars.idxOf b) :: pack chars r
  | _ => []
def padded (t : List UInt8) : List UInt8 := if t.length % 2 = 1 then 48 :: t else t
def unpack (chars : List UInt8) : List UInt8 → List UInt8
  | [] => []
  | x :: r => chars.getD (x.toNat / 16) 0 :: chars.getD (x.toNat % 16) 0 :: unpack chars r
def packOk (chars : List UInt8) (b : List UInt8) : Bool := b.all fun x => decide (x.toNat / 16 < chars.length) && decide (x.toNat % 16 < chars.length)
def Pt.size (p : Pt) : Nat := if p.stands = [] then (p.n + 1) / 2 else p.n
def one (from_ to_ : List UInt8) (c : UInt8) : UInt8 := to_.getD (from_.idxOf c) 0
def Pt.enc (p : Pt) (t : List UInt8) : List UInt8 := if p.stands = [] then pack p.chars (padded t) else t.map (one p.chars p.stands)
def unpacked (chars b : List UInt8) (n : Nat) : Option (List UInt8) :=
  if packOk chars b = true then if n % 2 = 1 ∧ (unpack chars b).getD 0 0 ≠ 48 then none else some ((unpack chars b).drop ((unpack chars b).length - n)) else none
def Pt.dec (p : Pt) (b : List UInt8) : Option (List UInt8) :=
  if p.stands = [] then unpacked p.chars b p.n else if onlyOf b p.stands = true then some (b.map (one p.stands p.chars)) else none
def encAll : List Pt → List UInt8 → List UInt8
  | [], _ => []
  | p :: r, t => p.enc (t.take p.n) ++ encAll r (t.drop p.n)
def sizeAll : List Pt → Nat
  | [] => 0
  | p :: r => p.size + sizeAll r
def decAll : List Pt → List UInt8 → Option (List UInt8)
  | [], _ => some []
  | p :: r, b => match p.dec (b.take p.size) with
    | none => none
    | some t => (decAll r (b.drop p.size)).map (t ++ ·)
def takeAll (ps : List Pt) (b : List UInt8) : Except Int (List UInt8 × List UInt8) :=
  if b.length < sizeAll ps then .error 43 else match decAll ps b with
    | none => .error 42
    | some t => .ok (t, b.drop (sizeAll ps))
/-- a number of two digits -/
def two (n : Nat) : List UInt8 := [UInt8.ofNat (48 + n / 10), UInt8.ofNat (48 + n % 10)]
def val (t : List UInt8) : Nat := t.foldl (fun a c => a * 10 + (c.toNat - 48)) 0
def Fm.put (f : Fm) (t : List UInt8) : List UInt8 :=
  if f.kind = 2 then encAll (ptsOf 1 f.code 2) (two t.length) ++ encAll (ptsOf 2 f.code t.length) t else encAll (ptsOf f.kind f.code f.size.toNat) t
def Fm.take (f : Fm) (b : List UInt8) : Except Int (List UInt8 × List UInt8) :=
  if f.may = true then
    if f.kind = 2 then match takeAll (ptsOf 1 f.code 2) b with
      | .error e => .error e
      | .ok (t, r) => if 1 ≤ val t ∧ (val t : Int) ≤ f.size then takeAll (ptsOf 2 f.code (val t)) r else .error 42
    else takeAll (ptsOf f.kind f.code f.size.toNat) b
  else .error 40
theorem index_mem : ∀ (l : List UInt8) (c : UInt8), c ∈ l → Lib.indexByte l c = (l.idxOf c : Int)
  | [], c, h => by cases h
  | b :: l, c, h => by
    unfold Lib.indexByte
    rw [List.idxOf_cons]
    by_cases e : b = c
    · subst e
      simp
    · have e' : (b == c) = false := by simpa using e
      have hm : c ∈ l := by
        rcases List.mem_cons.1 h with h | h
        · exact absurd h.symm e
        · exact h
      have ih := index_mem l c hm
      rw [e', ih]
      have : (((l.idxOf c : Nat) : Int) == -1) = false := by simp
      simp [this]
theorem index_not : ∀ (l : List UInt8) (c : UInt8), c ∉ l → Lib.indexByte l c = -1
  | [], _, _ => rfl
  | b :: l, c, h => by
    have h1 : (b == c) = false := by
      simp
      intro e
      exact h (e ▸ List.mem_cons_self ..)
    have h2 := index_not l c fun hm => h (List.mem_cons_of_mem _ hm)
    unfold Lib.indexByte
    simp [h1, h2]
theorem onlyOf_mem {l cs : List UInt8} (h : onlyOf l cs = true) {c : UInt8} (hc : c ∈ l) : c ∈ cs := by
  simpa using List.all_eq_true.1 h c hc
theorem idx_lt {cs : List UInt8} {c : UInt8} (h : c ∈ cs) : cs.idxOf c < cs.length := List.idxOf_lt_length_iff.2 h
end Go.Proofs.YtgdlidjjogoiaaaGreatDoor.Fdd
