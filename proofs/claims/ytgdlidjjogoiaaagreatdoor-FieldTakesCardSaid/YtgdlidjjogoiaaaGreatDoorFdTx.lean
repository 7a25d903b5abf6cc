/-
  The reference's text: general parts. No conditions.
-/
import Derived.Test.YtgdlidjjogoiaaaGreatDoorFdPg
namespace Go.Proofs.YtgdlidjjogoiaaaGreatDoor
open Go.RowKit
open Fdd
set_option linter.unusedVariables false
set_option linter.unusedSimpArgs false
theorem rchars_snoc (f : Fm) : ∀ (k i : Nat) (b : List UInt8), k < b.length → rchars f i (b.take (k + 1)) = rchars f i (b.take k) ++ rch f (i + k) (b.getD k 0)
  | 0, i, x :: r, _ => by
    show rch f i x ++ [] = [] ++ rch f i x
    simp
  | k + 1, i, x :: r, h => by
    show rch f i x ++ rchars f (i + 1) (r.take (k + 1)) = (rch f i x ++ rchars f (i + 1) (r.take k)) ++ _
    rw [rchars_snoc f k (i + 1) r (by simp at h; omega), List.append_assoc, List.getD_cons_succ, show i + 1 + k = i + (k + 1) from by omega]
  | _, _, [], h => by simp at h
theorem rch_len (f : Fm) (i : Nat) (c : UInt8) : (rch f i c).length ≤ 2 := by
  unfold rch
  split
  · simp
  · split
    · simp
    · split <;> simp
theorem rchars_len (f : Fm) : ∀ (b : List UInt8) (i : Nat), (rchars f i b).length ≤ 2 * b.length
  | [], _ => Nat.le_refl _
  | c :: r, i => by
    have h1 := rch_len f i c
    have h2 := rchars_len f r (i + 1)
    show (rch f i c ++ rchars f (i + 1) r).length ≤ _
    rw [List.length_append, List.length_cons]
    omega
def unf (c : UInt8) (j : Nat) : UInt8 := (List.range j).foldl (fun f s => if sgn.contains (UInt8.ofNat s) && ebc (UInt8.ofNat s) == c then UInt8.ofNat s else f) 0
theorem unf_succ (c : UInt8) (j : Nat) : unf c (j + 1) = if sgn.contains (UInt8.ofNat j) && ebc (UInt8.ofNat j) == c then UInt8.ofNat j else unf c j := by
  unfold unf
  rw [List.range_succ, List.foldl_append]
  rfl
theorem unf_all (c : UInt8) : unf c 128 = unebc c := rfl
def TextP (w : World) (r : List UInt8 × Bool) (e : Ending) (w' : World) : Prop := e = .returned (.tuple #[strV r.1, .bool r.2]) ∧ Turn nowhere w w'
theorem exec_q16 {a : Act} {o : Oper} {W : World} {x : Operand} {c : UInt8} (ho : o.op = .binOp .quo 5 x (.const (.int .u8 16)) 5) (hx : a.eval x = .int .u8 (c.toNat : Int)) : (execOp a.eval o).run Tryz.prog W = .ok (.value (.int .u8 ((c.toNat / 16 : Nat) : Int))) W := by
  have hc := c.toNat_lt
  have h2 : IntKind.u8.wrap (Int.tdiv (c.toNat : Int) 16) = ((c.toNat / 16 : Nat) : Int) := by
    rw [wrapu8, Int.tdiv_eq_ediv_of_nonneg (by omega)]
    omega
  unfold execOp
  simp only [ho, hx]
  go_simp
  try exact h2
theorem exec_r16 {a : Act} {o : Oper} {W : World} {x : Operand} {c : UInt8} (ho : o.op = .binOp .rem 5 x (.const (.int .u8 16)) 5) (hx : a.eval x = .int .u8 (c.toNat : Int)) : (execOp a.eval o).run Tryz.prog W = .ok (.value (.int .u8 ((c.toNat % 16 : Nat) : Int))) W := by
  have hc := c.toNat_lt
  have h2 : Int.tmod (c.toNat : Int) 16 = ((c.toNat % 16 : Nat) : Int) := rfl
  unfold execOp
  simp only [ho, hx]
  go_simp
  try exact h2
theorem exec_iu8 {a : Act} {o : Oper} {W : World} {x : Operand} {j : Nat} (hj : j < 256) (ho : o.op = .convert 3 5 x) (hx : a.eval x = .int .i64 (j : Int)) : (execOp a.eval o).run Tryz.prog W = .ok (.value (.int .u8 ((UInt8.ofNat j).toNat : Int))) W := by
  have h2 : IntKind.u8.wrap (j : Int) = ((UInt8.ofNat j).toNat : Int) := by
    rw [wrapu8, UInt8.toNat_ofNat']
    omega
  unfold execOp
  simp only [ho, hx]
  go_simp
  try exact h2
theorem exec_u8eq {a : Act} {o : Oper} {W : World} {x y : Operand} {u v : UInt8} (ho : o.op = .binOp .eql 5 x y 5) (hx : a.eval x = .int .u8 (u.toNat : Int)) (hy : a.eval y = .int .u8 (v.toNat : Int)) : (execOp a.eval o).run Tryz.prog W = .ok (.value (.bool (u == v))) W := by
  have h2 : (u == v) = ((u.toNat : Int) == (v.toNat : Int)) := by
    rw [Bool.eq_iff_iff, beq_iff_eq, beq_iff_eq]
    constructor
    · rintro rfl
      rfl
    · intro h
      exact UInt8.toNat_inj.1 (by omega)
  rw [h2]
  unfold execOp
  simp only [ho, hx, hy]
  go_simp
theorem exec_sfromK {W : World} {a : Act} {o : Oper} {x : Operand} {l : List UInt8} (ho : o.op = .slice 9 x (some (.const (.int .i64 2))) none none) (hx : a.eval x = strV l) (hn : 2 ≤ l.length) : (execOp a.eval o).run Tryz.prog W = .ok (.value (strV (l.drop 2))) W :=
  exec_sfrom (n := 2) ho hx rfl hn
set_option maxRecDepth 20000 in
theorem exec_bfrom {a : Act} {o : Oper} {x y : Operand} {A : Option Addr} {n c k : Nat} {l : List UInt8} {W : World} (ho : o.op = .slice 22 x (some y) none none) (hx : a.eval x = .slice A n c) (hy : a.eval y = .int .i64 (k : Int)) (hk : k ≤ n) (hc : n ≤ c) (hb : Bs W A n l) (hz : A = none → c = 0) :
    ∃ A', (execOp a.eval o).run Tryz.prog W = .ok (.value (.slice A' (n - k) (c - k))) W ∧ Bs W A' (n - k) (l.drop k) ∧ (A' = none → c - k = 0) := by
  have h := run_slice_l (P := Tryz.prog) (w := W) 22 A n c Tryz.underlying22 .i64 (k : Int) (by omega) (by omega)
  have hs : (sizeOf (Tryz.prog.elem 22)).run Tryz.prog W = .ok 1 W := by kernel_rfl
  rw [Int.toNat_natCast, hs] at h
  obtain ⟨h1, h2, h3⟩ := hb
  have hrun : ∀ v, sliced A k n c 1 = v → (execOp a.eval o).run Tryz.prog W = .ok (.value v) W := by
    intro v hv
    rw [← hv]
    unfold execOp
    simp only [ho, Option.map, hx, hy, run_sliceAt_slice (P := Tryz.prog) W 22 _ _ _ _ Tryz.underlying22, h, Sem.run_bind, Sem.run_pure, Result.andThen_ok]
  have hlen : (l.drop k).length = n - k := by rw [List.length_drop, h1]
  by_cases h0 : 0 < n
  · obtain ⟨g, off, rfl, hcell⟩ := h3 h0
    by_cases hkc : c = k
    · have hnk : n - k = 0 := by omega
      refine ⟨some ⟨g, off, none⟩, hrun _ (by unfold sliced; rw [if_pos hkc]), ⟨hlen, Nat.le_trans (Nat.sub_le _ _) h2, fun hh => ?_⟩, fun e => by cases e⟩
      exfalso
      rw [hnk] at hh
      exact absurd hh (by decide)
    · refine ⟨some ⟨g, off + k, none⟩, hrun _ (by unfold sliced; rw [if_neg hkc, Nat.mul_one]; simp only [Option.map_some, add_nat]), ⟨hlen, Nat.le_trans (Nat.sub_le _ _) h2, fun hh => ⟨g, off + k, rfl, fun i hi => ?_⟩⟩, fun e => by cases e⟩
      rw [Nat.add_assoc, hcell (k + i) (by omega)]
      congr 3
      simp only [List.getD_eq_getElem?_getD, List.getElem?_drop]
  · have hn0 : n = 0 := by omega
    have hk0 : k = 0 := by omega
    subst hn0 hk0
    refine ⟨A, hrun _ (by unfold sliced; cases A <;> simp [Addr.add]), ⟨hlen, Nat.le_trans (Nat.sub_le _ _) h2, fun hh => by omega⟩, fun e => by rw [hz e]⟩
theorem exec_ieq {a : Act} {o : Oper} {W : World} {x y : Operand} {i j : Int} (ho : o.op = .binOp .eql 3 x y 3) (hx : a.eval x = .int .i64 i) (hy : a.eval y = .int .i64 j) {r : Bool} (h : (i == j) = r) : (execOp a.eval o).run Tryz.prog W = .ok (.value (.bool r)) W := by
  subst h
  unfold execOp
  simp only [ho, hx, hy]
  go_simp
theorem exec_ineq {a : Act} {o : Oper} {W : World} {x y : Operand} {i j : Int} (ho : o.op = .binOp .neq 3 x y 3) (hx : a.eval x = .int .i64 i) (hy : a.eval y = .int .i64 j) {r : Bool} (h : (i != j) = r) : (execOp a.eval o).run Tryz.prog W = .ok (.value (.bool r)) W := by
  subst h
  unfold execOp
  simp only [ho, hx, hy]
  go_simp
theorem exec_pickT {P : Program} {a : Act} {o : Oper} {W : World} {c x y : Operand} {v : Value} (ho : o.op = .pick c x y) (hc : a.eval c = .bool true) (hx : a.eval x = v) : (execOp a.eval o).run P W = .ok (.value v) W := by
  unfold execOp
  simp [ho, hc, hx, asBool, Result.andThen]
theorem exec_pickF {P : Program} {a : Act} {o : Oper} {W : World} {c x y : Operand} {v : Value} (ho : o.op = .pick c x y) (hc : a.eval c = .bool false) (hy : a.eval y = v) : (execOp a.eval o).run P W = .ok (.value v) W := by
  unfold execOp
  simp [ho, hc, hy, asBool, Result.andThen]
theorem exec_iadd {a : Act} {o : Oper} {W : World} {x y : Operand} {i j r : Int} (ho : o.op = .binOp .add 3 x y 3) (hx : a.eval x = .int .i64 i) (hy : a.eval y = .int .i64 j) (h : i + j = r) (hb : -9223372036854775808 ≤ r ∧ r ≤ 9223372036854775807) : (execOp a.eval o).run Tryz.prog W = .ok (.value (.int .i64 r)) W := by
  have hw : IntKind.i64.wrap r = r := by rw [IntKind.wrap_i64]; omega
  unfold execOp
  simp only [ho, hx, hy]
  go_simp
  try exact hw
theorem exec_isub {a : Act} {o : Oper} {W : World} {x y : Operand} {i j r : Int} (ho : o.op = .binOp .sub 3 x y 3) (hx : a.eval x = .int .i64 i) (hy : a.eval y = .int .i64 j) (h : i - j = r) (hb : -9223372036854775808 ≤ r ∧ r ≤ 9223372036854775807) : (execOp a.eval o).run Tryz.prog W = .ok (.value (.int .i64 r)) W := by
  have hw : IntKind.i64.wrap r = r := by rw [IntKind.wrap_i64]; omega
  unfold execOp
  simp only [ho, hx, hy]
  go_simp
  try exact hw
theorem size_u8 : (Tryz.prog.info? 5).map (·.size) = some 1 := by kernel_rfl
theorem bfrom_all {A : Option Addr} {n c k : Nat} {l : List UInt8} {W : World} (hb : Bs W A n l) (hz : A = none → c = 0) (hc : n ≤ c) (hk : k ≤ n) : ∃ A', (∀ (a : Act) (o : Oper) (x y : Operand), o.op = .slice 22 x (some y) none none → a.eval x = .slice A n c → a.eval y = .int .i64 (k : Int) → (execOp a.eval o).run Tryz.prog W = .ok (.value (.slice A' (n - k) (c - k))) W) ∧ Bs W A' (n - k) (l.drop k) ∧ True := by
  obtain ⟨A', h1, h2, h3⟩ := exec_bfrom (a := { tmps := #[.slice A n c, .int .i64 (k : Int)], defers := [] }) (o := ⟨none, .slice 22 (.tmp 0) (some (.tmp 1)) none none, 0, "", #[], none⟩) rfl rfl rfl hk hc hb hz
  refine ⟨A', fun a o x y ho hx hy => ?_, h2, trivial⟩
  rw [← h1]
  unfold execOp
  simp only [ho, hx, hy, Option.map]
  rfl
theorem rch52 {s k : Nat} {x : UInt8} : rch (nf 5 s 2) (k + 1) x = [hexs.getD (x.toNat / 16) 0, hexs.getD (x.toNat % 16) 0] := rfl
theorem rright_any {k s c : Nat} {t : List UInt8} (w : World) (hk : 1 ≤ k ∧ k ≤ 5) (hs : 1 ≤ s ∧ s ≤ 64) (hl : t.length ≤ 1000) :
    Calls Tryz.prog 23 #[fmV (nf k s c), strV t] w fun e w' => e = .returned (.bool ((nf k s c).right t)) ∧ Turn nowhere w w' := rright_walk w (by omega) hs (by omega)
theorem rbytes_any {k s c : Nat} {t : List UInt8} (w : World) (hk : 1 ≤ k ∧ k ≤ 5) (hc : 1 ≤ c ∧ c ≤ 3) (hs : 1 ≤ s ∧ s ≤ 64) (hr : (nf k s c).right t = true) :
    Calls Tryz.prog 19 #[fmV (nf k s c), strV t] w (Made w (rbytes (nf k s c) t)) := by
  rw [rbytes_put hk hc hs hr]
  exact bytes_walk w hk hc hs hr
end Go.Proofs.YtgdlidjjogoiaaaGreatDoor
