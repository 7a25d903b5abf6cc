/-
  Texts of MessageReads in one file, shortened: MsGa MsGb LaysB MsGc MsGd MsGe MsGf MsGg MsHa MsHb. Conditions: the tables and the errors read as the program's text lays them.
-/
import Derived.Test.YticofobhkmabiaaGreatDoorJR6
import Derived.Lib.ConvBytes
import Derived.Shelf.Small.Bits
import Derived.Test.YticofobhkmabiaaGreatDoorProg
import Derived.Lib.BitFns
import Derived.Test.YticofobhkmabiaaGreatDoorJR0
set_option linter.unusedVariables false
set_option linter.unusedSimpArgs false
set_option maxRecDepth 40000
set_option maxHeartbeats 20000000
namespace Go.Proofs.YticofobhkmabiaaGreatDoor
open Go.RowKit
open Fdd
def rdA (d : Nat) (v : Value) : Array Value := #[.int .i64 (d : Int), strV (ver d), strV (unsaid d 4), v]
def Rd (w0 w : World) (g : Nat) (d : Nat) (b : List UInt8) : Prop := ∃ A n c, Blk w g 91 (rdA d (.slice A n c)) ∧ Bs w A n b ∧ n ≤ c ∧ n ≤ 140737488355328 ∧ (0 < n → ∀ b9 o9 s9, A = some ⟨b9, o9, s9⟩ → b9 < w0.heap.size ∨ ∃ cs, Blk w b9 5 cs)
theorem bs_turn9 {w w' : World} {A : Option Addr} {n : Nat} {bs : List UInt8} {F : Nat → Prop} (h : Bs w A n bs) (ht : Turn F w w') (hn : 0 < n → ∀ b off s, A = some ⟨b, off, s⟩ → ¬ F b) : Bs w' A n bs := by
 obtain ⟨h1, h2, h3⟩ := h
 refine ⟨h1, h2, fun hp => ?_⟩
 obtain ⟨b, off, e, hc⟩ := h3 hp
 refine ⟨b, off, e, fun i hi => ?_⟩
 rw [ht.cell (World.block_lt_of_cell? _ _ (hc i hi)) (hn hp b off none e)]
 exact hc i hi
theorem Rd.still {w0 w w' : World} {g d : Nat} {b : List UInt8} (h : Rd w0 w g d b) (ht : Turn nowhere w w') : Rd w0 w' g d b := by
 obtain ⟨A, n, c, h1, h2, h3, h4, h5⟩ := h
 refine ⟨A, n, c, h1.turn ht (fun e => e), bs_still h2 ht, h3, h4, fun hp b9 o9 s9 e => ?_⟩
 rcases h5 hp b9 o9 s9 e with h | ⟨cs, h⟩
 ·exact .inl h
 ·exact .inr ⟨cs, h.turn ht (fun e => e)⟩
theorem rd_turn {w0 w w' : World} {g d gx : Nat} {b : List UInt8} {t : TypeId} {cs : Array Value} (h : Rd w0 w g d b) (ht : Turn (only gx) w w') (hg : g ≠ gx) (hx : w0.heap.size ≤ gx) (hb : Blk w gx t cs) (htt : t ≠ 5) : Rd w0 w' g d b := by
 obtain ⟨A, n, c, h1, h2, h3, h4, h5⟩ := h
 have hne : 0 < n → ∀ b9 o9 s9, A = some ⟨b9, o9, s9⟩ → b9 ≠ gx := fun hp b9 o9 s9 e e2 => by
  subst e2
  rcases h5 hp b9 o9 s9 e with h | ⟨cs', h⟩
  ·omega
  ·exact h.ne_ hb (fun e => htt e.symm) rfl
 refine ⟨A, n, c, h1.turn ht (fun e => hg e), bs_turn9 h2 ht (fun hp b9 o9 s9 e => hne hp b9 o9 s9 e), h3, h4, fun hp b9 o9 s9 e => ?_⟩
 rcases h5 hp b9 o9 s9 e with h | ⟨cs', h⟩
 ·exact .inl h
 ·exact .inr ⟨cs', h.turn ht (fun e2 => hne hp b9 o9 s9 e e2)⟩
def MTakeR (s : Sents) (g d : Nat) (no : Int) (r : Except Int (List UInt8 × List UInt8)) (w0 w : World) (e : Ending) (w' : World) : Prop :=
 e = .returned (.tuple #[strV (tk r).1, wrapV s no (tk r).2.2]) ∧ Rd w0 w' g d (tk r).2.1 ∧ Turn (only g) w w' ∧ Turn nowhere w0 w'
theorem above {w0 w w' : World} {g : Nat} (h : Turn nowhere w0 w) (hg : w0.heap.size ≤ g) (ht : Turn (only g) w w') : Turn nowhere w0 w' := h.trans ht (fun k hk e => by
 have e : k = g := e
 omega)
theorem tk_len (f : Fm) (b : List UInt8) : (tk (f.take b)).2.1.length ≤ b.length := by
 cases hr : f.take b with
 | error e => exact Nat.zero_le _
 | ok p =>
   obtain ⟨t, rest⟩ := p
   cases hm : f.may with
   | false =>
     unfold Fm.take at hr
     rw [if_neg (by rw [hm]; decide)] at hr
     cases hr
   | true =>
     obtain ⟨k, s, c, rfl, h1, h2, h3⟩ := fm_exp hm
     obtain ⟨_, h4⟩ := fm_one h1 h2 h3 hr
     have := congrArg List.length h4
     rw [List.length_append] at this
     show rest.length ≤ b.length
     omega
theorem fieldOff_rest : fieldOff Tryz.prog 91 1 = some 3 := by kernel_rfl
theorem mtake_walk {s : Sents} {w0 w : World} {g d : Nat} {no : Int} {f : Fm} {b : List UInt8} (he : Env s w0) (h0 : Turn nowhere w0 w) (hg0 : w0.heap.size ≤ g) (hr : Rd w0 w g d b) :
 Calls Tryz.prog 79 #[.pointer (some ⟨g, 0, none⟩), .int .i64 no, fmV f] w (MTakeR s g d no (f.take b) w0 w) := by
 have hu := (Turn.refl nowhere w).alloc (.cells #[.int .i64 f.kind, .int .i64 f.size, .int .i64 f.code] 49)
 have hb := Blk.new w 49 #[.int .i64 f.kind, .int .i64 f.size, .int .i64 f.code]
 obtain ⟨b0, hb0⟩ : ∃ b0, b0 = w.heap.size := ⟨_, rfl⟩
 obtain ⟨w1, hw1⟩ : ∃ w1, w1 = w.alloc (.cells #[.int .i64 f.kind, .int .i64 f.size, .int .i64 f.code] 49) := ⟨_, rfl⟩
 rw [← hw1] at hu hb
 rw [← hb0] at hb
 obtain ⟨A, n, c, hg, hbs, hnc, hnl, _⟩ := hr
 have hlt := hg.lt
 have HE := zH he
 have H0 := zH h0
 have HG0 := zH hg0
 have HG := zH (hg.turn hu (fun e => e))
 have HBS := zH (bs_still hbs hu)
 have HNC := zH hnc
 have HNL := zH hnl
 have HB8 := zH hbs.1
 have HU := zH hu
 have HB := zH hb
 have HW := zH hw1
 have HB0 := zH hb0
 have HNE := zH (show b0 ≠ g from by omega)
 clear he h0 hg0 hg hbs hnc hnl hu hb hw1 hb0 hlt
 have hfv : fmV f = .agg #[.int .i64 f.kind, .int .i64 f.size, .int .i64 f.code] := rfl
 rw [hfv]
 clear hfv
 go_enter Tryz.func79, Tryz.ntmps79
 go_upto_region 1 with fail
 have e1 := HW.out
 have e2 := HB0.out
 rw [← e1, ← e2]
 clear e1 e2 HW HB0
 have hS0 : Blk w1.drew g 91 (rdA d (.slice A n c)) ∧ Blk w1.drew b0 49 #[.int .i64 f.kind, .int .i64 f.size, .int .i64 f.code] := ⟨HG.out, HB.out⟩
 have HU1 : Hid (Turn nowhere w w1.drew) := zH HU.out.drew
 have HE1 : Hid (Env s w1.drew) := zH (HE.out.turn (H0.out.next HU1.out))
 have HB1 : Hid (Bs w1.drew A n b) := zH HBS.out
 clear HG HBS HU HB
 refine wp_region_alw (fun W => Blk W g 91 (rdA d (.slice A n c)) ∧ Blk W b0 49 #[.int .i64 f.kind, .int .i64 f.size, .int .i64 f.code]) (by kernel_rfl) ?_
 generalize w1.drew = w2 at *
 refine aT (i := 0) (v := .pointer (some ⟨g, 0, none⟩)) rfl (by kernel_rfl) (by kernel_rfl) (fun W hW => exec_move rfl rfl) hS0 ?_
 simp only [zz]
 refine aT (i := 1) (v := .pointer (some ⟨g, 0, none⟩)) rfl (by kernel_rfl) (by kernel_rfl) (fun W hW => exec_nil rfl rfl) hS0 ?_
 simp only [zz]
 refine aT (i := 2) (v := .pointer (some ⟨g, 3, none⟩)) rfl (by kernel_rfl) (by kernel_rfl) (fun W hW => exec_field (off := 0) (d := 3) rfl rfl fieldOff_rest) hS0 ?_
 simp only [zz]
 refine aT (i := 3) (v := .slice A n c) rfl (by kernel_rfl) (by kernel_rfl) (fun W hW => exec_load1 rfl rfl (by kernel_rfl) (hW.1.cell 3)) hS0 ?_
 simp only [zz]
 refine aT (i := 4) (v := fmV f) rfl (by kernel_rfl) (by kernel_rfl) (fun W hW => gx_loads rfl rfl (blk_range hW.2) Tryz.underlying49 rfl (by rw [size_form]; rfl)) hS0 ?_
 simp only [zz]
 refine alw_step (i := 5) (by kernel_rfl) rfl rfl ?_
 intro K1 HK1
 go_wp2_with fail
 refine (take_all (f := f) HE1.out.rows HB1.out HNC.out HNL.out).mono ?_
 rintro e w3 ⟨A3, n3, c3, rfl, ho3, ht3⟩
 have hS1 : Blk w3 g 91 (rdA d (.slice A n c)) ∧ Blk w3 b0 49 #[.int .i64 f.kind, .int .i64 f.size, .int .i64 f.code] := ⟨hS0.1.turn ht3 (fun e => e), hS0.2.turn ht3 (fun e => e)⟩
 refine HK1.out _ _ ⟨hS1, ?_⟩
 have HT3 := zH ht3
 have HO3 := zH ho3
 clear HK1 hS0 ht3 ho3 HB1
 try simp only [zz]
 obtain ⟨r, hr⟩ : ∃ r, r = f.take b := ⟨_, rfl⟩
 rw [← hr] at HO3 ⊢
 have HR := zH hr
 clear hr
 refine aT (i := 6) (v := .tuple #[strV (tk r).1, .slice A3 n3 c3, .int .i64 (tk r).2.2]) rfl (by kernel_rfl) (by kernel_rfl) (fun W hW => exec_move rfl rfl) hS1 ?_
 simp only [zz]
 refine aT (i := 7) (v := strV (tk r).1) rfl (by kernel_rfl) (by kernel_rfl) (fun W hW => ix_extract rfl rfl rfl) hS1 ?_
 simp only [zz]
 refine aT (i := 8) (v := .slice A3 n3 c3) rfl (by kernel_rfl) (by kernel_rfl) (fun W hW => ix_extract rfl rfl rfl) hS1 ?_
 simp only [zz]
 refine aT (i := 9) (v := .int .i64 (tk r).2.2) rfl (by kernel_rfl) (by kernel_rfl) (fun W hW => ix_extract rfl rfl rfl) hS1 ?_
 simp only [zz]
 refine aT (i := 10) (v := strV (tk r).1) rfl (by kernel_rfl) (by kernel_rfl) (fun W hW => gx_assign rfl rfl) hS1 ?_
 simp only [zz]
 refine aT (i := 11) (v := .slice A3 n3 c3) rfl (by kernel_rfl) (by kernel_rfl) (fun W hW => gx_assign rfl rfl) hS1 ?_
 simp only [zz]
 refine aT (i := 12) (v := .int .i64 (tk r).2.2) rfl (by kernel_rfl) (by kernel_rfl) (fun W hW => gx_assign rfl rfl) hS1 ?_
 simp only [zz]
 refine alw_done rfl ?_
 have HG3 := zH hS1.1
 clear hS1
 refine NoPanic.normal ?_
 go_upto_region 2 with fail
 refine wp_region_lit ?_
 refine wM (.pointer (some ⟨g, 0, none⟩)) ?_
 simp only [zz]
 refine wM (.slice A3 n3 c3) ?_
 simp only [zz]
 refine wR (v := .pointer (some ⟨g, 0, none⟩)) rfl (exec_nil rfl rfl) ?_
 simp only [zz]
 refine wR (v := .pointer (some ⟨g, 3, none⟩)) rfl (exec_field (off := 0) (d := 3) rfl rfl fieldOff_rest) ?_
 simp only [zz]
 refine wpList_store1 (g := g) (i := 3) (v := .slice A3 n3 c3) rfl 26 (.tmp 24) (.tmp 22) rfl HG3.out rfl rfl (show 3 < 4 from by decide) (by rfl) (by rfl) (by kernel_rfl) ?_
 intro hb9 ht9
 simp only [zz]
 have HT9 := zH ht9
 have HB9 := zH (show Blk (World.setCell w3 ⟨g, 3, none⟩ (.slice A3 n3 c3)) g 91 (rdA d (.slice A3 n3 c3)) from hb9)
 have hne : 0 < n3 → ∀ b9 o9 s9, A3 = some ⟨b9, o9, s9⟩ → b9 ≠ g := by
  intro _ b9 o9 s9 e1 e2
  subst e1
  subst e2
  rcases HO3.out.2 with ⟨e, _⟩ | ⟨g9, cap, cur, e, _, hg9, _⟩
  ·injection e with e _ _
   cases e
  ·injection e with e _ _
   injection e with e
   injection e with e _ _
   subst e
   exact (show Blk w3 b9 _ cur from hg9).ne_ HG3.out (by decide) rfl
 have HBS9 := zH (bs_turn9 (own_bs HO3.out).1 ht9 hne)
 have HN9 := zH (own_bs HO3.out).2.1
 have HT8 := zH (show ∀ b9 o9 s9, A3 = some ⟨b9, o9, s9⟩ → ∃ cs, Blk (World.setCell w3 ⟨g, 3, none⟩ (.slice A3 n3 c3)) b9 5 cs from by
  intro b9 o9 s9 e1
  rcases HO3.out.2 with ⟨e, _⟩ | ⟨g9, cap, cur, e, _, hg9, _⟩
  ·injection e with e _ _
   rw [e1] at e
   cases e
  ·injection e with e _ _
   rw [e1] at e
   injection e with e
   injection e with e _ _
   subst e
   have hx : b9 ≠ g := fun e2 => by
    subst e2
    exact (show Blk w3 b9 _ cur from hg9).ne_ HG3.out (by decide) rfl
   exact ⟨cur, (show Blk w3 b9 _ cur from hg9).turn HT9.out (fun e2 => hx e2)⟩)
 have HL9 := zH (show n3 ≤ 140737488355328 from by
  have h1 := (own_bs HO3.out).1.1
  have h2 := tk_len f b
  rw [← HR.out, h1, HB8.out] at h2
  exact Nat.le_trans h2 HNL.out)
 clear hb9 ht9 hne HO3 HG3
 generalize World.setCell w3 ⟨g, 3, none⟩ _ = w4 at *
 have HG9 := zH (show Turn (only g) w w4 from ((HU1.out.next HT3.out).mono (fun _ _ e => e.elim)).next HT9.out)
 have HS4 := zH ((HE.out.turn (above H0.out HG0.out HG9.out)).sen)
 go_upto_region 3 with fail
 refine wp_region_lit ?_
 refine wM (strV (tk r).1) ?_
 simp only [zz]
 refine wM (.int .i64 no) ?_
 simp only [zz]
 refine wM (.int .i64 (tk r).2.2) ?_
 simp only [zz]
 refine wpList_op rfl fun K9 HK9 => ?_
 go_wp2_with fail
 refine (wrap_walk (e := (tk r).2.2) HS4.out).mono ?_
 rintro e w5 ⟨rfl, rfl⟩
 refine HK9.out _ _ ?_
 clear HK9
 try simp only [zz]
 refine wA (strV (tk r).1) ?_
 simp only [zz]
 refine wA (wrapV s no (tk r).2.2) ?_
 simp only [zz]
 go_wp2_with fail
 go_ret2
 rw [← HR.out]
 exact ⟨rfl, ⟨_, _, _, HB9.out, HBS9.out, HN9.out, HL9.out, fun _ b9 o9 s9 e => .inr (HT8.out b9 o9 s9 e)⟩, HG9.out, above H0.out HG0.out HG9.out⟩
theorem bw_turn (w : World) (e : TypeId) (s : ByteArray) : Turn nowhere w (Lib.bytesWorld w e s) := ⟨rfl, rfl, rfl, by rw [Lib.bytesWorld_size]; omega, fun k hk _ => Lib.bytesWorld_at_old w e s k hk⟩
theorem bw_bs (w : World) (l : List UInt8) (h : l.length ≤ 1000) : Bs (Lib.bytesWorld w 5 ⟨l.toArray⟩) (some ⟨w.heap.size, 0, none⟩) l.length l := by
 refine ⟨rfl, by unfold maxLen; omega, fun _ => ⟨_, 0, rfl, fun i hi => ?_⟩⟩
 rw [Nat.zero_add, Lib.bytesWorld_cell _ _ _ _ (by rw [str_size]; exact hi)]
section
variable {a : Act} {o : Oper} {W : World} {x y : Operand} {t u : TypeId}
theorem ux_conv {v r : Value} {W' : World} {s d : TypeId} (ho : o.op = .convert s d x) (hx : a.eval x = v) (h : (convert s d v).run Tryz.prog W = .ok r W') : (execOp a.eval o).run Tryz.prog W = .ok (.value r) W' := by
 unfold execOp
 simp only [ho, hx, h, Sem.run_bind, Sem.run_pure, Result.andThen_ok]
theorem ux_sub8 {n m r : Nat} (ho : o.op = .binOp .sub 5 x y 5) (hx : a.eval x = .int .u8 (n : Int)) (hy : a.eval y = .int .u8 (m : Int)) (hn : n < 256) (hm : m ≤ n) (hr : n - m = r) : (execOp a.eval o).run Tryz.prog W = .ok (.value (.int .u8 (r : Int))) W := by
 have hw : IntKind.u8.wrap ((n : Int) - (m : Int)) = (r : Int) := by rw [IntKind.wrap_u8]; omega
 unfold execOp
 simp only [ho, hx, hy]
 go_simp
 try (first | exact hw | (rw [hw]))
theorem ux_add8 {n m r : Nat} (ho : o.op = .binOp .add 5 x y 5) (hx : a.eval x = .int .u8 (n : Int)) (hy : a.eval y = .int .u8 (m : Int)) (hr : n + m = r) (hn : r < 256) : (execOp a.eval o).run Tryz.prog W = .ok (.value (.int .u8 (r : Int))) W := by
 have hw : IntKind.u8.wrap ((n : Int) + (m : Int)) = (r : Int) := by rw [IntKind.wrap_u8]; omega
 unfold execOp
 simp only [ho, hx, hy]
 go_simp
 try (first | exact hw | (rw [hw]))
theorem ux_mul {n m r : Nat} (ho : o.op = .binOp .mul 135 x y 135) (hx : a.eval x = .int .u64 (n : Int)) (hy : a.eval y = .int .u64 (m : Int)) (hr : n * m = r) (hn : r < 2 ^ 64) : (execOp a.eval o).run Tryz.prog W = .ok (.value (.int .u64 (r : Int))) W := by
 have hw : IntKind.u64.wrap ((n : Int) * (m : Int)) = (r : Int) := by
  rw [IntKind.wrap_u64, ← Int.natCast_mul, hr]
  omega
 unfold execOp
 simp only [ho, hx, hy]
 go_simp
 try (first | exact hw | (rw [hw]))
theorem ux_add {n m r : Nat} (ho : o.op = .binOp .add 135 x y 135) (hx : a.eval x = .int .u64 (n : Int)) (hy : a.eval y = .int .u64 (m : Int)) (hr : n + m = r) (hn : r < 2 ^ 64) : (execOp a.eval o).run Tryz.prog W = .ok (.value (.int .u64 (r : Int))) W := by
 have hw : IntKind.u64.wrap ((n : Int) + (m : Int)) = (r : Int) := by rw [IntKind.wrap_u64]; omega
 unfold execOp
 simp only [ho, hx, hy]
 go_simp
 try (first | exact hw | (rw [hw]))
theorem ux_lss {n m : Nat} {r : Bool} (ho : o.op = .binOp .lss 135 x y 135) (hx : a.eval x = .int .u64 (n : Int)) (hy : a.eval y = .int .u64 (m : Int)) (h : decide (n < m) = r) : (execOp a.eval o).run Tryz.prog W = .ok (.value (.bool r)) W := by
 unfold execOp
 simp only [ho, hx, hy]
 go_simp
 try exact h
theorem ux_gtr {n m : Nat} {r : Bool} (ho : o.op = .binOp .gtr 135 x y 135) (hx : a.eval x = .int .u64 (n : Int)) (hy : a.eval y = .int .u64 (m : Int)) (h : decide (m < n) = r) : (execOp a.eval o).run Tryz.prog W = .ok (.value (.bool r)) W := by
 unfold execOp
 simp only [ho, hx, hy]
 go_simp
 try exact h
theorem ux_geq8 {n m : Nat} {r : Bool} (ho : o.op = .binOp .geq 5 x y 5) (hx : a.eval x = .int .u8 (n : Int)) (hy : a.eval y = .int .u8 (m : Int)) (h : decide (m ≤ n) = r) : (execOp a.eval o).run Tryz.prog W = .ok (.value (.bool r)) W := by
 unfold execOp
 simp only [ho, hx, hy]
 go_simp
 try exact h
theorem ux_8to64 {n : Nat} (ho : o.op = .convert 5 135 x) (hx : a.eval x = .int .u8 (n : Int)) (hn : n < 256) : (execOp a.eval o).run Tryz.prog W = .ok (.value (.int .u64 (n : Int))) W := by
 have hw : IntKind.u64.wrap (n : Int) = (n : Int) := by rw [IntKind.wrap_u64]; omega
 unfold execOp
 simp only [ho, hx]
 go_simp
 try (first | exact hw | (rw [hw]))
end
theorem lower_walk {w : World} {c : Nat} (h : 97 ≤ c ∧ c ≤ 102) : Calls Tryz.prog 138 #[.int .u8 (c : Int)] w fun e w' => e = .returned (.int .u8 (c : Int)) ∧ w' = w := by
 have hc : c = 97 ∨ c = 98 ∨ c = 99 ∨ c = 100 ∨ c = 101 ∨ c = 102 := by omega
 rcases hc with rfl | rfl | rfl | rfl | rfl | rfl
 ·go_enter Tryz.func138, Tryz.ntmps138
  go_upto_region 1 with fail
  refine wp_region_lit ?_
  refine wM (.int .u8 97) ?_
  simp only [zz]
  refine wR (v := .int .u8 97) (w' := w) rfl (by kernel_rfl) ?_
  simp only [zz]
  refine wA (.int .u8 97) ?_
  simp only [zz]
  go_wp2_with fail
  go_ret
  exact ⟨rfl, rfl⟩
 ·go_enter Tryz.func138, Tryz.ntmps138
  go_upto_region 1 with fail
  refine wp_region_lit ?_
  refine wM (.int .u8 98) ?_
  simp only [zz]
  refine wR (v := .int .u8 98) (w' := w) rfl (by kernel_rfl) ?_
  simp only [zz]
  refine wA (.int .u8 98) ?_
  simp only [zz]
  go_wp2_with fail
  go_ret
  exact ⟨rfl, rfl⟩
 ·go_enter Tryz.func138, Tryz.ntmps138
  go_upto_region 1 with fail
  refine wp_region_lit ?_
  refine wM (.int .u8 99) ?_
  simp only [zz]
  refine wR (v := .int .u8 99) (w' := w) rfl (by kernel_rfl) ?_
  simp only [zz]
  refine wA (.int .u8 99) ?_
  simp only [zz]
  go_wp2_with fail
  go_ret
  exact ⟨rfl, rfl⟩
 ·go_enter Tryz.func138, Tryz.ntmps138
  go_upto_region 1 with fail
  refine wp_region_lit ?_
  refine wM (.int .u8 100) ?_
  simp only [zz]
  refine wR (v := .int .u8 100) (w' := w) rfl (by kernel_rfl) ?_
  simp only [zz]
  refine wA (.int .u8 100) ?_
  simp only [zz]
  go_wp2_with fail
  go_ret
  exact ⟨rfl, rfl⟩
 ·go_enter Tryz.func138, Tryz.ntmps138
  go_upto_region 1 with fail
  refine wp_region_lit ?_
  refine wM (.int .u8 101) ?_
  simp only [zz]
  refine wR (v := .int .u8 101) (w' := w) rfl (by kernel_rfl) ?_
  simp only [zz]
  refine wA (.int .u8 101) ?_
  simp only [zz]
  go_wp2_with fail
  go_ret
  exact ⟨rfl, rfl⟩
 ·go_enter Tryz.func138, Tryz.ntmps138
  go_upto_region 1 with fail
  refine wp_region_lit ?_
  refine wM (.int .u8 102) ?_
  simp only [zz]
  refine wR (v := .int .u8 102) (w' := w) rfl (by kernel_rfl) ?_
  simp only [zz]
  refine wA (.int .u8 102) ?_
  simp only [zz]
  go_wp2_with fail
  go_ret
  exact ⟨rfl, rfl⟩
theorem mhex_byte : ∀ c ∈ hexs, (48 ≤ c.toNat ∧ c.toNat ≤ 57 ∧ hexs.idxOf c = c.toNat - 48) ∨ (97 ≤ c.toNat ∧ c.toNat ≤ 102 ∧ hexs.idxOf c = c.toNat - 87) := by decide +kernel
theorem pint_walk {w : World} {t : List UInt8} (hl : t.length = 16) (ho : onlyOf t hexs = true) :
 Calls Tryz.prog 119 #[strV t, .int .i64 16, .int .i64 64] w fun e w' => e = .returned (.tuple #[.int .u64 ((hexVal t : Nat) : Int), .nilIface]) ∧ Turn nowhere w w' := by
 have HL := zH hl
 have HO := zH ho
 have hmv : IntKind.u64.wrap (IntKind.u64.wrap 18446744073709551616 - 1) = 18446744073709551615 := by
  rw [IntKind.wrap_u64, IntKind.wrap_u64]
  decide
 have HNE := zH (show (t == []) = false from by
  cases t with
  | nil => cases hl
  | cons x r => rfl)
 clear hl ho
 go_enter Tryz.func119, Tryz.ntmps119
 go_upto_region 1 with fail
 refine wp_region_lit ?_
 refine wM (strV t) ?_
 simp only [zz]
 refine wR (v := .bool false) rfl (by rw [← HNE.out]; exact exec_seql (m := []) rfl rfl rfl) ?_
 simp only [zz]
 go_upto_region 35 with fail
 refine wp_region_lit ?_
 refine wM (strV t) ?_
 simp only [zz]
 refine wR (v := .slice (some ⟨w.heap.size, 0, none⟩) 16 (grownCap w 16 0 5)) rfl (ux_conv rfl rfl (by have h := Lib.run_convert_string_bytes (P := Tryz.prog) w 9 26 5 ⟨t.toArray⟩ Tryz.underlying9 Tryz.underlying26 Tryz.underlying5; rw [str_size, HL.out] at h; exact h)) ?_
 simp only [zz]
 have hT1 := bw_turn w 5 ⟨t.toArray⟩
 have hB1 := bw_bs w t (by rw [HL.out]; decide)
 rw [HL.out] at hB1
 generalize grownCap w 16 0 5 = cap
 generalize Lib.bytesWorld w 5 ⟨t.toArray⟩ = w1 at *
 obtain ⟨gb, hgb⟩ : ∃ gb, gb = w.heap.size := ⟨_, rfl⟩
 rw [← hgb] at hB1 ⊢
 have HT1 := zH hT1
 have HB1 := zH hB1
 clear hT1 hB1 hgb
 refine wR (v := .int .i64 16) rfl (gx_len (n := 16) rfl rfl Tryz.underlying26) ?_
 simp only [zz]
 go_wp2_with fail
 clear hmv
 go_loopg [12, 13, 101] 16 (fun gk uv nv jv wr => ∃ (j acc : Nat), j + gk = 16 ∧ uv = .bool false ∧ jv = .int .i64 (j : Int) ∧ nv = .int .u64 (acc : Int) ∧ acc = hexVal (t.take j) ∧ Turn nowhere w1 wr)
 case atStart => exact ⟨0, 0, by omega, rfl, rfl, rfl, rfl, Turn.refl _ _⟩
 obtain ⟨j, acc, hjl, rfl, rfl, rfl, hacc, htr⟩ := hrel
 have HJL := zH hjl
 have HAE := zH hacc
 have HTR := zH htr
 clear hjl hacc htr
 by_cases hlt : j < 16
 ·have y1 : (j : Int) < 16 := by omega
  have HLT := zH hlt
  obtain ⟨x, hx⟩ : ∃ x, t[j]? = some x := ⟨_, List.getElem?_eq_getElem (show j < t.length from by rw [HL.out]; exact hlt)⟩
  have HTS := zH (show t.take (j + 1) = t.take j ++ [x] from by rw [List.take_add_one, hx]; rfl)
  have hxm : x ∈ hexs := onlyOf_mem HO.out (List.mem_of_getElem? hx)
  have HAC := zH (show acc < 1152921504606846976 from by
   have h1 := hexk_hexVal j (t.take j) (by rw [List.length_take, HL.out]; omega) (by
    have h := HO.out
    unfold onlyOf at h ⊢
    rw [List.all_eq_true] at h ⊢
    exact fun c hc => h c (List.mem_of_mem_take hc))
   rw [← HAE.out] at h1
   have h2 : 16 ^ j ≤ 16 ^ 15 := Nat.pow_le_pow_right (by decide) (by omega)
   have := h1.2
   omega)
  obtain ⟨b9, o9, e9, hcell⟩ := (bs_still HB1.out HTR.out).2.2 (by decide)
  injection e9 with e9
  injection e9 with e91 e92
  subst e91
  subst e92
  have cx : wr.cell? ⟨gb, j, none⟩ = some (.int .u8 (x.toNat : Int)) := by
   have h := hcell j hlt
   rw [Nat.zero_add, List.getD_eq_getElem?_getD, hx] at h
   exact h
  obtain ⟨v, hv⟩ : ∃ v, v = hexs.idxOf x := ⟨_, rfl⟩
  have HV := zH hv
  have hv16 : v < 16 := by rw [hv]; exact (hex_get hxm).1
  have HV16 := zH hv16
  have hxc := mhex_byte x hxm
  rw [← hv] at hxc
  generalize hxn : x.toNat = xn at *
  clear hlt hx hxm hcell hv hv16 hxn
  go_upto_region 37 with fail
  refine wp_region_lit ?_
  refine wR (v := .pointer (some ⟨gb, j, none⟩)) rfl (gx_iaddr (i := j) (sz := 1) rfl rfl rfl Tryz.underlying26 (by kernel_rfl) HLT.out (by omega)) ?_
  simp only [zz]
  refine wR (v := .int .u8 (xn : Int)) rfl (exec_load1 rfl rfl (by kernel_rfl) cx) ?_
  simp only [zz]
  refine wA (.int .u8 (xn : Int)) ?_
  simp only [zz]
  clear cx
  have y95 : ¬ ((xn : Int) = 95) := by omega
  rcases hxc with ⟨hx1, hx2, hx3⟩ | ⟨hx1, hx2, hx3⟩
  ·have y2 : (48 : Int) ≤ (xn : Int) := by omega
   have y3 : (xn : Int) ≤ 57 := by omega
   have HX := zH hx3
   have HX1 := zH hx1
   have HX2 := zH hx2
   clear hx1 hx2 hx3
   go_upto_region 43 with fail
   refine wp_region_lit ?_
   refine wM (.int .u8 (xn : Int)) ?_
   simp only [zz]
   refine wR (v := .int .u8 (v : Int)) rfl (ux_sub8 (m := 48) rfl rfl rfl (by have := HX2.out; omega) HX1.out HX.out.symm) ?_
   simp only [zz]
   refine wA (.int .u8 (v : Int)) ?_
   simp only [zz]
   go_upto_region 46 with fail
   refine wp_region_lit ?_
   refine wM (.int .u8 (v : Int)) ?_
   simp only [zz]
   refine wM (.int .i64 16) ?_
   simp only [zz]
   refine wR (v := .int .u8 16) (w' := wr) rfl (by kernel_rfl) ?_
   simp only [zz]
   refine wR (v := .bool false) rfl (ux_geq8 (n := v) (m := 16) rfl rfl rfl (decide_eq_false (by have := HV16.out; omega))) ?_
   simp only [zz]
   go_upto_region 48 with fail
   refine wp_region_lit ?_
   refine wM (.int .u64 (acc : Int)) ?_
   simp only [zz]
   refine wM (.int .u64 1152921504606846976) ?_
   simp only [zz]
   refine wR (v := .bool false) rfl (ux_geq (n := acc) (m := 1152921504606846976) rfl rfl rfl (decide_eq_false (by have := HAC.out; omega))) ?_
   simp only [zz]
   go_upto_region 50 with fail
   refine wp_region_lit ?_
   refine wM (.int .u64 (acc : Int)) ?_
   simp only [zz]
   refine wM (.int .i64 16) ?_
   simp only [zz]
   refine wR (v := .int .u64 16) (w' := wr) rfl (by kernel_rfl) ?_
   simp only [zz]
   refine wR (v := .int .u64 ((acc * 16 : Nat) : Int)) rfl (ux_mul (m := 16) rfl rfl rfl rfl (by have := HAC.out; omega)) ?_
   simp only [zz]
   refine wA (.int .u64 ((acc * 16 : Nat) : Int)) ?_
   simp only [zz]
   obtain ⟨a16, ha16⟩ : ∃ a16, a16 = acc * 16 := ⟨_, rfl⟩
   rw [← ha16]
   have HA16 := zH ha16
   clear ha16
   go_upto_region 51 with fail
   refine wp_region_lit ?_
   refine wM (.int .u64 (a16 : Int)) ?_
   simp only [zz]
   refine wM (.int .u8 (v : Int)) ?_
   simp only [zz]
   refine wR (v := .int .u64 (v : Int)) rfl (ux_8to64 rfl rfl (by have := HV16.out; omega)) ?_
   simp only [zz]
   refine wR (v := .int .u64 ((a16 + v : Nat) : Int)) rfl (ux_add rfl rfl rfl rfl (by have := HAC.out; have := HA16.out; have := HV16.out; omega)) ?_
   simp only [zz]
   refine wA (.int .u64 ((a16 + v : Nat) : Int)) ?_
   simp only [zz]
   obtain ⟨an, han⟩ : ∃ an, an = a16 + v := ⟨_, rfl⟩
   rw [← han]
   have HAN := zH han
   clear han
   go_upto_region 52 with fail
   refine wp_region_lit ?_
   refine wM (.int .u64 (an : Int)) ?_
   simp only [zz]
   refine wM (.int .u64 (a16 : Int)) ?_
   simp only [zz]
   refine wR (v := .bool false) rfl (ux_lss rfl rfl rfl (decide_eq_false (by have := HAN.out; omega))) ?_
   simp only [zz]
   refine wM (.bool false) ?_
   simp only [zz]
   refine wM (.int .u64 (an : Int)) ?_
   simp only [zz]
   refine wM (.int .u64 18446744073709551615) ?_
   simp only [zz]
   refine wR (v := .bool false) rfl (ux_gtr (m := 18446744073709551615) rfl rfl rfl (decide_eq_false (by have := HAC.out; have := HA16.out; have := HAN.out; have := HV16.out; omega))) ?_
   simp only [zz]
   refine wR (v := .bool false) rfl (ix_pickF rfl rfl rfl) ?_
   simp only [zz]
   go_wp2_with fail
   go_roundg (gk - 1)
   case measure => have := HJL.out; have := HLT.out; omega
   case rel => exact ⟨j + 1, an, by have := HJL.out; have := HLT.out; omega, rfl, by go_num, rfl, by rw [HAN.out, HA16.out, HAE.out, HTS.out, hexVal_snoc, HV.out], HTR.out⟩
  ·have y2 : (97 : Int) ≤ (xn : Int) := by omega
   have y3 : (xn : Int) ≤ 122 := by omega
   have y4 : (48 : Int) ≤ (xn : Int) := by omega
   have y5 : ¬ ((xn : Int) ≤ 57) := by omega
   have HX := zH hx3
   have HX1 := zH hx1
   have HX2 := zH hx2
   clear hx1 hx2 hx3
   go_upto_region 45 with (go_at_call 138; refine (lower_walk (c := xn) ⟨HX1.out, HX2.out⟩).mono ?_; rintro e w9 ⟨rfl, rfl⟩)
   refine wp_region_lit ?_
   refine wM (.int .u8 (xn : Int)) ?_
   simp only [zz]
   refine wpList_op rfl fun K9 HK9 => ?_
   go_wp2_with fail
   refine (lower_walk (c := xn) ⟨HX1.out, HX2.out⟩).mono ?_
   rintro e wr ⟨rfl, rfl⟩
   refine HK9.out _ _ ?_
   clear HK9
   try simp only [zz]
   refine wR (v := .int .u8 ((xn - 97 : Nat) : Int)) rfl (ux_sub8 (m := 97) rfl rfl rfl (by have := HX2.out; omega) HX1.out rfl) ?_
   simp only [zz]
   refine wR (v := .int .u8 (v : Int)) rfl (ux_add8 (m := 10) rfl rfl rfl (by have := HX.out; have := HX1.out; omega) (by have := HV16.out; omega)) ?_
   simp only [zz]
   refine wA (.int .u8 (v : Int)) ?_
   simp only [zz]
   go_upto_region 46 with fail
   refine wp_region_lit ?_
   refine wM (.int .u8 (v : Int)) ?_
   simp only [zz]
   refine wM (.int .i64 16) ?_
   simp only [zz]
   refine wR (v := .int .u8 16) (w' := wr) rfl (by kernel_rfl) ?_
   simp only [zz]
   refine wR (v := .bool false) rfl (ux_geq8 (n := v) (m := 16) rfl rfl rfl (decide_eq_false (by have := HV16.out; omega))) ?_
   simp only [zz]
   go_upto_region 48 with fail
   refine wp_region_lit ?_
   refine wM (.int .u64 (acc : Int)) ?_
   simp only [zz]
   refine wM (.int .u64 1152921504606846976) ?_
   simp only [zz]
   refine wR (v := .bool false) rfl (ux_geq (n := acc) (m := 1152921504606846976) rfl rfl rfl (decide_eq_false (by have := HAC.out; omega))) ?_
   simp only [zz]
   go_upto_region 50 with fail
   refine wp_region_lit ?_
   refine wM (.int .u64 (acc : Int)) ?_
   simp only [zz]
   refine wM (.int .i64 16) ?_
   simp only [zz]
   refine wR (v := .int .u64 16) (w' := wr) rfl (by kernel_rfl) ?_
   simp only [zz]
   refine wR (v := .int .u64 ((acc * 16 : Nat) : Int)) rfl (ux_mul (m := 16) rfl rfl rfl rfl (by have := HAC.out; omega)) ?_
   simp only [zz]
   refine wA (.int .u64 ((acc * 16 : Nat) : Int)) ?_
   simp only [zz]
   obtain ⟨a16, ha16⟩ : ∃ a16, a16 = acc * 16 := ⟨_, rfl⟩
   rw [← ha16]
   have HA16 := zH ha16
   clear ha16
   go_upto_region 51 with fail
   refine wp_region_lit ?_
   refine wM (.int .u64 (a16 : Int)) ?_
   simp only [zz]
   refine wM (.int .u8 (v : Int)) ?_
   simp only [zz]
   refine wR (v := .int .u64 (v : Int)) rfl (ux_8to64 rfl rfl (by have := HV16.out; omega)) ?_
   simp only [zz]
   refine wR (v := .int .u64 ((a16 + v : Nat) : Int)) rfl (ux_add rfl rfl rfl rfl (by have := HAC.out; have := HA16.out; have := HV16.out; omega)) ?_
   simp only [zz]
   refine wA (.int .u64 ((a16 + v : Nat) : Int)) ?_
   simp only [zz]
   obtain ⟨an, han⟩ : ∃ an, an = a16 + v := ⟨_, rfl⟩
   rw [← han]
   have HAN := zH han
   clear han
   go_upto_region 52 with fail
   refine wp_region_lit ?_
   refine wM (.int .u64 (an : Int)) ?_
   simp only [zz]
   refine wM (.int .u64 (a16 : Int)) ?_
   simp only [zz]
   refine wR (v := .bool false) rfl (ux_lss rfl rfl rfl (decide_eq_false (by have := HAN.out; omega))) ?_
   simp only [zz]
   refine wM (.bool false) ?_
   simp only [zz]
   refine wM (.int .u64 (an : Int)) ?_
   simp only [zz]
   refine wM (.int .u64 18446744073709551615) ?_
   simp only [zz]
   refine wR (v := .bool false) rfl (ux_gtr (m := 18446744073709551615) rfl rfl rfl (decide_eq_false (by have := HAC.out; have := HA16.out; have := HAN.out; have := HV16.out; omega))) ?_
   simp only [zz]
   refine wR (v := .bool false) rfl (ix_pickF rfl rfl rfl) ?_
   simp only [zz]
   go_wp2_with fail
   go_roundg (gk - 1)
   case measure => have := HJL.out; have := HLT.out; omega
   case rel => exact ⟨j + 1, an, by have := HJL.out; have := HLT.out; omega, rfl, by go_num, rfl, by rw [HAN.out, HA16.out, HAE.out, HTS.out, hexVal_snoc, HV.out], HTR.out⟩
 ·have y1 : ¬ ((j : Int) < 16) := by omega
  have HE := zH (show acc = hexVal t from by rw [HAE.out, List.take_of_length_le (by rw [HL.out]; omega)])
  clear hlt
  go_wp2_with fail
  go_ret2
  rw [← HE.out]
  exact ⟨rfl, HT1.out.next HTR.out⟩
theorem puint_walk {w : World} {t : List UInt8} (hl : t.length = 16) (ho : onlyOf t hexs = true) :
 Calls Tryz.prog 102 #[strV t, .int .i64 16, .int .i64 64] w fun e w' => e = .returned (.tuple #[.int .u64 ((hexVal t : Nat) : Int), .nilIface]) ∧ Turn nowhere w w' := by
 have HP := zH (pint_walk (w := w) hl ho)
 clear hl ho
 go_enter Tryz.func102, Tryz.ntmps102
 go_wp2_with (go_at_call 119; refine HP.out.mono ?_; rintro e w1 ⟨rfl, ht1⟩)
 go_ret2
 exact ⟨rfl, ht1⟩
open Go.Shelf
def Tryz.lays134_ren : Go.Shelf.Ren := ⟨fun | 134 => 103 | 129 => 120 | n => n, fun | 53 => 135 | 3 => 3 | 4 => 4 | 46 => 172 | 5 => 5 | 9 => 9 | n => n, fun | n => n⟩
theorem Tryz.lays134 : Go.Proofs.Lays.n134 Tryz.prog Tryz.lays134_ren := {
 mixed := by kernel_rfl
 f129 := Tryz.func120.trans (congrArg some (by kernel_rfl))
 f134 := Tryz.func103.trans (congrArg some (by kernel_rfl))
 t3 := Tryz.underlying3
 a3 := Tryz.isAgg3
 z3 := Tryz.sizeOf3
 v3 := Tryz.zeroValue3
 t4 := Tryz.underlying4
 a4 := Tryz.isAgg4
 z4 := Tryz.sizeOf4
 v4 := Tryz.zeroValue4
 t5 := Tryz.underlying5
 a5 := Tryz.isAgg5
 z5 := Tryz.sizeOf5
 v5 := Tryz.zeroValue5
 t9 := Tryz.underlying9
 a9 := Tryz.isAgg9
 z9 := Tryz.sizeOf9
 v9 := Tryz.zeroValue9
 t46 := Tryz.underlying172
 a46 := Tryz.isAgg172
 z46 := Tryz.sizeOf172
 v46 := Tryz.zeroValue172
 t53 := Tryz.underlying135
 a53 := Tryz.isAgg135
 z53 := Tryz.sizeOf135
 v53 := Tryz.zeroValue135 }
theorem bitLen_rng {h : Nat} (h0 : h ≠ 0) (hl : h < 2 ^ 64) : ∃ L, Lib.bitLen h = L + 1 ∧ L < 64 ∧ 2 ^ L ≤ h ∧ h < 2 ^ (L + 1) := by
 have key : ∀ (n h : Nat), h ≠ 0 → h < 2 ^ 64 → h < 2 ^ n → ∃ L, Lib.bitLen h = L + 1 ∧ 2 ^ L ≤ h ∧ h < 2 ^ (L + 1) := by
  intro n
  induction n with
  | zero => intro h h0 _ h1; simp at h1; omega
  | succ n ih =>
    intro h h0 hl h1
    by_cases h2 : h / 2 = 0
    ·have h3 : h = 1 := by omega
     subst h3
     exact ⟨0, by rw [Lib.bitLen_half 1 (by decide) (by decide)]; rfl, by decide, by decide⟩
    ·obtain ⟨L, a1, a2, a3⟩ := ih (h / 2) h2 (by omega) (by rw [Nat.pow_succ] at h1; omega)
     refine ⟨L + 1, by rw [Lib.bitLen_half h h0 hl, a1]; omega, by rw [Nat.pow_succ]; omega, by rw [Nat.pow_succ]; omega⟩
 obtain ⟨L, a1, a2, a3⟩ := key 64 h h0 hl hl
 refine ⟨L, a1, ?_, a2, a3⟩
 apply Nat.lt_of_not_le
 intro hge
 have := Nat.pow_le_pow_right (n := 2) (by decide) hge
 omega
theorem testBit_top {h L : Nat} (h1 : 2 ^ L ≤ h) (h2 : h < 2 ^ (L + 1)) : h.testBit L = true := by
 have h3 : h / 2 ^ L = 1 := Nat.div_eq_of_lt_le (by omega) (by rw [Nat.pow_succ] at h2; omega)
 rw [Nat.testBit_eq_decide_div_mod_eq, h3]
 rfl
theorem andNot_top {h L : Nat} (hL : L < 64) (h1 : 2 ^ L ≤ h) (h2 : h < 2 ^ (L + 1)) (hl : h < 2 ^ 64) : h &&& (18446744073709551615 - 2 ^ L) = h % 2 ^ L := by
 refine Nat.eq_of_testBit_eq fun i => ?_
 have e : (18446744073709551615 - 2 ^ L).testBit i = (decide (i < 64) && !decide (i = L)) := by
  have h3 : 18446744073709551615 - 2 ^ L = 2 ^ 64 - (2 ^ L + 1) := by omega
  rw [h3, Nat.testBit_two_pow_sub_succ (pow_lt64 hL), Nat.testBit_two_pow]
  congr 1
  by_cases hh : L = i <;> simp [hh, eq_comm]
 rw [Nat.testBit_and, e, Nat.testBit_mod_two_pow]
 by_cases hi : i < L
 ·have a1 : i < 64 := by omega
  have a2 : ¬ (i = L) := by omega
  simp [hi, a1, a2]
 ·by_cases hiL : i = L
  ·simp [hi, hiL]
  ·have : h.testBit i = false := Nat.testBit_lt_two_pow (Nat.lt_of_lt_of_le h2 (Nat.pow_le_pow_right (by decide) (by omega)))
   simp [hi, this]
theorem nums_top {h a L : Nat} (hL : L < 64) (h1 : 2 ^ L ≤ h) (h2 : h < 2 ^ (L + 1)) : nums h a = ((a + (64 - L) : Nat) : Int) :: nums (h % 2 ^ L) a := by
 refine rise_eq (rise_nums _ _) (List.pairwise_cons.2 ⟨fun x hx => ?_, rise_nums _ _⟩) fun x => ?_
 ·obtain ⟨i, hi, hb, rfl⟩ := mem_nums.1 hx
  rw [Nat.testBit_mod_two_pow, Bool.and_eq_true, decide_eq_true_eq] at hb
  omega
 ·rw [List.mem_cons, mem_nums, mem_nums]
  constructor
  ·rintro ⟨i, hi, hb, rfl⟩
   by_cases hiL : 63 - i = L
   ·left
    omega
   ·right
    have hlt : 63 - i < L := by
     apply Nat.lt_of_not_le
     intro hge
     have : h.testBit (63 - i) = false := Nat.testBit_lt_two_pow (Nat.lt_of_lt_of_le h2 (Nat.pow_le_pow_right (by decide) (by omega)))
     rw [hb] at this
     cases this
    exact ⟨i, hi, by rw [Nat.testBit_mod_two_pow, hb, decide_eq_true hlt]; rfl, rfl⟩
  ·rintro (rfl | ⟨i, hi, hb, rfl⟩)
   ·exact ⟨63 - L, by omega, by rw [show 63 - (63 - L) = L from by omega]; exact testBit_top h1 h2, by omega⟩
   ·rw [Nat.testBit_mod_two_pow, Bool.and_eq_true] at hb
    exact ⟨i, hi, hb.2, rfl⟩
theorem nums_len (h a : Nat) : (nums h a).length ≤ 64 := by
 unfold nums
 rw [List.length_map]
 have := List.length_filter_le (fun i => h.testBit (63 - i)) (List.range 64)
 simpa using this
def IRow (w : World) (B : Nat) (v : Value) (l : List Int) : Prop := w.ownsRow B 3 1 v l.length (l.map (Value.int .i64 ·))
theorem intInfo : (Tryz.prog.info? 3).map (fun i => (i.zero, i.size, i.bytes)) = some (some (.int .i64 0), 1, 8) := by kernel_rfl
theorem ints_append {W1 w : World} {v : Value} {l news : List Int} {A : Addr} {m c : Nat} {ty : TypeId} (hown : IRow w W1.heap.size v l) (hT : Turn nowhere W1 w) (hl : news.length = m) (hnews : ∀ j u, (news.map (Value.int .i64 ·))[j]? = some u → w.cell? (A.add j) = some u) (hs : l.length + m ≤ 1000) :
 ∃ A' c' w', (Builtin.append_ #[63, 63] ty #[v, .slice (some A) m c]).run Tryz.prog w = .ok (.slice A' (l.length + m) c') w' ∧ IRow w' W1.heap.size (.slice A' (l.length + m) c') (l ++ news) ∧ Turn nowhere W1 w' := by
 obtain ⟨i0, hi0, hz0, hz1, hz2⟩ := info_parts intInfo
 obtain ⟨v', w', h1, h2, h3, _, h5⟩ := run_append_own_at (P := Tryz.prog) w W1.heap.size 63 ty 3 i0 _ 1 8 Tryz.underlying63 hi0 hz0 hz1 hz2
  rfl (by omega) v l.length _ hown A m c (news.map (Value.int .i64 ·)) (by rw [List.length_map, hl, Nat.mul_one]) hnews (fun u hu => by
   obtain ⟨_, _, rfl⟩ := List.mem_map.1 hu
   rfl) (by unfold maxLen; omega) (by omega) hT.size
 have hform : ∃ A' c', v' = .slice A' (l.length + m) c' := by
  rcases h2.2 with ⟨rfl, h0⟩ | ⟨g, cap, cur, rfl, _⟩
  ·exact ⟨none, 0, by rw [h0]⟩
  ·exact ⟨_, _, rfl⟩
 obtain ⟨A', c', rfl⟩ := hform
 refine ⟨A', c', w', h1, ?_, hT.grown h3 fun g e hg => ?_⟩
 ·unfold IRow
  rw [List.length_append, hl, List.map_append]
  exact h2
 ·have := (hown.lt g e).1
  omega
theorem build_i1 (x : Int) (W : World) : (Instr.buildSlice 63 1 #[(0, .int .i64 x)]).run Tryz.prog W = .ok (.slice (some ⟨W.heap.size, 0, none⟩) 1 1) (W.alloc (.cells #[.int .i64 x] 3)) := by kernel_rfl
theorem irow_alloc {w : World} {B : Nat} {v : Value} {l : List Int} (h : IRow w B v l) (o : Obj) : IRow (w.alloc o) B v l := h.alloc o
theorem numbers_walk {w : World} {h a : Nat} (hl : h < 2 ^ 64) (ha : a ≤ 64) :
 Calls Tryz.prog 84 #[.int .u64 (h : Int), .int .i64 (a : Int)] w fun e w' => ∃ A c, e = .returned (.slice A (nums h a).length c) ∧ IRow w' w.heap.size (.slice A (nums h a).length c) (nums h a) ∧ Turn nowhere w w' := by
 have HA := zH ha
 have HH := zH hl
 have HN := zH (nums_len h a)
 clear hl ha
 go_enter Tryz.func84, Tryz.ntmps84
 go_wp2_with fail
 go_loopg [0, 5] (nums h a).length (fun gk hv lv wr => ∃ (q : Nat) (l : List Int) (A : Option Addr) (c : Nat), hv = .int .u64 (q : Int) ∧ lv = .slice A l.length c ∧ q < 2 ^ 64 ∧ (nums q a).length = gk ∧ l ++ nums q a = nums h a ∧ IRow wr w.heap.size (.slice A l.length c) l ∧ Turn nowhere w wr)
 case atStart => exact ⟨h, [], none, 0, rfl, rfl, HH.out, rfl, rfl, World.ownsRow_nil _ _ _ _, Turn.refl _ _⟩
 obtain ⟨q, l, A, c, rfl, rfl, hq, hgk, hln, hrow, htr⟩ := hrel
 have HQ := zH hq
 have HGK := zH hgk
 have HLN := zH hln
 have HRW := zH hrow
 have HTR := zH htr
 have HLL := zH (show l.length + (nums q a).length = (nums h a).length from by rw [← hln, List.length_append])
 clear hq hgk hln hrow htr
 by_cases h0 : q = 0
 ·have y1 : (q : Int) = 0 := by omega
  have HE := zH (show l = nums h a from by
   have := HLN.out
   rw [h0, nums_zero, List.append_nil] at this
   exact this)
  clear h0
  go_wp2_with fail
  go_ret
  rw [← HE.out]
  exact ⟨_, _, rfl, HRW.out, HTR.out⟩
 ·have y1 : ¬ ((q : Int) = 0) := by omega
  obtain ⟨L, hb, hL, h1, h2⟩ := bitLen_rng h0 HQ.out
  have HL := zH hL
  have H1 := zH h1
  have H2 := zH h2
  have HT := zH (nums_top (a := a) hL h1 h2)
  have hlz := Any.bits_LeadingZeros64 Tryz.lays134 (q : Int) wr (by omega) (by have := HQ.out; omega)
  rw [Int.toNat_natCast, hb, show (64 - ((L + 1 : Nat) : Int)) = ((63 - L : Nat) : Int) from by omega] at hlz
  have HLZ := zH hlz
  clear h0 hb hL h1 h2 hlz
  go_upto_region 3 with fail
  refine wp_region_lit ?_
  refine wM (.int .u64 (q : Int)) ?_
  simp only [zz]
  refine wpList_op rfl fun K9 HK9 => ?_
  go_wp2_with fail
  refine (HLZ.out).mono ?_
  rintro e wr ⟨rfl, rfl⟩
  refine HK9.out _ _ ?_
  clear HK9
  try simp only [zz]
  refine wR (v := .int .i64 ((64 - L : Nat) : Int)) rfl (ix_add rfl rfl rfl (by have := HL.out; omega) (by have := HL.out; omega)) ?_
  simp only [zz]
  refine wA (.int .i64 ((64 - L : Nat) : Int)) ?_
  simp only [zz]
  obtain ⟨k, hk⟩ : ∃ k, k = 64 - L := ⟨_, rfl⟩
  rw [← hk]
  have HK := zH hk
  clear hk
  have hap := ints_append (W1 := w) (w := wr.alloc (.cells #[.int .i64 ((a + k : Nat) : Int)] 3)) (ty := 63) (c := 1) (m := 1) (news := [((a + k : Nat) : Int)]) (A := ⟨wr.heap.size, 0, none⟩) (irow_alloc HRW.out _) (HTR.out.alloc _) rfl (fun j u hj => by
   match j, hj with
   | 0, hj => injection hj with hj; subst hj; exact (Blk.new wr 3 #[.int .i64 ((a + k : Nat) : Int)]).cell 0
   | j + 1, hj => simp at hj) (by have := HLL.out; have := HN.out; omega)
  obtain ⟨A2, c2, w2, hrun, hrow2, ht2⟩ := hap
  have HRUN := zH hrun
  have HRW2 := zH hrow2
  have HT2 := zH ht2
  clear hrun hrow2 ht2
  go_upto_region 4 with fail
  refine wp_region_lit ?_
  refine wM (.slice A l.length c) ?_
  simp only [zz]
  refine wM (.int .i64 (a : Int)) ?_
  simp only [zz]
  refine wM (.int .i64 (k : Int)) ?_
  simp only [zz]
  refine wR (v := .int .i64 ((a + k : Nat) : Int)) rfl (ix_add rfl rfl rfl (by omega) (by have := HK.out; have := HA.out; omega)) ?_
  simp only [zz]
  refine wR (v := .slice (some ⟨wr.heap.size, 0, none⟩) 1 1) (w' := wr.alloc (.cells #[.int .i64 ((a + k : Nat) : Int)] 3)) rfl (exec_buildSlice1 rfl rfl (build_i1 _ _)) ?_
  simp only [zz]
  refine wR (v := .slice A2 (l.length + 1) c2) (w' := w2) rfl (exec_append rfl rfl rfl HRUN.out) ?_
  simp only [zz]
  refine wA (.slice A2 (l.length + 1) c2) ?_
  simp only [zz]
  clear HRUN
  have HP := zH (show 2 ^ (64 - k) = 2 ^ L from by have := HK.out; have := HL.out; congr 1; omega)
  go_upto_region 5 with fail
  refine wp_region_lit ?_
  refine wM (.int .u64 (q : Int)) ?_
  simp only [zz]
  refine wM (.int .i64 (k : Int)) ?_
  simp only [zz]
  refine wpList_op rfl fun K9 HK9 => ?_
  go_wp2_with fail
  refine (bit_walk (n := k) (by have := HK.out; have := HL.out; omega)).mono ?_
  rintro e w2 ⟨rfl, rfl⟩
  refine HK9.out _ _ ?_
  clear HK9
  try simp only [zz]
  refine wR (v := .int .u64 ((q % 2 ^ L : Nat) : Int)) rfl (ux_andNot (m := 2 ^ (64 - k)) rfl rfl rfl HQ.out (by rw [HP.out]; exact pow_lt64 HL.out) (by rw [HP.out]; exact andNot_top HL.out H1.out H2.out HQ.out)) ?_
  simp only [zz]
  refine wA (.int .u64 ((q % 2 ^ L : Nat) : Int)) ?_
  simp only [zz]
  obtain ⟨q2, hq2⟩ : ∃ q2, q2 = q % 2 ^ L := ⟨_, rfl⟩
  rw [← hq2]
  have HQ2 := zH hq2
  clear hq2
  have HX := zH (show nums q a = ((a + k : Nat) : Int) :: nums q2 a from by rw [HT.out, HQ2.out, HK.out])
  go_wp2_with fail
  go_roundg (gk - 1)
  case measure =>
   have h := HGK.out
   rw [HX.out, List.length_cons] at h
   omega
  case rel =>
   refine ⟨q2, l ++ [((a + k : Nat) : Int)], A2, c2, rfl, by rw [List.length_append]; rfl, ?_, ?_, ?_, by rw [List.length_append]; exact HRW2.out, HT2.out⟩
   ·have h1 := HQ.out
    have h2 : q2 ≤ q := by rw [HQ2.out]; exact Nat.mod_le _ _
    omega
   ·have h := HGK.out
    rw [HX.out, List.length_cons] at h
    omega
   ·have h := HLN.out
    rw [HX.out] at h
    rw [← h, List.append_assoc]
    rfl
theorem take_err {k s c : Nat} {b : List UInt8} {e : Int} (hm : (nf k s c).may = true) (h : (nf k s c).take b = .error e) : e = 42 ∨ e = 43 := by
 by_cases h2 : k = 2
 ·subst h2
  rw [take_ll hm] at h
  split at h
  ·rename_i e' he
   injection h with h
   subst h
   exact takeAll_err he
  ·split at h
   ·exact takeAll_err h
   ·injection h with h
    exact .inl h.symm
 ·rw [take_nl h2 hm] at h
  exact takeAll_err h
theorem errV_wrap {s : Sents} {no e : Int} (h : e = 42 ∨ e = 43) : ErrV s (wrapV s no e) e := by
 rcases h with rfl | rfl
 ·exact ErrV.bytes no
 ·exact ErrV.short no
theorem rd_range {w : World} {g d : Nat} {v : Value} (h : Blk w g 91 (rdA d v)) : w.rangeAt g 0 (tongA d).toList := fun j u hj => by
 rw [Nat.zero_add, h.cell j]
 match j, hj with
 | 0, hj => exact hj
 | 1, hj => exact hj
 | 2, hj => exact hj
def PartP {α : Type} (s : Sents) (g d : Nat) (V : α → Value) (z : Value) (r : Except Int (α × List UInt8)) (w0 w : World) (e : Ending) (w' : World) : Prop :=
 (match r with
  | .ok (x, rest) => e = .returned (.tuple #[V x, .nilIface]) ∧ Rd w0 w' g d rest
  | .error k => ∃ v, e = .returned (.tuple #[z, v]) ∧ ErrV s v k ∧ k ≠ 0) ∧ Turn (only g) w w' ∧ Turn nowhere w0 w'
theorem only_trans {g : Nat} {w w1 w' : World} (h : Turn (only g) w w1) (h2 : Turn (only g) w1 w') : Turn (only g) w w' := h.next h2
theorem only_still {g : Nat} {w w1 w' : World} (h : Turn (only g) w w1) (h2 : Turn nowhere w1 w') : Turn (only g) w w' := h.trans h2 (fun _ _ e => e.elim)
theorem still_only {g : Nat} {w w' : World} (h : Turn nowhere w w') : Turn (only g) w w' := h.mono fun _ _ e => e.elim
theorem takeType_walk {s : Sents} {w0 w : World} {g d : Nat} {b : List UInt8} (hd : 1 ≤ d ∧ d ≤ 3) (he : Env s w0) (h0 : Turn nowhere w0 w) (hg0 : w0.heap.size ≤ g) (hr : Rd w0 w g d b) :
 Calls Tryz.prog 50 #[.pointer (some ⟨g, 0, none⟩)] w (PartP s g d (fun ty : Int => .int .i64 ty) (.int .i64 0) (takeType d b) w0 w) := by
 have HD := zH hd
 clear hd
 obtain ⟨A, n, c, hg, hbs, hnc, hnl, _⟩ := id hr
 have HE := zH he
 have H0 := zH h0
 have HG0 := zH hg0
 have HR := zH hr
 have HG := zH hg
 clear he h0 hg0 hr hg hbs hnc hnl
 go_enter Tryz.func50, Tryz.ntmps50
 go_upto_region 1 with fail
 refine wp_region_lit ?_
 refine wM (.pointer (some ⟨g, 0, none⟩)) ?_
 simp only [zz]
 refine wM (.pointer (some ⟨g, 0, none⟩)) ?_
 simp only [zz]
 refine wR (v := .pointer (some ⟨g, 0, none⟩)) rfl (exec_nil rfl rfl) ?_
 simp only [zz]
 refine wR (v := .pointer (some ⟨g, 0, none⟩)) rfl (exec_field (off := 0) (d := 0) rfl rfl (by kernel_rfl)) ?_
 simp only [zz]
 refine wR (v := tongV d) rfl (gx_loads rfl rfl (rd_range HG.out) Tryz.underlying70 rfl (by rw [size_tongue]; rfl)) ?_
 simp only [zz]
 refine wpList_op rfl fun K9 HK9 => ?_
 go_wp2_with fail
 refine (typeForm_walk).mono ?_
 rintro e w1 ⟨rfl, ht1⟩
 refine HK9.out _ _ ?_
 clear HK9
 try simp only [zz]
 have H1 := zH (H0.out.next ht1)
 have HR1 := zH (HR.out.still ht1)
 have HO1 := zH (still_only (g := g) ht1)
 clear ht1 HG
 refine wpList_op rfl fun K9 HK9 => ?_
 go_wp2_with fail
 refine (mtake_walk (s := s) (no := 0) (f := typeFm d) HE.out H1.out HG0.out HR1.out).mono ?_
 rintro e w2 ⟨rfl, hr2, ho2, h2⟩
 refine HK9.out _ _ ?_
 clear HK9
 try simp only [zz]
 have H2 := zH h2
 have HR2 := zH hr2
 have HO2 := zH (only_trans HO1.out ho2)
 clear h2 hr2 ho2 H1 HR1 HO1
 cases hk : (typeFm d).take b with
 | error k =>
   have hk4 : k = 42 ∨ k = 43 := take_err (k := 1) (s := 4) (c := d) (may_nf (by decide) HD.out (by decide)) hk
   have HK := zH hk4
   have HTT := zH (show takeType d b = .error k from by unfold takeType; rw [hk])
   have HV := zH (errV_wrap (s := s) (no := 0) hk4)
   obtain ⟨t9, x9, hv9⟩ := errV_some HV.out (by omega)
   rw [show tk (.error k) = (([] : List UInt8), ([] : List UInt8), k) from rfl] at *
   simp only []
   rw [hv9] at HV ⊢
   clear hk hk4 hv9
   refine wM (.tuple #[strV [], .iface t9 x9]) ?_
   simp only [zz]
   refine wE (strV []) ?_
   simp only [zz]
   refine wE (.iface t9 x9) ?_
   simp only [zz]
   refine wA (strV []) ?_
   simp only [zz]
   refine wA (.iface t9 x9) ?_
   simp only [zz]
   go_wp2_with fail
   go_ret2
   unfold PartP
   rw [HTT.out]
   exact ⟨⟨_, rfl, HV.out, by have := HK.out; omega⟩, HO2.out, H2.out⟩
 | ok p =>
   obtain ⟨t, rest⟩ := p
   obtain ⟨hrt, _⟩ := fm_one (by decide) HD.out (by decide) (show (nf 1 4 d).take b = .ok (t, rest) from hk)
   obtain ⟨hl4, hon⟩ := Fdd.right_n.1 hrt
   have HTT := zH (show takeType d b = match mtype d t with | none => .error 51 | some n => .ok (n, rest) from by unfold takeType; rw [hk]; rfl)
   have HR3 : Hid (Rd w0 w2 g d rest) := zH (by have := HR2.out; rw [hk] at this; exact this)
   have hw0 : wrapV s 0 (tk (.ok (t, rest))).2.2 = .nilIface := rfl
   rw [hw0, show (tk (.ok (t, rest))).1 = t from rfl]
   obtain ⟨vr, hvr⟩ := ver_one d
   have HVR := zH hvr
   have HL4 := zH hl4
   have HON := zH hon
   clear hk hrt hl4 hon hw0 hvr HR2
   refine wM (.tuple #[strV t, .nilIface]) ?_
   simp only [zz]
   refine wE (strV t) ?_
   simp only [zz]
   refine wE .nilIface ?_
   simp only [zz]
   refine wA (strV t) ?_
   simp only [zz]
   refine wA .nilIface ?_
   simp only [zz]
   obtain ⟨A3, n3, c3, hg3, _⟩ := id HR3.out
   have cv : w2.cell? ⟨g, 1, none⟩ = some (strV (ver d)) := hg3.cell 1
   have HNE := zH (show Lib.trimPrefix t (ver d) ≠ [] from by
    intro h
    have h4 := HL4.out
    unfold Lib.trimPrefix at h
    rw [HVR.out] at h
    split at h
    ·have := congrArg List.length h
     simp [h4] at this
    ·rw [h] at h4
     cases h4)
   have HAM := zH (show amountOf (Lib.trimPrefix t (ver d)) = (((val (Lib.trimPrefix t (ver d)) : Nat) : Int), 0) from by
    unfold amountOf
    rw [if_pos]
    have h4 := HL4.out
    have hon := HON.out
    refine ⟨?_, ?_, HNE.out⟩
    ·unfold Lib.trimPrefix
     split
     ·rw [List.length_drop]; omega
     ·omega
    ·unfold Lib.trimPrefix
     split
     ·unfold onlyOf at hon ⊢
      rw [List.all_eq_true] at hon ⊢
      exact fun c hc => hon c (List.mem_of_mem_drop hc)
     ·exact hon)
   clear hg3
   go_upto_region 4 with fail
   refine wp_region_lit ?_
   refine wM (strV t) ?_
   simp only [zz]
   refine wM (.pointer (some ⟨g, 0, none⟩)) ?_
   simp only [zz]
   refine wR (v := .pointer (some ⟨g, 0, none⟩)) rfl (exec_nil rfl rfl) ?_
   simp only [zz]
   refine wR (v := .pointer (some ⟨g, 0, none⟩)) rfl (exec_field (off := 0) (d := 0) rfl rfl (by kernel_rfl)) ?_
   simp only [zz]
   refine wR (v := .pointer (some ⟨g, 1, none⟩)) rfl (exec_field (off := 0) (d := 1) rfl rfl (by kernel_rfl)) ?_
   simp only [zz]
   refine wR (v := strV (ver d)) rfl (exec_load1 rfl rfl (by kernel_rfl) cv) ?_
   simp only [zz]
   refine wpList_op rfl fun K9 HK9 => ?_
   go_wp2_with fail
   refine (cut_walk).mono ?_
   rintro e w2 ⟨rfl, rfl⟩
   refine HK9.out _ _ ?_
   clear HK9
   try simp only [zz]
   clear cv
   have HMT := zH (show mtype d t = if (ver d).isPrefixOf t = true then if mtypes.contains ((val (Lib.trimPrefix t (ver d)) : Nat) : Int) = true then some ((val (Lib.trimPrefix t (ver d)) : Nat) : Int) else none else none from by
    unfold mtype
    by_cases hp : (ver d).isPrefixOf t = true
    ·rw [if_pos hp, if_pos hp]
     have e1 : t.drop 1 = Lib.trimPrefix t (ver d) := by rw [trim_t hp, HVR.out]; rfl
     rw [e1, if_pos]
     have h := HAM.out
     unfold amountOf at h
     split at h
     ·assumption
     ·injection h with _ h
      cases h
    ·rw [if_neg hp, if_neg hp])
   obtain ⟨tn, htn⟩ : ∃ tn, tn = Lib.trimPrefix t (ver d) := ⟨_, rfl⟩
   obtain ⟨ip, hip⟩ : ∃ ip, ip = (ver d).isPrefixOf t := ⟨_, rfl⟩
   rw [← htn] at HNE HAM HMT ⊢
   rw [← hip] at HMT ⊢
   clear htn hip
   refine wM (.tuple #[strV tn, .bool ip]) ?_
   simp only [zz]
   refine wE (strV tn) ?_
   simp only [zz]
   refine wE (.bool ip) ?_
   simp only [zz]
   refine wA (strV tn) ?_
   simp only [zz]
   refine wA (.bool ip) ?_
   simp only [zz]
   have ham := amount_walk (t := tn) w2 (fun h => absurd h HNE.out)
   rw [HAM.out] at ham
   have HAW := zH ham
   clear ham
   go_upto_region 5 with fail
   refine wp_region_lit ?_
   refine wM (strV tn) ?_
   simp only [zz]
   refine wpList_op rfl fun K9 HK9 => ?_
   go_wp2_with fail
   refine (HAW.out).mono ?_
   rintro e w4 ⟨rfl, ht4⟩
   refine HK9.out _ _ ?_
   clear HK9
   try simp only [zz]
   obtain ⟨vn, hvn⟩ : ∃ vn, vn = val tn := ⟨_, rfl⟩
   rw [← hvn] at HMT ⊢
   have H4 := zH (H2.out.next ht4)
   have HR4 := zH (HR3.out.still ht4)
   have HO4 := zH (only_still HO2.out ht4)
   clear ht4 hvn HAW H2 HR3 HO2
   refine wM (.tuple #[.int .i64 (vn : Int), .int .i64 0]) ?_
   simp only [zz]
   refine wE (.int .i64 (vn : Int)) ?_
   simp only [zz]
   refine wE (.int .i64 0) ?_
   simp only [zz]
   refine wA (.int .i64 (vn : Int)) ?_
   simp only [zz]
   refine wA (.int .i64 0) ?_
   simp only [zz]
   have g2 : w4.cell? ⟨1, 0, none⟩ = some (errS s.type_) := (HE.out.turn H4.out).sen.type_.1
   cases ip with
   | false =>
     have HF := zH (show takeType d b = .error 51 from by rw [HTT.out, HMT.out]; rfl)
     go_upto_region 7 with fail
     have hS0 : w4.drew.cell? ⟨1, 0, none⟩ = some (errS s.type_) := g2
     have H5 : Hid (Turn nowhere w0 w4.drew) := zH H4.out.drew
     have HO5 : Hid (Turn (only g) w w4.drew) := zH HO4.out.drew
     clear HR4 g2 H4 HO4
     refine wp_region_alw (fun W => W.cell? ⟨1, 0, none⟩ = some (errS s.type_)) (by kernel_rfl) ?_
     generalize w4.drew = w5 at *
     refine aT (i := 0) (v := errS s.type_) rfl (by kernel_rfl) (by kernel_rfl) (fun W hW => exec_load1 rfl rfl (by kernel_rfl) hW) hS0 ?_
     simp only [zz]
     refine aT (i := 1) (v := .int .i64 0) rfl (by kernel_rfl) (by kernel_rfl) (fun W hW => gx_assign rfl rfl) hS0 ?_
     simp only [zz]
     refine aT (i := 2) (v := errS s.type_) rfl (by kernel_rfl) (by kernel_rfl) (fun W hW => gx_assign rfl rfl) hS0 ?_
     simp only [zz]
     refine alw_done rfl ?_
     clear hS0
     refine NoPanic.normal ?_
     go_wp2_with fail
     go_ret2
     unfold PartP
     rw [HF.out]
     exact ⟨⟨_, rfl, ErrV.type_, by decide⟩, HO5.out, H5.out⟩
   | true =>
     have hit := isType_walk (w := w4) (n := (vn : Int))
     cases hty : mtypes.contains (vn : Int) with
     | false =>
       have HF := zH (show takeType d b = .error 51 from by rw [HTT.out, HMT.out, hty]; rfl)
       rw [hty] at hit
       have HIT := zH hit
       clear hit hty
       go_upto_region 7 with (go_at_call 45; refine HIT.out.mono ?_; rintro e w4 ⟨rfl, rfl⟩)
       have hS0 : w4.drew.cell? ⟨1, 0, none⟩ = some (errS s.type_) := g2
       have H5 : Hid (Turn nowhere w0 w4.drew) := zH H4.out.drew
       have HO5 : Hid (Turn (only g) w w4.drew) := zH HO4.out.drew
       clear HR4 g2 H4 HO4
       refine wp_region_alw (fun W => W.cell? ⟨1, 0, none⟩ = some (errS s.type_)) (by kernel_rfl) ?_
       generalize w4.drew = w5 at *
       refine aT (i := 0) (v := errS s.type_) rfl (by kernel_rfl) (by kernel_rfl) (fun W hW => exec_load1 rfl rfl (by kernel_rfl) hW) hS0 ?_
       simp only [zz]
       refine aT (i := 1) (v := .int .i64 0) rfl (by kernel_rfl) (by kernel_rfl) (fun W hW => gx_assign rfl rfl) hS0 ?_
       simp only [zz]
       refine aT (i := 2) (v := errS s.type_) rfl (by kernel_rfl) (by kernel_rfl) (fun W hW => gx_assign rfl rfl) hS0 ?_
       simp only [zz]
       refine alw_done rfl ?_
       clear hS0
       refine NoPanic.normal ?_
       go_wp2_with fail
       go_ret2
       unfold PartP
       rw [HF.out]
       exact ⟨⟨_, rfl, ErrV.type_, by decide⟩, HO5.out, H5.out⟩
     | true =>
       have HF := zH (show takeType d b = .ok ((vn : Int), rest) from by rw [HTT.out, HMT.out, hty]; rfl)
       rw [hty] at hit
       have HIT := zH hit
       clear hit hty
       go_wp2_with (go_at_call 45; refine HIT.out.mono ?_; rintro e w4 ⟨rfl, rfl⟩)
       go_ret2
       unfold PartP
       rw [HF.out]
       exact ⟨⟨rfl, HR4.out⟩, HO4.out, H4.out⟩
theorem takeBits_walk {s : Sents} {w0 w : World} {g d : Nat} {b : List UInt8} (hd : 1 ≤ d ∧ d ≤ 3) (he : Env s w0) (h0 : Turn nowhere w0 w) (hg0 : w0.heap.size ≤ g) (hr : Rd w0 w g d b) :
 Calls Tryz.prog 82 #[.pointer (some ⟨g, 0, none⟩)] w (PartP s g d (fun h : Nat => .int .u64 (h : Int)) (.int .u64 0) (takeHalf d b) w0 w) := by
 have HD := zH hd
 clear hd
 obtain ⟨A, n, c, hg, hbs, hnc, hnl, _⟩ := id hr
 have HE := zH he
 have H0 := zH h0
 have HG0 := zH hg0
 have HR := zH hr
 have HG := zH hg
 clear he h0 hg0 hr hg hbs hnc hnl
 go_enter Tryz.func82, Tryz.ntmps82
 go_upto_region 1 with fail
 refine wp_region_lit ?_
 refine wM (.pointer (some ⟨g, 0, none⟩)) ?_
 simp only [zz]
 refine wM (.pointer (some ⟨g, 0, none⟩)) ?_
 simp only [zz]
 refine wR (v := .pointer (some ⟨g, 0, none⟩)) rfl (exec_nil rfl rfl) ?_
 simp only [zz]
 refine wR (v := .pointer (some ⟨g, 0, none⟩)) rfl (exec_field (off := 0) (d := 0) rfl rfl (by kernel_rfl)) ?_
 simp only [zz]
 refine wR (v := tongV d) rfl (gx_loads rfl rfl (rd_range HG.out) Tryz.underlying70 rfl (by rw [size_tongue]; rfl)) ?_
 simp only [zz]
 refine wpList_op rfl fun K9 HK9 => ?_
 go_wp2_with fail
 refine (mapForm_walk).mono ?_
 rintro e w1 ⟨rfl, ht1⟩
 refine HK9.out _ _ ?_
 clear HK9
 try simp only [zz]
 have H1 := zH (H0.out.next ht1)
 have HR1 := zH (HR.out.still ht1)
 have HO1 := zH (still_only (g := g) ht1)
 clear ht1 HG
 refine wpList_op rfl fun K9 HK9 => ?_
 go_wp2_with fail
 refine (mtake_walk (s := s) (no := 1) (f := mapFm d) HE.out H1.out HG0.out HR1.out).mono ?_
 rintro e w2 ⟨rfl, hr2, ho2, h2⟩
 refine HK9.out _ _ ?_
 clear HK9
 try simp only [zz]
 have H2 := zH h2
 have HR2 := zH hr2
 have HO2 := zH (only_trans HO1.out ho2)
 clear h2 hr2 ho2 H1 HR1 HO1
 cases hk : (mapFm d).take b with
 | error k =>
   have hk4 : k = 42 ∨ k = 43 := take_err (k := 4) (s := 8) (c := d) (may_nf (by decide) HD.out (by decide)) hk
   have HK := zH hk4
   have HTT := zH (show takeHalf d b = .error k from by unfold takeHalf; rw [hk])
   have HV := zH (errV_wrap (s := s) (no := 1) hk4)
   obtain ⟨t9, x9, hv9⟩ := errV_some HV.out (by omega)
   rw [show tk (.error k) = (([] : List UInt8), ([] : List UInt8), k) from rfl] at *
   simp only []
   rw [hv9] at HV ⊢
   clear hk hk4 hv9
   refine wM (.tuple #[strV [], .iface t9 x9]) ?_
   simp only [zz]
   refine wE (strV []) ?_
   simp only [zz]
   refine wE (.iface t9 x9) ?_
   simp only [zz]
   refine wA (strV []) ?_
   simp only [zz]
   refine wA (.iface t9 x9) ?_
   simp only [zz]
   go_wp2_with fail
   go_ret2
   unfold PartP
   rw [HTT.out]
   exact ⟨⟨_, rfl, HV.out, by have := HK.out; omega⟩, HO2.out, H2.out⟩
 | ok p =>
   obtain ⟨t, rest⟩ := p
   obtain ⟨hrt, _⟩ := fm_one (by decide) HD.out (by decide) (show (nf 4 8 d).take b = .ok (t, rest) from hk)
   obtain ⟨hl16, hon⟩ := Fdd.right_b.1 hrt
   have HTT := zH (show takeHalf d b = .ok (hexVal t, rest) from by unfold takeHalf; rw [hk])
   have HR3 : Hid (Rd w0 w2 g d rest) := zH (by have := HR2.out; rw [hk] at this; exact this)
   have hw0 : wrapV s 1 (tk (.ok (t, rest))).2.2 = .nilIface := rfl
   rw [hw0, show (tk (.ok (t, rest))).1 = t from rfl]
   have HPU := zH (puint_walk (w := w2) hl16 hon)
   clear hk hrt hl16 hon hw0 HR2
   refine wM (.tuple #[strV t, .nilIface]) ?_
   simp only [zz]
   refine wE (strV t) ?_
   simp only [zz]
   refine wE .nilIface ?_
   simp only [zz]
   refine wA (strV t) ?_
   simp only [zz]
   refine wA .nilIface ?_
   simp only [zz]
   go_upto_region 4 with fail
   refine wp_region_lit ?_
   refine wM (strV t) ?_
   simp only [zz]
   refine wpList_op rfl fun K9 HK9 => ?_
   go_wp2_with fail
   refine (HPU.out).mono ?_
   rintro e w4 ⟨rfl, ht4⟩
   refine HK9.out _ _ ?_
   clear HK9
   try simp only [zz]
   refine wE (.int .u64 ((hexVal t : Nat) : Int)) ?_
   simp only [zz]
   refine wE .nilIface ?_
   simp only [zz]
   refine wA (.int .u64 ((hexVal t : Nat) : Int)) ?_
   simp only [zz]
   refine wA .nilIface ?_
   simp only [zz]
   have HT4 := zH ht4
   clear ht4
   go_wp2_with fail
   go_ret2
   unfold PartP
   rw [HTT.out]
   exact ⟨⟨rfl, HR3.out.still HT4.out⟩, only_still HO2.out HT4.out, H2.out.next HT4.out⟩
theorem irow_base {w : World} {B B' : Nat} {v : Value} {l : List Int} (h : IRow w B v l) (hB : B' ≤ B) : IRow w B' v l := by
 refine ⟨h.1, ?_⟩
 rcases h.2 with h0 | ⟨g, cap, cur, rfl, hb1, rest⟩
 ·exact .inl h0
 ·exact .inr ⟨g, cap, cur, rfl, Nat.le_trans hB hb1, rest⟩
theorem irow_turn {w w' : World} {B : Nat} {v : Value} {l : List Int} {F : Nat → Prop} (h : IRow w B v l) (ht : Turn F w w') (hF : ∀ k, v.ownBlock = some k → ¬ F k) : IRow w' B v l := by
 refine ⟨h.1, ?_⟩
 rcases h.2 with h0 | ⟨g, cap, cur, rfl, hb1, hgg, rest⟩
 ·exact .inl h0
 ·exact .inr ⟨g, cap, cur, rfl, hb1, (ht.block g (Array.getElem?_eq_some_iff.1 hgg).1 (hF g rfl)).trans hgg, rest⟩
def MapP (s : Sents) (g d : Nat) (r : Except Int (List Int × List UInt8)) (w0 w : World) (e : Ending) (w' : World) : Prop :=
 (match r with
  | .ok (l, rest) => ∃ A c, e = .returned (.tuple #[.slice A l.length c, .nilIface]) ∧ IRow w' w0.heap.size (.slice A l.length c) l ∧ Rd w0 w' g d rest
  | .error k => ∃ v, e = .returned (.tuple #[.slice none 0 0, v]) ∧ ErrV s v k ∧ k ≠ 0) ∧ Turn (only g) w w' ∧ Turn nowhere w0 w'
theorem half_lt {d h : Nat} {b rest : List UInt8} (hd : 1 ≤ d ∧ d ≤ 3) (hk : takeHalf d b = .ok (h, rest)) : h < 2 ^ 64 := (takeHalf_one hd hk).2
theorem and_top {h : Nat} : h &&& 2 ^ 63 = if h.testBit 63 = true then 2 ^ 63 else 0 := by
 refine Nat.eq_of_testBit_eq fun i => ?_
 rw [Nat.testBit_and, Nat.testBit_two_pow]
 by_cases hi : 63 = i
 ·subst hi
  cases hb : h.testBit 63
  ·simp
  ·rw [if_pos rfl, Nat.testBit_two_pow]
   simp
 ·cases hb : h.testBit 63
  ·simp [hi]
  ·rw [if_pos rfl, Nat.testBit_two_pow]
   simp [hi]
theorem takeMap_walk {s : Sents} {w0 w : World} {g d : Nat} {b : List UInt8} (hd : 1 ≤ d ∧ d ≤ 3) (he : Env s w0) (h0 : Turn nowhere w0 w) (hg0 : w0.heap.size ≤ g) (hr : Rd w0 w g d b) :
 Calls Tryz.prog 51 #[.pointer (some ⟨g, 0, none⟩)] w (MapP s g d (takeMap d b) w0 w) := by
 have HD := zH hd
 have HE := zH he
 have H0 := zH h0
 have HG0 := zH hg0
 have hb1 := takeBits_walk (s := s) hd he h0 hg0 hr
 cases hk : takeHalf d b with
 | error k =>
   rw [hk] at hb1
   have HB1 := zH hb1
   have HF := zH (show takeMap d b = .error k from by unfold takeMap; rw [hk])
   clear hd he h0 hg0 hr hk hb1
   go_enter Tryz.func51, Tryz.ntmps51
   go_upto_region 1 with fail
   refine wp_region_lit ?_
   refine wM (.pointer (some ⟨g, 0, none⟩)) ?_
   simp only [zz]
   refine wpList_op rfl fun K9 HK9 => ?_
   go_wp2_with fail
   refine (HB1.out).mono ?_
   rintro e w1 ⟨⟨v, rfl, hv, hk0⟩, ho1, h1⟩
   refine HK9.out _ _ ?_
   clear HK9
   try simp only [zz]
   have HV := zH hv
   have HK0 := zH hk0
   have HO1 := zH ho1
   have H1 := zH h1
   obtain ⟨t9, x9, rfl⟩ := errV_some hv hk0
   clear hv hk0 ho1 h1
   refine wM (.tuple #[.int .u64 0, .iface t9 x9]) ?_
   simp only [zz]
   refine wE (.int .u64 0) ?_
   simp only [zz]
   refine wE (.iface t9 x9) ?_
   simp only [zz]
   refine wA (.int .u64 0) ?_
   simp only [zz]
   refine wA (.iface t9 x9) ?_
   simp only [zz]
   go_wp2_with fail
   go_ret2
   unfold MapP
   rw [HF.out]
   exact ⟨⟨_, rfl, HV.out, HK0.out⟩, HO1.out, H1.out⟩
 | ok p =>
   obtain ⟨h, r1⟩ := p
   rw [hk] at hb1
   have HB1 := zH hb1
   have HL := zH (half_lt hd hk)
   have HF := zH (show takeMap d b = if h.testBit 63 = false then .ok (nums h 0, r1) else match takeHalf d r1 with
    | .error e => .error e
    | .ok (h2, r2) => if h2 = 0 then .error 53 else .ok (nums (h % 2 ^ 63) 0 ++ nums h2 64, r2) from by unfold takeMap; rw [hk]; rfl)
   clear hd he h0 hg0 hr hk hb1
   go_enter Tryz.func51, Tryz.ntmps51
   go_upto_region 1 with fail
   refine wp_region_lit ?_
   refine wM (.pointer (some ⟨g, 0, none⟩)) ?_
   simp only [zz]
   refine wpList_op rfl fun K9 HK9 => ?_
   go_wp2_with fail
   refine (HB1.out).mono ?_
   rintro e w1 ⟨⟨rfl, hr1⟩, ho1, h1⟩
   refine HK9.out _ _ ?_
   clear HK9
   try simp only [zz]
   have HR1 := zH hr1
   have HO1 := zH ho1
   have H1 := zH h1
   clear hr1 ho1 h1 HB1
   refine wM (.tuple #[.int .u64 (h : Int), .nilIface]) ?_
   simp only [zz]
   refine wE (.int .u64 (h : Int)) ?_
   simp only [zz]
   refine wE .nilIface ?_
   simp only [zz]
   refine wA (.int .u64 (h : Int)) ?_
   simp only [zz]
   refine wA .nilIface ?_
   simp only [zz]
   go_upto_region 4 with fail
   refine wp_region_lit ?_
   refine wM (.int .u64 (h : Int)) ?_
   simp only [zz]
   refine wpList_op rfl fun K9 HK9 => ?_
   go_wp2_with fail
   refine (bit_walk (n := 1) (by decide)).mono ?_
   rintro e w1 ⟨rfl, rfl⟩
   refine HK9.out _ _ ?_
   clear HK9
   try simp only [zz]
   obtain ⟨q, hq⟩ : ∃ q, q = h &&& 2 ^ 63 := ⟨_, rfl⟩
   have HQ := zH hq
   have HQA := zH (show q = if h.testBit 63 = true then 2 ^ 63 else 0 from by rw [hq]; exact and_top)
   clear hq
   refine wR (v := .int .u64 (q : Int)) rfl (ux_and (m := 2 ^ 63) rfl rfl rfl HL.out (by decide) HQ.out.symm) ?_
   simp only [zz]
   cases hb : h.testBit 63 with
   | false =>
     have hq0 : q = 0 := by rw [HQA.out, hb]; rfl
     subst hq0
     have HF2 := zH (show takeMap d b = .ok (nums h 0, r1) from by rw [HF.out, if_pos hb])
     refine wR (v := .bool true) rfl (ux_eql (m := 0) rfl rfl rfl rfl) ?_
     simp only [zz]
     clear hb HF HQ HQA
     go_upto_region 5 with fail
     refine wp_region_lit ?_
     refine wM (.int .u64 (h : Int)) ?_
     simp only [zz]
     refine wpList_op rfl fun K9 HK9 => ?_
     go_wp2_with fail
     refine (numbers_walk (a := 0) HL.out (by decide)).mono ?_
     rintro e w2 ⟨A2, c2, rfl, hrow, ht2⟩
     refine HK9.out _ _ ?_
     clear HK9
     try simp only [zz]
     have HRW := zH (irow_base hrow H1.out.size)
     have HT2 := zH ht2
     clear hrow ht2
     refine wA (.slice A2 (nums h 0).length c2) ?_
     simp only [zz]
     refine wA .nilIface ?_
     simp only [zz]
     go_wp2_with fail
     go_ret2
     unfold MapP
     rw [HF2.out]
     exact ⟨⟨_, _, rfl, HRW.out, HR1.out.still HT2.out⟩, only_still HO1.out HT2.out, H1.out.next HT2.out⟩
   | true =>
     have hq0 : q = 2 ^ 63 := by rw [HQA.out, hb]; rfl
     have HF2 := zH (show takeMap d b = match takeHalf d r1 with
      | .error e => .error e
      | .ok (h2, r2) => if h2 = 0 then .error 53 else .ok (nums (h % 2 ^ 63) 0 ++ nums h2 64, r2) from by rw [HF.out, if_neg (by rw [hb]; decide)])
     have HGE := zH (show 2 ^ 63 ≤ h from Nat.ge_two_pow_of_testBit hb)
     refine wR (v := .bool false) rfl (ux_eql (m := 0) rfl rfl rfl (by rw [hq0]; rfl)) ?_
     simp only [zz]
     clear hb hq0 HF HQ HQA
     have hb2 := takeBits_walk (s := s) HD.out HE.out H1.out HG0.out HR1.out
     go_upto_region 6 with fail
     refine wp_region_lit ?_
     refine wM (.pointer (some ⟨g, 0, none⟩)) ?_
     simp only [zz]
     cases hk2 : takeHalf d r1 with
     | error k =>
       rw [hk2] at hb2
       have HB2 := zH hb2
       have HF3 := zH (show takeMap d b = .error k from by rw [HF2.out, hk2])
       clear hk2 hb2
       refine wpList_op rfl fun K9 HK9 => ?_
       go_wp2_with fail
       refine (HB2.out).mono ?_
       rintro e w2 ⟨⟨v, rfl, hv, hk0⟩, ho2, h2⟩
       refine HK9.out _ _ ?_
       clear HK9
       try simp only [zz]
       have HV := zH hv
       have HK0 := zH hk0
       have HO2 := zH (only_trans HO1.out ho2)
       have H2 := zH h2
       obtain ⟨t9, x9, rfl⟩ := errV_some hv hk0
       clear hv hk0 ho2 h2
       refine wM (.tuple #[.int .u64 0, .iface t9 x9]) ?_
       simp only [zz]
       refine wE (.int .u64 0) ?_
       simp only [zz]
       refine wE (.iface t9 x9) ?_
       simp only [zz]
       refine wA (.int .u64 0) ?_
       simp only [zz]
       refine wA (.iface t9 x9) ?_
       simp only [zz]
       go_wp2_with fail
       go_ret2
       unfold MapP
       rw [HF3.out]
       exact ⟨⟨_, rfl, HV.out, HK0.out⟩, HO2.out, H2.out⟩
     | ok p2 =>
       obtain ⟨h2n, r2⟩ := p2
       rw [hk2] at hb2
       have HB2 := zH hb2
       have HL2 := zH (half_lt HD.out hk2)
       have HF3 := zH (show takeMap d b = if h2n = 0 then .error 53 else .ok (nums (h % 2 ^ 63) 0 ++ nums h2n 64, r2) from by rw [HF2.out, hk2])
       clear hk2 hb2
       refine wpList_op rfl fun K9 HK9 => ?_
       go_wp2_with fail
       refine (HB2.out).mono ?_
       rintro e w2 ⟨⟨rfl, hr2⟩, ho2, h2⟩
       refine HK9.out _ _ ?_
       clear HK9
       try simp only [zz]
       have HR2 := zH hr2
       have HO2 := zH (only_trans HO1.out ho2)
       have H2 := zH h2
       clear hr2 ho2 h2 HB2 HR1 HO1
       refine wM (.tuple #[.int .u64 (h2n : Int), .nilIface]) ?_
       simp only [zz]
       refine wE (.int .u64 (h2n : Int)) ?_
       simp only [zz]
       refine wE .nilIface ?_
       simp only [zz]
       refine wA (.int .u64 (h2n : Int)) ?_
       simp only [zz]
       refine wA .nilIface ?_
       simp only [zz]
       by_cases hz : h2n = 0
       ·have HF4 := zH (show takeMap d b = .error 53 from by rw [HF3.out, if_pos hz])
        have y1 : (h2n : Int) = 0 := by omega
        have g4 : w2.cell? ⟨3, 0, none⟩ = some (errS s.map) := (HE.out.turn H2.out).sen.map.1
        clear hz
        go_upto_region 10 with fail
        have hS0 : w2.drew.cell? ⟨3, 0, none⟩ = some (errS s.map) := g4
        have H5 : Hid (Turn nowhere w0 w2.drew) := zH H2.out.drew
        have HO5 : Hid (Turn (only g) w w2.drew) := zH HO2.out.drew
        clear HR2 g4 H2 HO2
        refine wp_region_alw (fun W => W.cell? ⟨3, 0, none⟩ = some (errS s.map)) (by kernel_rfl) ?_
        generalize w2.drew = w5 at *
        refine aT (i := 0) (v := errS s.map) rfl (by kernel_rfl) (by kernel_rfl) (fun W hW => exec_load1 rfl rfl (by kernel_rfl) hW) hS0 ?_
        simp only [zz]
        refine aT (i := 1) (v := .slice none 0 0) rfl (by kernel_rfl) (by kernel_rfl) (fun W hW => gx_assign rfl rfl) hS0 ?_
        simp only [zz]
        refine aT (i := 2) (v := errS s.map) rfl (by kernel_rfl) (by kernel_rfl) (fun W hW => gx_assign rfl rfl) hS0 ?_
        simp only [zz]
        refine alw_done rfl ?_
        clear hS0
        refine NoPanic.normal ?_
        go_wp2_with fail
        go_ret2
        unfold MapP
        rw [HF4.out]
        exact ⟨⟨_, rfl, ErrV.map, by decide⟩, HO5.out, H5.out⟩
       ·have HF4 := zH (show takeMap d b = .ok (nums (h % 2 ^ 63) 0 ++ nums h2n 64, r2) from by rw [HF3.out, if_neg hz])
        have y1 : ¬ ((h2n : Int) = 0) := by omega
        have HNN := zH (show nums h2n 64 ≠ [] from by
         obtain ⟨L, _, hL, a1, a2⟩ := bitLen_rng hz HL2.out
         rw [nums_top (a := 64) hL a1 a2]
         exact fun h => by cases h)
        clear hz
        go_upto_region 11 with fail
        refine wp_region_lit ?_
        refine wM (.int .u64 (h : Int)) ?_
        simp only [zz]
        refine wpList_op rfl fun K9 HK9 => ?_
        go_wp2_with fail
        refine (bit_walk (n := 1) (by decide)).mono ?_
        rintro e w2 ⟨rfl, rfl⟩
        refine HK9.out _ _ ?_
        clear HK9
        try simp only [zz]
        obtain ⟨q9, hq9⟩ : ∃ q9, q9 = h % 2 ^ 63 := ⟨_, rfl⟩
        have HQ9 := zH (show h &&& (18446744073709551615 - 2 ^ 63) = q9 from by rw [hq9]; exact andNot_top (by decide) HGE.out HL.out HL.out)
        have HQL := zH (show q9 < 2 ^ 64 from by rw [hq9]; omega)
        rw [← hq9] at HF4
        clear hq9
        refine wR (v := .int .u64 (q9 : Int)) rfl (ux_andNot (m := 2 ^ 63) rfl rfl rfl HL.out (by decide) HQ9.out) ?_
        simp only [zz]
        refine wpList_op rfl fun K9 HK9 => ?_
        go_wp2_with fail
        refine (numbers_walk (a := 0) HQL.out (by decide)).mono ?_
        rintro e w3 ⟨A3, c3, rfl, hrow3, ht3⟩
        refine HK9.out _ _ ?_
        clear HK9
        try simp only [zz]
        have HRW3 := zH hrow3
        have HT3 := zH ht3
        clear hrow3 ht3
        refine wM (.int .u64 (h2n : Int)) ?_
        simp only [zz]
        refine wpList_op rfl fun K9 HK9 => ?_
        go_wp2_with fail
        refine (numbers_walk (a := 64) HL2.out (by decide)).mono ?_
        rintro e w4 ⟨A4, c4, rfl, hrow4, ht4⟩
        refine HK9.out _ _ ?_
        clear HK9
        try simp only [zz]
        have HRW4 := zH hrow4
        have HRW34 := zH (irow_turn HRW3.out ht4 (fun _ _ e=>e))
        have HT4 := zH (HT3.out.next ht4)
        clear hrow4 ht4
        obtain ⟨l3, hl3⟩ : ∃ l3, l3 = nums q9 0 := ⟨_, rfl⟩
        obtain ⟨l4, hl4⟩ : ∃ l4, l4 = nums h2n 64 := ⟨_, rfl⟩
        have HLS := zH (show l3.length + l4.length ≤ 1000 from by
         have a1 := nums_len q9 0
         have a2 := nums_len h2n 64
         rw [hl3, hl4]
         omega)
        rw [← hl3] at HF4 HRW3 HRW34 ⊢
        rw [← hl4] at HF4 HRW4 HNN ⊢
        clear hl3 hl4
        have hform : ∃ g4, A4 = some ⟨g4, 0, none⟩ := by
         rcases HRW4.out.2 with ⟨e, h0⟩ | ⟨g4, cap, cur, e, _⟩
         ·exact absurd (List.eq_nil_of_length_eq_zero h0) HNN.out
         ·injection e with e _ _
          exact ⟨g4, e⟩
        obtain ⟨g4, rfl⟩ := hform
        have hap := ints_append (W1 := w2) (w := w4) (ty := 63) (c := c4) (m := l4.length) (news := l4) (A := ⟨g4, 0, none⟩) HRW34.out HT4.out rfl (fun j u hj => World.ownsRow.cells (g := g4) HRW4.out rfl j u hj) HLS.out
        obtain ⟨A5, c5, w5, hrun, hrow5, ht5⟩ := hap
        have HRUN := zH hrun
        have HRW5 := zH (irow_base hrow5 H2.out.size)
        have HT5 := zH ht5
        clear hrun hrow5 ht5
        refine wR (v := .slice A5 (l3.length + l4.length) c5) (w' := w5) rfl (exec_append rfl rfl rfl HRUN.out) ?_
        simp only [zz]
        refine wA (.slice A5 (l3.length + l4.length) c5) ?_
        simp only [zz]
        refine wA .nilIface ?_
        simp only [zz]
        clear HRUN
        go_wp2_with fail
        go_ret2
        unfold MapP
        rw [HF4.out]
        have HLN : (l3 ++ l4).length = l3.length + l4.length := List.length_append
        simp only []
        rw [HLN]
        exact ⟨⟨_, _, rfl, HRW5.out, HR2.out.still HT5.out⟩, only_still HO2.out HT5.out, H2.out.next HT5.out⟩
theorem make_forms (n : Nat) (hn : n ≤ 200) (w : World) : (Instr.makeSlice 140 (.int .i64 (n : Int)) (.int .i64 (n : Int))).run Tryz.prog w = .ok (.slice (some ⟨w.heap.size, 0, none⟩) n n) (w.alloc (.cells (madeCells #[.int .i64 0, .int .i64 0, .int .i64 0] (n * 3)) 49)) := by
 have hi : (Tryz.prog.info? 49).map (fun i => (i.zero, i.size, i.bytes)) = some (some (.agg #[.int .i64 0, .int .i64 0, .int .i64 0]), 3, 24) := by kernel_rfl
 obtain ⟨j0, hj0, hjz, hj1, hj2⟩ := info_parts hi
 have h := run_makeSlice (P := Tryz.prog) w 140 49 j0 _ Tryz.underlying140 hj0 hjz .i64 .i64 (n : Int) (n : Int) (by omega) (by omega) (by rw [hj1]; omega) (by rw [hj2]; omega) (by omega)
 rw [h, hj1]
 rfl
theorem make_fields (n : Nat) (hn : n ≤ 200) (w : World) : (Instr.makeSlice 22 (.int .i64 (n : Int)) (.int .i64 (n : Int))).run Tryz.prog w = .ok (.slice (some ⟨w.heap.size, 0, none⟩) n n) (w.alloc (.cells (madeCells #[.int .i64 0, strV []] (n * 2)) 40)) := by
 have hi : (Tryz.prog.info? 40).map (fun i => (i.zero, i.size, i.bytes)) = some (some (.agg #[.int .i64 0, strV []]), 2, 24) := by kernel_rfl
 obtain ⟨j0, hj0, hjz, hj1, hj2⟩ := info_parts hi
 have h := run_makeSlice (P := Tryz.prog) w 22 40 j0 _ Tryz.underlying22 hj0 hjz .i64 .i64 (n : Int) (n : Int) (by omega) (by omega) (by rw [hj1]; omega) (by rw [hj2]; omega) (by omega)
 rw [h, hj1]
 rfl
def Fms (w : World) (gf d n : Nat) (l : List Int) (j : Nat) : Prop := ∃ C, Blk w gf 49 C ∧ C.size = n * 3 ∧ ∀ i no, i < j → l[i]? = some no → ∃ m, mform d no = some m ∧ C[i * 3]? = some (.int .i64 m.kind) ∧ C[i * 3 + 1]? = some (.int .i64 m.size) ∧ C[i * 3 + 2]? = some (.int .i64 m.code)
theorem Fms.turn {w w' : World} {gf d n j : Nat} {l : List Int} {F : Nat → Prop} (h : Fms w gf d n l j) (ht : Turn F w w') (hF : ¬ F gf) : Fms w' gf d n l j := by
 obtain ⟨C, h1, h2, h3⟩ := h
 exact ⟨C, h1.turn ht hF, h2, h3⟩
theorem Fms.range {w : World} {gf d n j i : Nat} {l : List Int} {no : Int} {m : Fm} (h : Fms w gf d n l j) (hi : i < j) (hn : l[i]? = some no) (hm : mform d no = some m) : w.rangeAt gf (i * 3) [.int .i64 m.kind, .int .i64 m.size, .int .i64 m.code] := by
 obtain ⟨C, h1, h2, h3⟩ := h
 obtain ⟨m', hm', a0, a1, a2⟩ := h3 i no hi hn
 rw [hm] at hm'
 injection hm' with hm'
 subst hm'
 intro k u hk
 rw [h1.cell]
 match k, hk with
 | 0, hk => injection hk with hk; subst hk; exact a0
 | 1, hk => injection hk with hk; subst hk; exact a1
 | 2, hk => injection hk with hk; subst hk; exact a2
theorem irow_cell {w : World} {B n c : Nat} {A : Option Addr} {l : List Int} (h : IRow w B (.slice A n c) l) {j : Nat} {x : Int} (hx : l[j]? = some x) : ∃ gl, A = some ⟨gl, 0, none⟩ ∧ w.cell? ⟨gl, j, none⟩ = some (.int .i64 x) := by
 have hj := (List.getElem?_eq_some_iff.1 hx).1
 rcases id h.2 with ⟨e, h0⟩ | ⟨g, cap, cur, e, _⟩
 ·omega
 ·injection e with e _ _
  subst e
  refine ⟨g, rfl, ?_⟩
  have := World.ownsRow.cells (g := g) h rfl j (.int .i64 x) (by rw [List.getElem?_map, hx]; rfl)
  rwa [add_nat, Nat.zero_add] at this
theorem irow_ne {w : World} {B n c g : Nat} {A : Option Addr} {l : List Int} {t : TypeId} {cs : Array Value} (h : IRow w B (.slice A n c) l) (hg : Blk w g t cs) (ht : t ≠ 3) : ∀ k, (Value.slice A n c).ownBlock = some k → k ≠ g := by
 intro k hk e
 subst e
 rcases h.2 with ⟨e, _⟩ | ⟨g', cap, cur, e, _, hg', _⟩
 ·injection e with e _ _
  subst e
  cases hk
 ·injection e with e _ _
  subst e
  have hk' : g' = k := Option.some.inj hk
  subst hk'
  exact (show Blk w g' 3 cur from hg').ne_ hg (fun h => ht h.symm) rfl
def FsP (s : Sents) (g d : Nat) (r : Except Int (List Fld × List UInt8)) (w0 w : World) (e : Ending) (w' : World) : Prop :=
 (match r with
  | .ok (fs, rest) => ∃ gF, e = .returned (.tuple #[.slice (some ⟨gF, 0, none⟩) fs.length fs.length, .nilIface]) ∧ Fl w' (some ⟨gF, 0, none⟩) fs.length fs ∧ w0.heap.size ≤ gF ∧ w.heap.size ≤ gF ∧ Rd w0 w' g d rest
  | .error k => ∃ v, e = .returned (.tuple #[.slice none 0 0, v]) ∧ ErrV s v k ∧ k ≠ 0) ∧ Turn (only g) w w' ∧ Turn nowhere w0 w'
theorem build_fld (no : Int) (x : List UInt8) (W : World) : (Instr.build 40 #[(0, .int .i64 no), (1, strV x)]).run Tryz.prog W = .ok (.agg (fldA (no, x))) W := by kernel_rfl
def contF (fs : List Fld) : Except Int (List Fld × List UInt8) → Except Int (List Fld × List UInt8)
 | .ok (fs2, r) => .ok (fs ++ fs2, r)
 | .error e => .error e
def fsR (d : Nat) (l : List Int) (b : List UInt8) : Except Int (List Fld × List UInt8) := if allForms d l = true then takeFs d l b else .error 52
theorem takeFs_at {d : Nat} {l : List Int} {j : Nat} {no : Int} {m : Fm} {b : List UInt8} {fs : List Fld} {X : Except Int (List Fld × List UInt8)} (hn : l[j]? = some no) (hm : mform d no = some m) (h : contF fs (takeFs d (l.drop j) b) = X) :
 (∀ e, m.take b = .error e → X = .error e) ∧ ∀ t r, m.take b = .ok (t, r) → contF (fs ++ [(no, unsaid d no ++ t)]) (takeFs d (l.drop (j + 1)) r) = X := by
 obtain ⟨hj, hnj⟩ := List.getElem?_eq_some_iff.1 hn
 have hd : l.drop j = no :: l.drop (j + 1) := by rw [← hnj]; exact List.drop_eq_getElem_cons hj
 rw [hd] at h
 unfold takeFs at h
 rw [hm] at h
 simp only [] at h
 refine ⟨fun e he => ?_, fun t r hr => ?_⟩
 ·rw [he] at h
  exact h.symm
 ·rw [hr] at h
  simp only [] at h
  rw [← h]
  cases takeFs d (l.drop (j + 1)) r with
  | error e => rfl
  | ok p =>
    obtain ⟨fs2, r2⟩ := p
    simp [contF]
theorem right_small {k s c : Nat} {t : List UInt8} (hk : 1 ≤ k ∧ k ≤ 5) (hs : 1 ≤ s ∧ s ≤ 64) (h : (nf k s c).right t = true) : t.length ≤ 130 := by
 by_cases h2 : k = 2
 ·subst h2
  obtain ⟨hl, _⟩ := ll_right h
  omega
 ·rw [right_nl h2] at h
  rw [right_len _ _ h]
  exact pts_sum (c := c) (by omega) hs.2
theorem takeFields_walk {s : Sents} {w0 w : World} {g d B n c : Nat} {A : Option Addr} {l : List Int} {b : List UInt8} (hd : 1 ≤ d ∧ d ≤ 3) (he : Env s w0) (h0 : Turn nowhere w0 w) (hg0 : w0.heap.size ≤ g) (hr : Rd w0 w g d b) (hn : l.length = n) (hl : IRow w B (.slice A n c) l) (hn2 : n ≤ 200) :
 Calls Tryz.prog 52 #[.pointer (some ⟨g, 0, none⟩), .slice A n c] w (FsP s g d (fsR d l b) w0 w) := by
 have HD := zH hd
 have HE := zH he
 have H0 := zH h0
 have HG0 := zH hg0
 have HR := zH hr
 have HN := zH hn
 have HL := zH hl
 have HN2 := zH hn2
 have y9 : (n : Int) ≤ 200 := by omega
 clear hd he h0 hg0 hr hn hl hn2
 go_enter Tryz.func52, Tryz.ntmps52
 go_upto_region 1 with fail
 refine wp_region_lit ?_
 refine wM (.slice A n c) ?_
 simp only [zz]
 refine wR (v := .int .i64 (n : Int)) rfl (gx_len rfl rfl Tryz.underlying63) ?_
 simp only [zz]
 refine wR (v := .slice (some ⟨w.heap.size, 0, none⟩) n n) (w' := w.alloc (.cells (madeCells #[.int .i64 0, .int .i64 0, .int .i64 0] (n * 3)) 49)) rfl (gx_make rfl rfl rfl (make_forms n HN2.out w)) ?_
 simp only [zz]
 refine wA (.slice (some ⟨w.heap.size, 0, none⟩) n n) ?_
 simp only [zz]
 have hms : (madeCells #[.int .i64 0, .int .i64 0, .int .i64 0] (n * 3)).size = n * 3 := size_madeCells _ _
 generalize madeCells #[.int .i64 0, .int .i64 0, .int .i64 0] (n * 3) = CS at *
 have hbF := Blk.new w 49 CS
 have huF := (Turn.refl nowhere w).alloc (.cells CS 49)
 obtain ⟨gf, hgf⟩ : ∃ gf, gf = w.heap.size := ⟨_, rfl⟩
 rw [← hgf] at hbF ⊢
 have HGF := zH hgf
 have HNG := zH (show g ≠ gf from by
  obtain ⟨_, _, _, h, _⟩ := HR.out
  have := h.lt
  omega)
 clear hgf
 generalize w.alloc (.cells CS 49) = w1 at *
 have HF1 := zH (show Fms w1 gf d n l 0 from ⟨CS, hbF, hms, fun i no hi => by omega⟩)
 have HU1 := zH huF
 clear hbF huF hms
 go_wp2_with fail
 go_loopg [21] n (fun gk jv wr => ∃ j : Nat, j + gk = n ∧ jv = .int .i64 (j : Int) ∧ Fms wr gf d n l j ∧ Turn (only gf) w1 wr)
 case atStart => exact ⟨0, by omega, rfl, HF1.out, Turn.refl _ _⟩
 obtain ⟨j, hjl, rfl, hfm, htr⟩ := hrel
 have HJL := zH hjl
 have HFM := zH hfm
 have HTW := zH (show Turn nowhere w wr from HU1.out.trans htr (fun k hk e => by
  have := HGF.out
  have e : k = gf := e
  omega))
 have HT0 := zH (H0.out.next HTW.out)
 have HTR := zH htr
 clear hjl hfm htr
 by_cases hlt : j < n
 ·have y1 : (j : Int) < (n : Int) := by omega
  have HLT := zH hlt
  obtain ⟨no, hno⟩ : ∃ no, l[j]? = some no := ⟨_, List.getElem?_eq_getElem (show j < l.length from by rw [HN.out]; exact hlt)⟩
  obtain ⟨gl, rfl, cno⟩ := irow_cell (irow_turn HL.out HTW.out (fun _ _ e=>e)) hno
  have HNO := zH hno
  clear hlt hno
  go_upto_region 4 with fail
  refine wp_region_lit ?_
  refine wM (.int .i64 (j : Int)) ?_
  simp only [zz]
  refine wR (v := .pointer (some ⟨gl, j, none⟩)) rfl (gx_iaddr (i := j) (sz := 1) rfl rfl rfl Tryz.underlying63 (by kernel_rfl) HLT.out (by omega)) ?_
  simp only [zz]
  refine wR (v := .int .i64 no) rfl (exec_load1 rfl rfl (by kernel_rfl) cno) ?_
  simp only [zz]
  refine wA (.int .i64 (j : Int)) ?_
  simp only [zz]
  refine wA (.int .i64 no) ?_
  simp only [zz]
  obtain ⟨Ar, nr, cr, hgr, _⟩ := id (HR.out.still HTW.out)
  have HGR := zH hgr
  clear cno hgr
  go_upto_region 5 with fail
  refine wp_region_lit ?_
  refine wM (.pointer (some ⟨g, 0, none⟩)) ?_
  simp only [zz]
  refine wR (v := .pointer (some ⟨g, 0, none⟩)) rfl (exec_nil rfl rfl) ?_
  simp only [zz]
  refine wR (v := .pointer (some ⟨g, 0, none⟩)) rfl (exec_field (off := 0) (d := 0) rfl rfl (by kernel_rfl)) ?_
  simp only [zz]
  refine wR (v := tongV d) rfl (gx_loads rfl rfl (rd_range HGR.out) Tryz.underlying70 rfl (by rw [size_tongue]; rfl)) ?_
  simp only [zz]
  refine wM (.int .i64 no) ?_
  simp only [zz]
  refine wpList_op rfl fun K9 HK9 => ?_
  go_wp2_with fail
  refine (form_walk (s := s) (d := d) (HE.out.turn HT0.out).tab (HE.out.turn HT0.out).sen).mono ?_
  rintro e w2 ⟨rfl, ht2⟩
  refine HK9.out _ _ ?_
  clear HK9
  try simp only [zz]
  have HU2 := zH (HTW.out.next ht2)
  have HR2 := zH (only_still HTR.out ht2)
  have HF2 := zH (HFM.out.turn ht2 (fun e => e))
  clear ht2 HGR HFM HTW HT0 HTR
  cases hm : mform d no with
  | none =>
    have hfr : formR s d no = .tuple #[.agg #[.int .i64 0, .int .i64 0, .int .i64 0], feV no s.field] := by unfold formR; rw [hm]; rfl
    have HAF := zH (show fsR d l b = .error 52 from by
     unfold fsR
     rw [if_neg]
     intro h
     unfold allForms at h
     rw [List.all_eq_true] at h
     have := h no (List.mem_of_getElem? HNO.out)
     rw [hm] at this
     cases this)
    rw [hfr]
    clear hfr hm
    refine wM (.tuple #[.agg #[.int .i64 0, .int .i64 0, .int .i64 0], feV no s.field]) ?_
    simp only [zz]
    refine wE (.agg #[.int .i64 0, .int .i64 0, .int .i64 0]) ?_
    simp only [zz]
    refine wE (feV no s.field) ?_
    simp only [zz]
    refine wR (v := .pointer (some ⟨w2.heap.size, 0, none⟩)) (w' := w2.alloc (.cells #[.int .i64 0, .int .i64 0, .int .i64 0] 49)) rfl (gx_alloc rfl (mzero_form _)) ?_
    simp only [zz]
    have hb8 := Blk.new w2 49 #[.int .i64 0, .int .i64 0, .int .i64 0]
    have hu8 := HU2.out.alloc (.cells #[.int .i64 0, .int .i64 0, .int .i64 0] 49)
    have hr8 := HR2.out.alloc (.cells #[.int .i64 0, .int .i64 0, .int .i64 0] 49)
    have hf8 := HF2.out.turn ((Turn.refl nowhere w2).alloc (.cells #[.int .i64 0, .int .i64 0, .int .i64 0] 49)) (fun e => e)
    have hlt8 : gf < w2.heap.size := by
     obtain ⟨_, h, _⟩ := HF2.out
     exact h.lt
    obtain ⟨g8, hg8⟩ : ∃ g8, g8 = w2.heap.size := ⟨_, rfl⟩
    rw [← hg8] at hb8 ⊢
    have HG8 := zH (show w.heap.size ≤ g8 from by rw [hg8]; exact HU2.out.size)
    have HG81 := zH (show w1.heap.size ≤ g8 from by rw [hg8]; exact HR2.out.size)
    have HN8 := zH (show gf ≠ g8 from by omega)
    clear hg8 hlt8
    generalize w2.alloc (.cells #[.int .i64 0, .int .i64 0, .int .i64 0] 49) = w3 at *
    refine wpList_store_row rfl 49 (.tmp 9) (.tmp 33) rfl #[.int .i64 0, .int .i64 0, .int .i64 0] hb8 rfl rfl rfl (by rw [size_form]; rfl) (fm3_one _ _ _) ?_
    intro w4 hb4 hu4
    have HB4 := zH hb4
    have HF4 := zH (hf8.turn hu4 (fun e => HN8.out e))
    have HU4 := zH (hu8.trans hu4 (fun k hk e => by
     have := HG8.out
     have e : k = g8 := e
     omega))
    have HR4 := zH (hr8.trans (hu4.mono (G := fun k => k = g8) (fun _ _ e=>e)) (fun k hk e => by
     have := HG81.out
     omega))
    clear hb8 hu8 hr8 hf8 hb4 hu4 HU2 HR2 HF2
    simp only [zz]
    unfold feV
    go_wp2_with fail
    go_ret2
    unfold FsP
    rw [HAF.out]
    exact ⟨⟨_, rfl, ErrV.field no, by decide⟩, still_only HU4.out, H0.out.next HU4.out⟩
  | some m =>
    have hfr : formR s d no = .tuple #[fmV m, .nilIface] := by unfold formR; rw [hm]
    rw [hfr]
    have HM := zH hm
    clear hfr hm
    refine wM (.tuple #[fmV m, .nilIface]) ?_
    simp only [zz]
    refine wE (fmV m) ?_
    simp only [zz]
    refine wE .nilIface ?_
    simp only [zz]
    refine wR (v := .pointer (some ⟨w2.heap.size, 0, none⟩)) (w' := w2.alloc (.cells #[.int .i64 0, .int .i64 0, .int .i64 0] 49)) rfl (gx_alloc rfl (mzero_form _)) ?_
    simp only [zz]
    have hb8 := Blk.new w2 49 #[.int .i64 0, .int .i64 0, .int .i64 0]
    have hu8 := HU2.out.alloc (.cells #[.int .i64 0, .int .i64 0, .int .i64 0] 49)
    have hr8 := HR2.out.alloc (.cells #[.int .i64 0, .int .i64 0, .int .i64 0] 49)
    have hf8 := HF2.out.turn ((Turn.refl nowhere w2).alloc (.cells #[.int .i64 0, .int .i64 0, .int .i64 0] 49)) (fun e => e)
    have hlt8 : gf < w2.heap.size := by
     obtain ⟨_, h, _⟩ := HF2.out
     exact h.lt
    obtain ⟨g8, hg8⟩ : ∃ g8, g8 = w2.heap.size := ⟨_, rfl⟩
    rw [← hg8] at hb8 ⊢
    have HG8 := zH (show w.heap.size ≤ g8 from by rw [hg8]; exact HU2.out.size)
    have HG81 := zH (show w1.heap.size ≤ g8 from by rw [hg8]; exact HR2.out.size)
    have HN8 := zH (show gf ≠ g8 from by omega)
    clear hg8 hlt8
    generalize w2.alloc (.cells #[.int .i64 0, .int .i64 0, .int .i64 0] 49) = w3 at *
    refine wpList_store_row rfl 49 (.tmp 9) (.tmp 33) rfl #[.int .i64 m.kind, .int .i64 m.size, .int .i64 m.code] hb8 rfl rfl rfl (by rw [size_form]; rfl) (fm3_one _ _ _) ?_
    intro w4 hb4 hu4
    have HB4 := zH hb4
    have HF4 := zH (hf8.turn hu4 (fun e => HN8.out e))
    have HU4 := zH (hu8.trans hu4 (fun k hk e => by
     have := HG8.out
     have e : k = g8 := e
     omega))
    have HR4 := zH (hr8.trans (hu4.mono (G := fun k => k = g8) (fun _ _ e=>e)) (fun k hk e => by
     have := HG81.out
     omega))
    clear hb8 hu8 hr8 hf8 hb4 hu4 HU2 HR2 HF2
    simp only [zz]
    go_upto_region 8 with fail
    refine wp_region_lit ?_
    refine wM (.slice (some ⟨gf, 0, none⟩) n n) ?_
    simp only [zz]
    refine wM (.int .i64 (j : Int)) ?_
    simp only [zz]
    refine wR (v := fmV m) rfl (gx_loads rfl rfl (blk_range HB4.out) Tryz.underlying49 rfl (by rw [size_form]; rfl)) ?_
    simp only [zz]
    refine wR (v := .pointer (some ⟨gf, j * 3, none⟩)) rfl (gx_iaddr (i := j) (sz := 3) rfl rfl rfl Tryz.underlying140 size_form HLT.out (by omega)) ?_
    simp only [zz]
    obtain ⟨C4, hC4, hsz4, hall4⟩ := HF4.out
    refine wpList_store_mid rfl 49 (.tmp 41) (.tmp 40) rfl #[.int .i64 m.kind, .int .i64 m.size, .int .i64 m.code] hC4 rfl rfl (show j * 3 + 3 ≤ C4.size from by have := HLT.out; omega) (by rw [size_form]; rfl) (fm3_one _ _ _) ?_
    intro w5 C5 hb5 hs5 hc5 hu5
    have HF5 := zH (show Fms w5 gf d n l (j + 1) from ⟨C5, hb5, by omega, fun i no2 hi hno2 => by
     by_cases hij : i < j
     ·obtain ⟨m2, q0, q1, q2, q3⟩ := hall4 i no2 hij hno2
      refine ⟨m2, q0, ?_, ?_, ?_⟩
      ·rw [hc5, if_neg (by omega)]; exact q1
      ·rw [hc5, if_neg (by omega)]; exact q2
      ·rw [hc5, if_neg (by omega)]; exact q3
     ·have hij2 : i = j := by omega
      subst hij2
      have e2 : no2 = no := by
       have := HNO.out
       rw [hno2] at this
       exact Option.some.inj this
      subst e2
      refine ⟨m, HM.out, ?_, ?_, ?_⟩
      ·rw [hc5, if_pos ⟨by omega, by simp; try omega⟩, Nat.sub_self]; rfl
      ·rw [hc5, if_pos ⟨by omega, by simp; try omega⟩, show i * 3 + 1 - i * 3 = 1 from by omega]; rfl
      ·rw [hc5, if_pos ⟨by omega, by simp; try omega⟩, show i * 3 + 2 - i * 3 = 2 from by omega]; rfl⟩)
    have HR5 := zH (HR4.out.next hu5)
    clear hC4 hsz4 hall4 hb5 hs5 hc5 hu5 HF4 HR4
    simp only [zz]
    go_wp2_with fail
    go_roundg (gk - 1)
    case measure => have := HJL.out; have := HLT.out; omega
    case rel => exact ⟨j + 1, by have := HJL.out; have := HLT.out; omega, by go_num, HF5.out, HR5.out⟩
 ·have y1 : ¬ ((j : Int) < (n : Int)) := by omega
  have hjn : j = n := by have := HJL.out; omega
  have HAF := zH (show fsR d l b = takeFs d l b from by
   unfold fsR
   rw [if_pos]
   unfold allForms
   rw [List.all_eq_true]
   intro x hx
   obtain ⟨i, hi⟩ := List.mem_iff_getElem?.1 hx
   obtain ⟨C, _, _, h⟩ := HFM.out
   obtain ⟨m, hm, _⟩ := h i x (by have := (List.getElem?_eq_some_iff.1 hi).1; have := HN.out; omega) hi
   rw [hm]
   rfl)
  have HFA : Hid (Fms wr gf d n l n) := zH (by rw [← hjn]; rw [hjn]; have := HFM.out; rw [hjn] at this; exact this)
  clear hlt hjn HFM HJL
  go_upto_region 10 with fail
  refine wp_region_lit ?_
  refine wM (.slice A n c) ?_
  simp only [zz]
  refine wR (v := .int .i64 (n : Int)) rfl (gx_len rfl rfl Tryz.underlying63) ?_
  simp only [zz]
  refine wR (v := .slice (some ⟨wr.heap.size, 0, none⟩) n n) (w' := wr.alloc (.cells (madeCells #[.int .i64 0, strV []] (n * 2)) 40)) rfl (gx_make rfl rfl rfl (make_fields n HN2.out wr)) ?_
  simp only [zz]
  refine wA (.slice (some ⟨wr.heap.size, 0, none⟩) n n) ?_
  simp only [zz]
  have hms : (madeCells #[.int .i64 0, strV []] (n * 2)).size = n * 2 := size_madeCells _ _
  generalize madeCells #[.int .i64 0, strV []] (n * 2) = CS at *
  have hbF := Blk.new wr 40 CS
  have huF := (Turn.refl nowhere wr).alloc (.cells CS 40)
  obtain ⟨gF, hgF⟩ : ∃ gF, gF = wr.heap.size := ⟨_, rfl⟩
  rw [← hgF] at hbF ⊢
  have HGFF := zH (show w.heap.size ≤ gF from by rw [hgF]; exact HTW.out.size)
  have HGF0 := zH (show w0.heap.size ≤ gF from by rw [hgF]; exact HT0.out.size)
  have HNGF := zH (show g ≠ gF from by
   obtain ⟨_, _, _, h, _⟩ := HR.out.still HTW.out
   have := h.lt
   omega)
  have HNFF := zH (show gf ≠ gF from by
   obtain ⟨_, h, _⟩ := HFA.out
   have := h.lt
   omega)
  clear hgF
  generalize wr.alloc (.cells CS 40) = w3 at *
  have HU3 := zH (HTW.out.next huF)
  have HR3 := zH (HR.out.still HU3.out)
  have HF3 := zH (HFA.out.turn huF (fun e => e))
  have HB3 := zH (show ∃ C, Blk w3 gF 40 C ∧ C.size = n * 2 from ⟨CS, hbF, hms⟩)
  clear hbF huF hms HTW HT0 HTR HFA HF1 HU1
  go_wp2_with fail
  go_loopg [48] n (fun gk jv wr => ∃ (j : Nat) (fs : List Fld) (bj : List UInt8) (C : Array Value), j + gk = n ∧ jv = .int .i64 (j : Int) ∧ fs.length = j ∧ Blk wr gF 40 C ∧ C.size = n * 2 ∧ (∀ i f, fs[i]? = some f → C[i * 2]? = some (.int .i64 f.1) ∧ C[i * 2 + 1]? = some (strV f.2)) ∧ contF fs (takeFs d (l.drop j) bj) = takeFs d l b ∧ Rd w0 wr g d bj ∧ Fms wr gf d n l n ∧ Turn (only g) w wr)
  case atStart =>
   obtain ⟨C, h1, h2⟩ := HB3.out
   refine ⟨0, [], b, C, by omega, rfl, rfl, h1, h2, fun i f hf => by simp at hf, ?_, HR3.out, HF3.out, still_only HU3.out⟩
   show contF [] (takeFs d l b) = takeFs d l b
   cases takeFs d l b with
   | error e => rfl
   | ok p => rfl
  obtain ⟨j, fs, bj, C, hjl, rfl, hfl, hbC, hCs, hCa, hco, hrd, hfm, htr⟩ := hrel
  have HJL := zH hjl
  have HFL := zH hfl
  have HBC := zH hbC
  have HCS := zH hCs
  have HCA := zH hCa
  have HCO := zH hco
  have HRD := zH hrd
  have HFM := zH hfm
  have HTR := zH htr
  have HT0 := zH (above H0.out HG0.out htr)
  clear hjl hfl hbC hCs hCa hco hrd hfm htr
  by_cases hlt : j < n
  ·have y1 : (j : Int) < (n : Int) := by omega
   have HLT := zH hlt
   obtain ⟨no, hno⟩ : ∃ no, l[j]? = some no := ⟨_, List.getElem?_eq_getElem (show j < l.length from by rw [HN.out]; exact hlt)⟩
   have hir := irow_turn HL.out HTR.out (fun k hk e => by
    obtain ⟨_, _, _, hg, _⟩ := HR.out
    exact irow_ne HL.out hg (by decide) k hk e)
   obtain ⟨gl, rfl, cno⟩ := irow_cell hir hno
   obtain ⟨m, hm⟩ : ∃ m, mform d no = some m := by
    obtain ⟨_, _, _, h⟩ := HFM.out
    obtain ⟨m, hm, _⟩ := h j no hlt hno
    exact ⟨m, hm⟩
   have HM := zH hm
   have HRG := zH (HFM.out.range hlt hno hm)
   have HAT := zH (takeFs_at hno hm HCO.out)
   clear hlt hno hir hm
   go_upto_region 13 with fail
   refine wp_region_lit ?_
   refine wM (.int .i64 (j : Int)) ?_
   simp only [zz]
   refine wR (v := .pointer (some ⟨gl, j, none⟩)) rfl (gx_iaddr (i := j) (sz := 1) rfl rfl rfl Tryz.underlying63 (by kernel_rfl) HLT.out (by omega)) ?_
   simp only [zz]
   refine wR (v := .int .i64 no) rfl (exec_load1 rfl rfl (by kernel_rfl) cno) ?_
   simp only [zz]
   refine wA (.int .i64 (j : Int)) ?_
   simp only [zz]
   refine wA (.int .i64 no) ?_
   simp only [zz]
   clear cno
   go_upto_region 14 with fail
   refine wp_region_lit ?_
   refine wM (.pointer (some ⟨g, 0, none⟩)) ?_
   simp only [zz]
   refine wM (.int .i64 no) ?_
   simp only [zz]
   refine wM (.slice (some ⟨gf, 0, none⟩) n n) ?_
   simp only [zz]
   refine wM (.int .i64 (j : Int)) ?_
   simp only [zz]
   refine wR (v := .pointer (some ⟨gf, j * 3, none⟩)) rfl (gx_iaddr (i := j) (sz := 3) rfl rfl rfl Tryz.underlying140 size_form HLT.out (by omega)) ?_
   simp only [zz]
   refine wR (v := fmV m) rfl (gx_loads rfl rfl HRG.out Tryz.underlying49 rfl (by rw [size_form]; rfl)) ?_
   simp only [zz]
   refine wpList_op rfl fun K9 HK9 => ?_
   go_wp2_with fail
   refine (mtake_walk (s := s) (no := no) (f := m) HE.out HT0.out HG0.out HRD.out).mono ?_
   rintro e w5 ⟨rfl, hr5, ho5, h5⟩
   refine HK9.out _ _ ?_
   clear HK9
   try simp only [zz]
   have HR5 := zH hr5
   have HT5 := zH (only_trans HTR.out ho5)
   have H5 := zH h5
   have HF5 := zH (HFM.out.turn ho5 (fun e => by
    have e : gf = g := e
    exact HNG.out e.symm))
   have HB5 := zH (HBC.out.turn ho5 (fun e => by
    have e : gF = g := e
    exact HNGF.out e.symm))
   clear hr5 ho5 h5 HRG HRD HFM HBC HTR HT0
   cases hk : m.take bj with
   | error k =>
     obtain ⟨k1, s1, hm1, hk1, hs1, _⟩ := form_nf HM.out
     have hk4 : k = 42 ∨ k = 43 := take_err (k := k1) (s := s1) (c := d) (may_nf hk1 HD.out hs1) (by rw [← hm1]; exact hk)
     have HK := zH hk4
     have HX := zH (show fsR d l b = .error k from by rw [HAF.out]; exact HAT.out.1 k hk)
     have HV := zH (errV_wrap (s := s) (no := no) hk4)
     obtain ⟨t9, x9, hv9⟩ := errV_some HV.out (by omega)
     rw [show tk (.error k) = (([] : List UInt8), ([] : List UInt8), k) from rfl]
     simp only []
     rw [hv9] at HV ⊢
     clear hk hk4 hv9 hm1 hk1 hs1
     refine wM (.tuple #[strV [], .iface t9 x9]) ?_
     simp only [zz]
     refine wE (strV []) ?_
     simp only [zz]
     refine wE (.iface t9 x9) ?_
     simp only [zz]
     refine wA (strV []) ?_
     simp only [zz]
     refine wA (.iface t9 x9) ?_
     simp only [zz]
     go_wp2_with fail
     go_ret2
     unfold FsP
     rw [HX.out]
     exact ⟨⟨_, rfl, HV.out, by have := HK.out; omega⟩, HT5.out, H5.out⟩
   | ok p =>
     obtain ⟨t, rest⟩ := p
     have HX := zH (HAT.out.2 t rest hk)
     have HTL := zH (show t.length ≤ 130 from by
      obtain ⟨k1, s1, hm1, hk1, hs1, _⟩ := form_nf HM.out
      obtain ⟨h1, _⟩ := fm_one (k := k1) (s := s1) (c := d) hk1 HD.out hs1 (by rw [← hm1]; exact hk)
      exact right_small hk1 hs1 h1)
     have HR6 : Hid (Rd w0 w5 g d rest) := zH (by have := HR5.out; rw [hk] at this; exact this)
     rw [show wrapV s no (tk (.ok (t, rest))).2.2 = .nilIface from rfl, show (tk (.ok (t, rest))).1 = t from rfl]
     obtain ⟨Ar, nr, cr, hgr, _⟩ := id HR6.out
     have HGR := zH hgr
     clear hk HR5 hgr
     refine wM (.tuple #[strV t, .nilIface]) ?_
     simp only [zz]
     refine wE (strV t) ?_
     simp only [zz]
     refine wE .nilIface ?_
     simp only [zz]
     refine wA (strV t) ?_
     simp only [zz]
     refine wA .nilIface ?_
     simp only [zz]
     go_upto_region 17 with fail
     refine wp_region_lit ?_
     refine wM (.slice (some ⟨gF, 0, none⟩) n n) ?_
     simp only [zz]
     refine wM (.int .i64 (j : Int)) ?_
     simp only [zz]
     refine wM (.int .i64 no) ?_
     simp only [zz]
     refine wM (.pointer (some ⟨g, 0, none⟩)) ?_
     simp only [zz]
     refine wR (v := .pointer (some ⟨g, 0, none⟩)) rfl (exec_nil rfl rfl) ?_
     simp only [zz]
     refine wR (v := .pointer (some ⟨g, 0, none⟩)) rfl (exec_field (off := 0) (d := 0) rfl rfl (by kernel_rfl)) ?_
     simp only [zz]
     refine wR (v := tongV d) rfl (gx_loads rfl rfl (rd_range HGR.out) Tryz.underlying70 rfl (by rw [size_tongue]; rfl)) ?_
     simp only [zz]
     refine wM (.int .i64 no) ?_
     simp only [zz]
     refine wpList_op rfl fun K9 HK9 => ?_
     go_wp2_with fail
     refine (unsaid_walk d no _).mono ?_
     rintro e w6 ⟨rfl, ht6⟩
     refine HK9.out _ _ ?_
     clear HK9
     try simp only [zz]
     refine wM (strV t) ?_
     simp only [zz]
     refine wR (v := strV (unsaid d no ++ t)) rfl (exec_sadd rfl rfl rfl (by have := HTL.out; rcases unsaid_len d no with h | ⟨h, _⟩ <;> rw [h] <;> simp only [List.length_nil, List.length_cons] <;> omega)) ?_
     simp only [zz]
     refine wR (v := .agg (fldA (no, unsaid d no ++ t))) rfl (gx_build2 rfl rfl rfl (build_fld _ _ _)) ?_
     simp only [zz]
     refine wR (v := .pointer (some ⟨gF, j * 2, none⟩)) rfl (gx_iaddr (i := j) (sz := 2) rfl rfl rfl Tryz.underlying22 size_field HLT.out (by omega)) ?_
     simp only [zz]
     have HB6 := zH (HB5.out.turn ht6 (fun e => e))
     have HT6 := zH (only_still HT5.out ht6)
     have HR7 := zH (HR6.out.still ht6)
     have HF6 := zH (HF5.out.turn ht6 (fun e => e))
     clear ht6 HB5 HT5 HR6 HF5 HGR
     refine wpList_store_mid rfl 40 (.tmp 78) (.tmp 77) rfl (fldA (no, unsaid d no ++ t)) HB6.out rfl rfl (show j * 2 + 2 ≤ C.size from by have := HLT.out; have := HCS.out; omega) (by rw [size_field]; rfl) (fldA_one _) ?_
     intro w7 C7 hb7 hs7 hc7 hu7
     have HB7 := zH hb7
     have HS7 := zH (show C7.size = n * 2 from by rw [hs7]; exact HCS.out)
     have HC7 := zH (show ∀ i f, (fs ++ [(no, unsaid d no ++ t)])[i]? = some f → C7[i * 2]? = some (.int .i64 f.1) ∧ C7[i * 2 + 1]? = some (strV f.2) from fun i f hf => by
      by_cases hij : i < fs.length
      ·rw [List.getElem?_append_left hij] at hf
       obtain ⟨q1, q2⟩ := HCA.out i f hf
       have := HFL.out
       exact ⟨by rw [hc7, if_neg (by omega)]; exact q1, by rw [hc7, if_neg (by omega)]; exact q2⟩
      ·have hfl := HFL.out
       have hil := (List.getElem?_eq_some_iff.1 hf).1
       rw [List.length_append] at hil
       have hij2 : i = j := by have := HFL.out; simp at hil; omega
       subst hij2
       rw [List.getElem?_append_right (by omega), show i - fs.length = 0 from by omega] at hf
       simp only [List.getElem?_cons_zero, Option.some.injEq] at hf
       subst hf
       have hsz : (fldA (no, unsaid d no ++ t)).size = 2 := rfl
       refine ⟨?_, ?_⟩
       ·rw [hc7, if_pos ⟨by omega, by omega⟩, Nat.sub_self]; rfl
       ·rw [hc7, if_pos ⟨by omega, by omega⟩, show i * 2 + 1 - i * 2 = 1 from by omega]; rfl)
     have HR8 := zH (show Rd w0 w7 g d rest from rd_turn HR7.out hu7 HNGF.out HGF0.out HB6.out (by decide))
     have HF7 := zH (HF6.out.turn hu7 (fun e => HNFF.out e))
     have HT7 := zH (show Turn (only g) w w7 from HT6.out.trans hu7 (fun k hk e => by
      have := HGFF.out
      have e : k = gF := e
      omega))
     clear hb7 hs7 hc7 hu7 HB6 HT6 HR7 HF6
     simp only [zz]
     go_wp2_with fail
     go_roundg (gk - 1)
     case measure => have := HJL.out; have := HLT.out; omega
     case rel => exact ⟨j + 1, _, rest, C7, by have := HJL.out; have := HLT.out; omega, by go_num, by rw [List.length_append]; have := HFL.out; simp; omega, HB7.out, HS7.out, HC7.out, HX.out, HR8.out, HF7.out, HT7.out⟩
  ·have y1 : ¬ ((j : Int) < (n : Int)) := by omega
   have hjn : j = n := by have := HJL.out; omega
   have HX := zH (show fsR d l b = .ok (fs, bj) from by
    have h := HCO.out
    rw [List.drop_eq_nil_iff.2 (by rw [HN.out]; omega)] at h
    rw [HAF.out, ← h]
    show contF fs (.ok ([], bj)) = _
    simp [contF])
   have HFN := zH (show fs.length = n from by rw [HFL.out, hjn])
   clear hlt hjn
   go_wp2_with fail
   go_ret2
   unfold FsP
   rw [HX.out]
   refine ⟨⟨gF, by rw [HFN.out]; rfl, ⟨rfl, by rw [HFN.out]; have := HN2.out; omega, fun _ => ⟨gF, 0, rfl, fun i f hf k u hk => ?_⟩⟩, HGF0.out, HGFF.out, HRD.out⟩, HTR.out, HT0.out⟩
   obtain ⟨q1, q2⟩ := HCA.out i f hf
   rw [HBC.out.cell]
   match k, hk with
   | 0, hk => injection hk with hk; subst hk; rw [Nat.zero_add]; exact q1
   | 1, hk => injection hk with hk; subst hk; rw [Nat.zero_add]; exact q2
theorem zero_msg (w : World) : (zeroValue 24).run Tryz.prog w = .ok (.agg #[.int .i64 0, .slice none 0 0]) w := by kernel_rfl
theorem build_msg0 (W : World) : (Instr.build 24 #[]).run Tryz.prog W = .ok (.agg #[.int .i64 0, .slice none 0 0]) W := by kernel_rfl
theorem zero_rd (w : World) : (zeroValue 91).run Tryz.prog w = .ok (.agg #[.int .i64 0, strV [], strV [], .slice none 0 0]) w := by kernel_rfl
theorem build_rd (d m c : Nat) (A : Option Addr) (W : World) : (Instr.build 91 #[(0, tongV d), (1, .slice A m c)]).run Tryz.prog W = .ok (.agg (rdA d (.slice A m c))) W := by kernel_rfl
theorem size_rd : (Tryz.prog.info? 91).map (·.size) = some 4 := by kernel_rfl
theorem msg0_one : ∀ v ∈ (#[.int .i64 0, .slice none 0 0] : Array Value).toList, v.oneCell' = true := fun v hv => by
 simp only [List.mem_cons, List.not_mem_nil, or_false] at hv
 rcases hv with rfl | rfl <;> rfl
theorem msgA_one (ty : Int) (A : Option Addr) (n c : Nat) : ∀ v ∈ (#[.int .i64 ty, .slice A n c] : Array Value).toList, v.oneCell' = true := fun v hv => by
 simp only [List.mem_cons, List.not_mem_nil, or_false] at hv
 rcases hv with rfl | rfl <;> rfl
theorem rdA_one (d m c : Nat) (A : Option Addr) : ∀ v ∈ (rdA d (.slice A m c)).toList, v.oneCell' = true := fun v hv => by
 unfold rdA at hv
 simp only [List.mem_cons, List.not_mem_nil, or_false] at hv
 rcases hv with rfl | rfl | rfl | rfl <;> rfl
theorem gx_min {a : Act} {o : Oper} {W : World} {x y : Operand} {t1 t2 : TypeId} {n m : Nat} {r : Nat} (ho : o.op = .call { callee := .builtin .min, args := #[x, y], argTypes := #[t1, t2] }) (hx : a.eval x = .int .i64 (n : Int)) (hy : a.eval y = .int .i64 (m : Int)) (hr : r = min n m) : (execOp a.eval o).run Tryz.prog W = .ok (.value (.int .i64 (r : Int))) W := by
 have e : (if m < n then (m : Int) else (n : Int)) = (r : Int) := by split <;> omega
 unfold execOp
 simp [ho, hx, hy, resolve, invoke, builtin, Builtin.min_, Builtin.min2, Result.andThen, e]
theorem bs_take8 {W : World} {A : Option Addr} {n i : Nat} {l : List UInt8} (h : Bs W A n l) (hi : i ≤ n) : Bs W A i (l.take i) := by
 obtain ⟨h1, h2, h3⟩ := h
 refine ⟨by rw [List.length_take]; omega, Nat.le_trans hi h2, fun h0 => ?_⟩
 obtain ⟨b, off, rfl, hc⟩ := h3 (by omega)
 refine ⟨b, off, rfl, fun j hj => ?_⟩
 rw [hc j (by omega)]
 have : (l.take i).getD j 0 = l.getD j 0 := by
  simp only [List.getD_eq_getElem?_getD, List.getElem?_take]
  rw [if_pos hj]
 rw [this]
theorem bs_low {W : World} {A : Option Addr} {n : Nat} {l : List UInt8} (h : Bs W A n l) (hn : 0 < n) : ∀ b9 o9 s9, A = some ⟨b9, o9, s9⟩ → b9 < W.heap.size := fun b9 o9 s9 e => by
 obtain ⟨b, off, e2, hc⟩ := h.2.2 hn
 rw [e2] at e
 cases e
 exact World.block_lt_of_cell? _ _ (hc 0 hn)
theorem takeMap_cap {d : Nat} {b r : List UInt8} {l : List Int} (h : takeMap d b = .ok (l, r)) : l.length ≤ 200 := by
 unfold takeMap at h
 cases h1 : takeHalf d b with
 | error e => rw [h1] at h; cases h
 | ok p =>
   obtain ⟨h9, r1⟩ := p
   rw [h1] at h
   simp only [] at h
   split at h
   ·injection h with h
    injection h with h h2
    have := nums_len h9 0
    rw [← h]
    omega
   ·cases h3 : takeHalf d r1 with
    | error e => rw [h3] at h; cases h
    | ok p =>
      obtain ⟨h8, r2⟩ := p
      rw [h3] at h
      simp only [] at h
      split at h
      ·cases h
      ·injection h with h
       injection h with h h2
       have a1 := nums_len (h9 % 2 ^ 63) 0
       have a2 := nums_len h8 64
       rw [← h, List.length_append]
       omega
def DecP (s : Sents) (r : Except Int (Int × List Fld)) (w : World) (e : Ending) (w' : World) : Prop :=
 (match r with
  | .ok (ty, fs) => ∃ gF, e = .returned (.tuple #[msgV ty (some ⟨gF, 0, none⟩) fs.length fs.length, .nilIface]) ∧ Fl w' (some ⟨gF, 0, none⟩) fs.length fs ∧ w.heap.size ≤ gF
  | .error k => ∃ v, e = .returned (.tuple #[msgV 0 none 0 0, v]) ∧ ErrV s v k ∧ k ≠ 0) ∧ Turn nowhere w w'
theorem decP_err {s : Sents} {r : Except Int (Int × List Fld)} {k : Int} {w w' : World} {v : Value} (hr : r = .error k) (hv : ErrV s v k) (hk : k ≠ 0) (ht : Turn nowhere w w') : DecP s r w (.returned (.tuple #[msgV 0 none 0 0, v])) w' := by
 subst hr
 exact ⟨⟨v, rfl, hv, hk⟩, ht⟩
theorem decode_walk {s : Sents} {w : World} {dd : Int} {A : Option Addr} {n c : Nat} {b : List UInt8} (he : Env s w) (hbs : Bs w A n b) (hnc : n ≤ c) (hnm : n ≤ 140737488355328) :
 Calls Tryz.prog 28 #[.int .i64 dd, .slice A n c] w (DecP s (mdecode dd b) w) := by
 have hu := (Turn.refl nowhere w).alloc (.cells #[.int .i64 0, .slice none 0 0] 24)
 have hb := Blk.new w 24 #[.int .i64 0, .slice none 0 0]
 obtain ⟨gr, hgr⟩ : ∃ gr, gr = w.heap.size := ⟨_, rfl⟩
 rw [← hgr] at hb
 have HGRE := zH hgr
 have HGR := zH (show w.heap.size ≤ gr from by omega)
 have HE := zH he
 have HBS := zH hbs
 have HNC := zH hnc
 have HNM := zH hnm
 have HU := zH hu
 have HB := zH hb
 clear he hbs hnc hnm hu hb hgr
 go_enter Tryz.func28, Tryz.ntmps28
 go_upto_region 1 with fail
 have e2 := HGRE.out
 rw [← e2]
 clear e2 HGRE
 change Code.wp _ _ _ _ (w.alloc (.cells #[.int .i64 0, .slice none 0 0] 24))
 generalize World.alloc w (.cells #[.int .i64 0, .slice none 0 0] 24) = w1 at *
 refine wp_region_lit ?_
 refine wM (.int .i64 dd) ?_
 simp only [zz]
 by_cases hd : 1 ≤ dd ∧ dd ≤ 3
 ·obtain ⟨d, hdn⟩ : ∃ d : Nat, dd = (d : Int) := ⟨dd.toNat, by omega⟩
  subst hdn
  have hd2 : 1 ≤ d ∧ d ≤ 3 := by omega
  have HD := zH hd2
  have HX := zH (show mdecode (d : Int) b = match takeType d (b.take 512) with
   | .error e => .error e
   | .ok (ty, b1) => match takeMap d b1 with
     | .error e => .error e
     | .ok (l, b2) => match fsR d l b2 with
       | .error e => .error e
       | .ok (fs, b3) => if b3 = [] then .ok (ty, fs) else .error 54 from by
   unfold mdecode fsR
   rw [if_pos hd, Int.toNat_natCast]
   cases takeType d (b.take 512) with
   | error e => rfl
   | ok p =>
     obtain ⟨ty, b1⟩ := p
     simp only []
     cases takeMap d b1 with
     | error e => rfl
     | ok p =>
       obtain ⟨l, b2⟩ := p
       simp only []
       by_cases hl : allForms d l = true
       ·rw [if_pos hl, if_pos hl]
        cases takeFs d l b2 <;> rfl
       ·rw [if_neg hl, if_neg hl])
  clear hd hd2
  refine wpList_op rfl fun K9 HK9 => ?_
  go_wp2_with fail
  refine (tongueOf_ok (s := s) HD.out (HE.out.turn HU.out).tab).mono ?_
  rintro e w2 ⟨rfl, ht2⟩
  refine HK9.out _ _ ?_
  clear HK9
  try simp only [zz]
  have HU2 := zH (HU.out.next ht2)
  have HB2 := zH (HB.out.turn ht2 (fun e => e))
  clear ht2 HB HU
  refine wM (.tuple #[tongV d, .nilIface]) ?_
  simp only [zz]
  refine wE (tongV d) ?_
  simp only [zz]
  refine wE .nilIface ?_
  simp only [zz]
  refine wR (v := .pointer (some ⟨w2.heap.size, 0, none⟩)) (w' := w2.alloc (.cells #[.int .i64 0, strV [], strV []] 70)) rfl (gx_alloc rfl (zero_tongue _)) ?_
  simp only [zz]
  have hb8 := Blk.new w2 70 #[.int .i64 0, strV [], strV []]
  have hu8 := HU2.out.alloc (.cells #[.int .i64 0, strV [], strV []] 70)
  have hbm8 := HB2.out.alloc (.cells #[.int .i64 0, strV [], strV []] 70)
  obtain ⟨bt, hbt⟩ : ∃ bt, bt = w2.heap.size := ⟨_, rfl⟩
  rw [← hbt] at hb8 ⊢
  have HG8 := zH (show w.heap.size ≤ bt from by rw [hbt]; exact HU2.out.size)
  have HN8 := zH (show gr ≠ bt from by have := HB2.out.lt; omega)
  clear hbt
  generalize w2.alloc (.cells #[.int .i64 0, strV [], strV []] 70) = w5 at *
  refine wpList_store_row rfl 70 (.tmp 6) (.tmp 14) rfl (tongA d) hb8 rfl rfl rfl (by rw [size_tongue]; rfl) (tongA_one d) ?_
  intro w6 hb6 hu6
  have HBT := zH hb6
  have HBM := zH (hbm8.turn hu6 (fun e => HN8.out e))
  have HU6 := zH (hu8.trans hu6 (fun k hk e => by
   have := HG8.out
   have e : k = bt := e
   omega))
  clear hb8 hu8 hbm8 hb6 hu6 HB2 HU2
  simp only [zz]
  refine wA .nilIface ?_
  simp only [zz]
  obtain ⟨m, hm⟩ : ∃ m, m = min n 512 := ⟨_, rfl⟩
  have HM := zH hm
  have HMN := zH (show m ≤ n from by omega)
  have HBS5 := zH (show Bs w A m (b.take 512) from by
   have h := bs_take8 HBS.out (show m ≤ n from by omega)
   have e : b.take 512 = b.take m := by
    have := HBS.out.1
    rw [List.take_eq_take_min, show min 512 b.length = m from by omega]
   rw [e]
   exact h)
  clear hm
  go_upto_region 4 with fail
  have hS0 : Blk w6.drew bt 70 (tongA d) := HBT.out.drew
  have HBMd := zH HBM.out.drew
  have HUd := zH HU6.out.drew
  clear HBT HBM HU6
  refine wp_region_alw (fun W => Blk W bt 70 (tongA d)) (by kernel_rfl) ?_
  generalize w6.drew = w7 at *
  refine aT (i := 0) (v := tongV d) rfl (by kernel_rfl) (by kernel_rfl) (fun W hW => gx_loads rfl rfl (blk_range hW) Tryz.underlying70 rfl (by rw [size_tongue]; rfl)) hS0 ?_
  simp only [zz]
  refine aT (i := 1) (v := .slice A n c) rfl (by kernel_rfl) (by kernel_rfl) (fun W hW => exec_move rfl rfl) hS0 ?_
  simp only [zz]
  refine aT (i := 2) (v := .slice A n c) rfl (by kernel_rfl) (by kernel_rfl) (fun W hW => exec_move rfl rfl) hS0 ?_
  simp only [zz]
  refine aT (i := 3) (v := .int .i64 (n : Int)) rfl (by kernel_rfl) (by kernel_rfl) (fun W hW => gx_len rfl rfl Tryz.underlying26) hS0 ?_
  simp only [zz]
  refine aT (i := 4) (v := .int .i64 (m : Int)) rfl (by kernel_rfl) (by kernel_rfl) (fun W hW => gx_min (n := n) (m := 512) rfl rfl rfl HM.out) hS0 ?_
  simp only [zz]
  refine aT (i := 5) (v := .slice A m c) rfl (by kernel_rfl) (by kernel_rfl) (fun W hW => exec_slice rfl rfl rfl rfl rfl (slice_to_any A n c m HMN.out HNC.out W)) hS0 ?_
  simp only [zz]
  refine aT (i := 6) (v := .agg (rdA d (.slice A m c))) rfl (by kernel_rfl) (by kernel_rfl) (fun W hW => gx_build2 rfl rfl rfl (build_rd d m c A _)) hS0 ?_
  simp only [zz]
  refine alw_step (i := 7) (by kernel_rfl) rfl rfl ?_
  intro K1 HK1
  refine wp_run (v := .pointer (some ⟨w7.heap.size, 0, none⟩)) (w' := w7.alloc (.cells #[.int .i64 0, strV [], strV [], .slice none 0 0] 91)) (gx_alloc rfl (zero_rd _)) ?_
  have hb9 := Blk.new w7 91 #[.int .i64 0, strV [], strV [], .slice none 0 0]
  have hu9 := HUd.out.alloc (.cells #[.int .i64 0, strV [], strV [], .slice none 0 0] 91)
  have hbm9 := HBMd.out.alloc (.cells #[.int .i64 0, strV [], strV [], .slice none 0 0] 91)
  have hS1 := hS0.alloc (.cells #[.int .i64 0, strV [], strV [], .slice none 0 0] 91)
  refine HK1.out _ _ ⟨hS1, ?_⟩
  obtain ⟨gR, hgR⟩ : ∃ gR, gR = w7.heap.size := ⟨_, rfl⟩
  rw [← hgR] at hb9 ⊢
  have HGd := zH (show w.heap.size ≤ gR from by rw [hgR]; exact HUd.out.size)
  have HNR := zH (show gR ≠ gr from by have := HBMd.out.lt; omega)
  have HNT := zH (show bt ≠ gR from by have := hS0.lt; omega)
  clear hgR HK1 hS0 HBMd HUd
  generalize w7.alloc (.cells #[.int .i64 0, strV [], strV [], .slice none 0 0] 91) = w8 at *
  simp only [zz]
  refine alw_step (i := 8) (by kernel_rfl) rfl rfl ?_
  intro K1 HK1
  refine wp_store_rowU 91 (.tmp 8) (.tmp 26) rfl (rdA d (.slice A m c)) hb9 rfl rfl rfl (by rw [size_rd]; rfl) (rdA_one d m c A) ?_
  intro w9 hb10 hu10
  have HU9 := zH (above hu9 HGd.out hu10)
  have HR9 := zH (show Rd w w9 gR d (b.take 512) from ⟨A, m, c, hb10, bs_still HBS5.out HU9.out, by have := HMN.out; have := HNC.out; omega, by have := HMN.out; have := HNM.out; omega, fun hp b9 o9 s9 e => .inl (bs_low HBS5.out hp b9 o9 s9 e)⟩)
  have HB9 := zH (hbm9.turn hu10 (fun e => HNR.out e.symm))
  refine HK1.out _ _ ⟨hS1.turn hu10 (fun e => HNT.out e), ?_⟩
  clear HK1 hS1 hb9 hu9 hbm9 hb10 hu10 HM HMN HBS5 HBS HNC HNM
  simp only [zz]
  refine alw_done rfl ?_
  refine NoPanic.normal ?_
  go_upto_region 5 with fail
  refine wp_region_lit ?_
  refine wR (v := .pointer (some ⟨w9.heap.size, 0, none⟩)) (w' := w9.alloc (.cells #[.int .i64 0, .slice none 0 0] 24)) rfl (gx_alloc rfl (zero_msg _)) ?_
  simp only [zz]
  have hb11 := Blk.new w9 24 #[.int .i64 0, .slice none 0 0]
  have hu11 := (Turn.refl nowhere w9).alloc (.cells #[.int .i64 0, .slice none 0 0] 24)
  obtain ⟨gm, hgm⟩ : ∃ gm, gm = w9.heap.size := ⟨_, rfl⟩
  rw [← hgm] at hb11 ⊢
  have HGM := zH (show w.heap.size ≤ gm from by rw [hgm]; exact HU9.out.size)
  have HNM := zH (show gm ≠ gr from by have := HB9.out.lt; omega)
  have HNMR := zH (show gR ≠ gm from by
   obtain ⟨_, _, _, h, _⟩ := HR9.out
   have := h.lt
   omega)
  clear hgm
  generalize w9.alloc (.cells #[.int .i64 0, .slice none 0 0] 24) = w10 at *
  have HBM := zH hb11
  have HU := zH (HU9.out.next hu11)
  have HBR := zH (HB9.out.turn hu11 (fun e => e))
  have HR := zH (HR9.out.still hu11)
  clear hb11 hu11 HU9 HB9 HR9
  have hp1 := takeType_walk (s := s) HD.out HE.out HU.out HGd.out HR.out
  cases hk : takeType d (b.take 512) with
  | error k =>
    rw [hk] at hp1
    have HP := zH hp1
    have HX1 := zH (show mdecode (d : Int) b = .error k from by rw [HX.out, hk])
    clear hk hp1 HX HR
    go_upto_region 6 with fail
    refine wp_region_lit ?_
    refine wpList_op rfl fun K9 HK9 => ?_
    go_wp2_with fail
    refine (HP.out).mono ?_
    rintro e w2 ⟨⟨v, rfl, hv, hk0⟩, ho1, h1⟩
    refine HK9.out _ _ ?_
    clear HK9
    try simp only [zz]
    have HV := zH hv
    have HK := zH hk0
    obtain ⟨t9, x9, rfl⟩ := errV_some hv hk0
    have HU2 := zH h1
    have HB2 := zH (HBM.out.turn ho1 (fun e => HNMR.out e.symm))
    have HB3 := zH (HBR.out.turn ho1 (fun e => HNR.out e.symm))
    clear hv hk0 ho1 h1
    refine wM (.tuple #[.int .i64 0, .iface t9 x9]) ?_
    simp only [zz]
    refine wE (.int .i64 0) ?_
    simp only [zz]
    refine wE (.iface t9 x9) ?_
    simp only [zz]
    refine wR (v := .pointer (some ⟨gm, 0, none⟩)) rfl (exec_field (off := 0) (d := 0) rfl rfl (by kernel_rfl)) ?_
    simp only [zz]
    refine wpList_store1 (v := .int .i64 0) rfl 3 (.tmp 31) (.tmp 29) rfl (i := 0) HB2.out rfl rfl (show 0 < 2 by decide) rfl rfl (by kernel_rfl) ?_
    intro hb3 hu3
    obtain ⟨w3, hwn⟩ : ∃ wn, wn = w2.setCell ⟨gm, 0, none⟩ (.int .i64 0) := ⟨_, rfl⟩
    rw [← hwn] at hb3 hu3 ⊢
    clear hwn
    have HU3 := zH (above HU2.out HGM.out hu3)
    have HBR3 := zH (HB3.out.turn hu3 (fun e => HNM.out e.symm))
    clear hb3 hu3 HB2 HB3 HU2 HBM HBR HU
    simp only [zz]
    refine wA (.iface t9 x9) ?_
    simp only [zz]
    go_upto_region 8 with fail
    refine wp_region_lit ?_
    refine wR (v := .agg #[.int .i64 0, .slice none 0 0]) rfl (exec_bld rfl (build_msg0 _)) ?_
    simp only [zz]
    refine wM (.iface t9 x9) ?_
    simp only [zz]
    refine wpList_store_row rfl 24 (.tmp 4) (.tmp 34) rfl #[.int .i64 0, .slice none 0 0] HBR3.out rfl rfl rfl (by rw [size_msg]; rfl) msg0_one ?_
    intro wz hbz huz
    have HBZ := zH hbz
    have HUZ := zH (above HU3.out HGR.out huz)
    clear hbz huz
    simp only [zz]
    refine wA (.iface t9 x9) ?_
    simp only [zz]
    go_wp2_with fail
    refine bodyPost_ret (v := .tuple #[.agg #[.int .i64 0, .slice none 0 0], .iface t9 x9]) (ret_cell2 rfl _ _ gr _ _ _ rfl rfl HBZ.out Tryz.underlying24 rfl (by rw [size_msg]; rfl)) rfl ?_
    exact decP_err HX1.out HV.out HK.out HUZ.out
  | ok p =>
    obtain ⟨ty, b1⟩ := p
    rw [hk] at hp1
    have HP := zH hp1
    have HX1 := zH (show mdecode (d : Int) b = match takeMap d b1 with
     | .error e => .error e
     | .ok (l, b2) => match fsR d l b2 with
       | .error e => .error e
       | .ok (fs, b3) => if b3 = [] then .ok (ty, fs) else .error 54 from by rw [HX.out, hk])
    clear hk hp1 HX HR
    go_upto_region 6 with fail
    refine wp_region_lit ?_
    refine wpList_op rfl fun K9 HK9 => ?_
    go_wp2_with fail
    refine (HP.out).mono ?_
    rintro e w2 ⟨⟨rfl, hr2⟩, ho1, h1⟩
    refine HK9.out _ _ ?_
    clear HK9
    try simp only [zz]
    have HU2 := zH h1
    have HR2 := zH hr2
    have HB2 := zH (HBM.out.turn ho1 (fun e => HNMR.out e.symm))
    have HB3 := zH (HBR.out.turn ho1 (fun e => HNR.out e.symm))
    clear hr2 ho1 h1
    refine wM (.tuple #[.int .i64 ty, .nilIface]) ?_
    simp only [zz]
    refine wE (.int .i64 ty) ?_
    simp only [zz]
    refine wE .nilIface ?_
    simp only [zz]
    refine wR (v := .pointer (some ⟨gm, 0, none⟩)) rfl (exec_field (off := 0) (d := 0) rfl rfl (by kernel_rfl)) ?_
    simp only [zz]
    refine wpList_store1 (v := .int .i64 ty) rfl 3 (.tmp 31) (.tmp 29) rfl (i := 0) HB2.out rfl rfl (show 0 < 2 by decide) rfl rfl (by kernel_rfl) ?_
    intro hb3 hu3
    obtain ⟨w3, hwn⟩ : ∃ wn, wn = w2.setCell ⟨gm, 0, none⟩ (.int .i64 ty) := ⟨_, rfl⟩
    rw [← hwn] at hb3 hu3 ⊢
    clear hwn
    have HU3 := zH (above HU2.out HGM.out hu3)
    have HBR3 := zH (HB3.out.turn hu3 (fun e => HNM.out e.symm))
    have HBM3 := zH (show Blk w3 gm 24 #[.int .i64 ty, .slice none 0 0] from hb3)
    have HR3 := zH (rd_turn HR2.out hu3 HNMR.out HGM.out HB2.out (by decide))
    clear hb3 hu3 HB2 HB3 HU2 HR2 HBM HBR HU HP
    simp only [zz]
    refine wA .nilIface ?_
    simp only [zz]
    have hp1 := takeMap_walk (s := s) HD.out HE.out HU3.out HGd.out HR3.out
    cases hk : takeMap d b1 with
    | error k =>
      rw [hk] at hp1
      have HP := zH hp1
      have HX2 := zH (show mdecode (d : Int) b = .error k from by rw [HX1.out, hk])
      clear hk hp1 HX1 HR3
      go_upto_region 9 with fail
      refine wp_region_lit ?_
      refine wpList_op rfl fun K9 HK9 => ?_
      go_wp2_with fail
      refine (HP.out).mono ?_
      rintro e w4 ⟨⟨v, rfl, hv, hk0⟩, ho1, h1⟩
      refine HK9.out _ _ ?_
      clear HK9
      try simp only [zz]
      have HV := zH hv
      have HK := zH hk0
      obtain ⟨t9, x9, rfl⟩ := errV_some hv hk0
      have H4U := zH h1
      have H4M := zH (HBM3.out.turn ho1 (fun e => HNMR.out e.symm))
      have H4R := zH (HBR3.out.turn ho1 (fun e => HNR.out e.symm))
      clear hv hk0 ho1 h1
      refine wM (.tuple #[.slice none 0 0, .iface t9 x9]) ?_
      simp only [zz]
      refine wE (.slice none 0 0) ?_
      simp only [zz]
      refine wE (.iface t9 x9) ?_
      simp only [zz]
      refine wA (.slice none 0 0) ?_
      simp only [zz]
      refine wA (.iface t9 x9) ?_
      simp only [zz]
      go_upto_region 11 with fail
      refine wp_region_lit ?_
      refine wR (v := .agg #[.int .i64 0, .slice none 0 0]) rfl (exec_bld rfl (build_msg0 _)) ?_
      simp only [zz]
      refine wM (.iface t9 x9) ?_
      simp only [zz]
      refine wpList_store_row rfl 24 (.tmp 4) (.tmp 42) rfl #[.int .i64 0, .slice none 0 0] H4R.out rfl rfl rfl (by rw [size_msg]; rfl) msg0_one ?_
      intro wz hbz huz
      have HBZ := zH hbz
      have HUZ := zH (above H4U.out HGR.out huz)
      clear hbz huz
      simp only [zz]
      refine wA (.iface t9 x9) ?_
      simp only [zz]
      go_wp2_with fail
      refine bodyPost_ret (v := .tuple #[.agg #[.int .i64 0, .slice none 0 0], .iface t9 x9]) (ret_cell2 rfl _ _ gr _ _ _ rfl rfl HBZ.out Tryz.underlying24 rfl (by rw [size_msg]; rfl)) rfl ?_
      exact decP_err HX2.out HV.out HK.out HUZ.out
    | ok p =>
      obtain ⟨l, b2⟩ := p
      have HCP := zH (takeMap_cap hk)
      rw [hk] at hp1
      have HP := zH hp1
      have HX2 := zH (show mdecode (d : Int) b = match fsR d l b2 with
       | .error e => .error e
       | .ok (fs, b3) => if b3 = [] then .ok (ty, fs) else .error 54 from by rw [HX1.out, hk])
      clear hk hp1 HX1 HR3
      go_upto_region 9 with fail
      refine wp_region_lit ?_
      refine wpList_op rfl fun K9 HK9 => ?_
      go_wp2_with fail
      refine (HP.out).mono ?_
      rintro e w4 ⟨⟨AL, cl, rfl, hrow, hr4⟩, ho1, h1⟩
      refine HK9.out _ _ ?_
      clear HK9
      try simp only [zz]
      have H4U := zH h1
      have H4D := zH hr4
      have HRW := zH hrow
      have H4M := zH (HBM3.out.turn ho1 (fun e => HNMR.out e.symm))
      have H4R := zH (HBR3.out.turn ho1 (fun e => HNR.out e.symm))
      clear hr4 ho1 h1 hrow HP
      refine wM (.tuple #[.slice AL l.length cl, .nilIface]) ?_
      simp only [zz]
      refine wE (.slice AL l.length cl) ?_
      simp only [zz]
      refine wE .nilIface ?_
      simp only [zz]
      refine wA (.slice AL l.length cl) ?_
      simp only [zz]
      refine wA .nilIface ?_
      simp only [zz]
      have hp1 := takeFields_walk (s := s) HD.out HE.out H4U.out HGd.out H4D.out rfl HRW.out HCP.out
      cases hk : fsR d l b2 with
      | error k =>
        rw [hk] at hp1
        have HP := zH hp1
        have HX3 := zH (show mdecode (d : Int) b = .error k from by rw [HX2.out, hk])
        clear hk hp1 HX2 H4D
        go_upto_region 12 with fail
        refine wp_region_lit ?_
        refine wM (.slice AL l.length cl) ?_
        simp only [zz]
        refine wpList_op rfl fun K9 HK9 => ?_
        go_wp2_with fail
        refine (HP.out).mono ?_
        rintro e w5 ⟨⟨v, rfl, hv, hk0⟩, ho1, h1⟩
        refine HK9.out _ _ ?_
        clear HK9
        try simp only [zz]
        have HV := zH hv
        have HK := zH hk0
        obtain ⟨t9, x9, rfl⟩ := errV_some hv hk0
        have H5U := zH h1
        have H5M := zH (H4M.out.turn ho1 (fun e => HNMR.out e.symm))
        have H5R := zH (H4R.out.turn ho1 (fun e => HNR.out e.symm))
        clear hv hk0 ho1 h1
        refine wM (.tuple #[.slice none 0 0, .iface t9 x9]) ?_
        simp only [zz]
        refine wE (.slice none 0 0) ?_
        simp only [zz]
        refine wE (.iface t9 x9) ?_
        simp only [zz]
        refine wR (v := .pointer (some ⟨gm, 1, none⟩)) rfl (exec_field (off := 0) (d := 1) rfl rfl (by kernel_rfl)) ?_
        simp only [zz]
        refine wpList_store1 (v := .slice none 0 0) rfl 22 (.tmp 49) (.tmp 47) rfl (i := 1) H5M.out rfl rfl (show 1 < 2 by decide) rfl rfl (by kernel_rfl) ?_
        intro hb3 hu3
        obtain ⟨w6, hwn⟩ : ∃ wn, wn = w5.setCell ⟨gm, 1, none⟩ (.slice none 0 0) := ⟨_, rfl⟩
        rw [← hwn] at hb3 hu3 ⊢
        clear hwn
        have HU6 := zH (above H5U.out HGM.out hu3)
        have HBR6 := zH (H5R.out.turn hu3 (fun e => HNM.out e.symm))
        clear hb3 hu3 H5M H5R H5U
        simp only [zz]
        refine wA (.iface t9 x9) ?_
        simp only [zz]
        go_upto_region 14 with fail
        refine wp_region_lit ?_
        refine wR (v := .agg #[.int .i64 0, .slice none 0 0]) rfl (exec_bld rfl (build_msg0 _)) ?_
        simp only [zz]
        refine wM (.iface t9 x9) ?_
        simp only [zz]
        refine wpList_store_row rfl 24 (.tmp 4) (.tmp 52) rfl #[.int .i64 0, .slice none 0 0] HBR6.out rfl rfl rfl (by rw [size_msg]; rfl) msg0_one ?_
        intro wz hbz huz
        have HBZ := zH hbz
        have HUZ := zH (above HU6.out HGR.out huz)
        clear hbz huz
        simp only [zz]
        refine wA (.iface t9 x9) ?_
        simp only [zz]
        go_wp2_with fail
        refine bodyPost_ret (v := .tuple #[.agg #[.int .i64 0, .slice none 0 0], .iface t9 x9]) (ret_cell2 rfl _ _ gr _ _ _ rfl rfl HBZ.out Tryz.underlying24 rfl (by rw [size_msg]; rfl)) rfl ?_
        exact decP_err HX3.out HV.out HK.out HUZ.out
      | ok p =>
        obtain ⟨fs, b3⟩ := p
        rw [hk] at hp1
        have HP := zH hp1
        have HX3 := zH (show mdecode (d : Int) b = if b3 = [] then .ok (ty, fs) else .error 54 from by rw [HX2.out, hk])
        clear hk hp1 HX2 H4D
        go_upto_region 12 with fail
        refine wp_region_lit ?_
        refine wM (.slice AL l.length cl) ?_
        simp only [zz]
        refine wpList_op rfl fun K9 HK9 => ?_
        go_wp2_with fail
        refine (HP.out).mono ?_
        rintro e w5 ⟨⟨gF, rfl, hfl, hgF, hgF2, hr5⟩, ho1, h1⟩
        refine HK9.out _ _ ?_
        clear HK9
        try simp only [zz]
        have H5U := zH h1
        have H5D := zH hr5
        have HFL := zH hfl
        have HGF := zH hgF
        have HNF := zH (show gm ≠ gF from by have := H4M.out.lt; omega)
        have HNF2 := zH (show gr ≠ gF from by have := H4R.out.lt; omega)
        have H5M := zH (H4M.out.turn ho1 (fun e => HNMR.out e.symm))
        have H5R := zH (H4R.out.turn ho1 (fun e => HNR.out e.symm))
        clear hfl hgF hgF2 hr5 ho1 h1 HP
        refine wM (.tuple #[.slice (some ⟨gF, 0, none⟩) fs.length fs.length, .nilIface]) ?_
        simp only [zz]
        refine wE (.slice (some ⟨gF, 0, none⟩) fs.length fs.length) ?_
        simp only [zz]
        refine wE .nilIface ?_
        simp only [zz]
        refine wR (v := .pointer (some ⟨gm, 1, none⟩)) rfl (exec_field (off := 0) (d := 1) rfl rfl (by kernel_rfl)) ?_
        simp only [zz]
        refine wpList_store1 (v := .slice (some ⟨gF, 0, none⟩) fs.length fs.length) rfl 22 (.tmp 49) (.tmp 47) rfl (i := 1) H5M.out rfl rfl (show 1 < 2 by decide) rfl rfl (by kernel_rfl) ?_
        intro hb3 hu3
        obtain ⟨w6, hwn⟩ : ∃ wn, wn = w5.setCell ⟨gm, 1, none⟩ (.slice (some ⟨gF, 0, none⟩) fs.length fs.length) := ⟨_, rfl⟩
        rw [← hwn] at hb3 hu3 ⊢
        clear hwn
        have HU6 := zH (above H5U.out HGM.out hu3)
        have HBR6 := zH (H5R.out.turn hu3 (fun e => HNM.out e.symm))
        have HBM6 := zH (show Blk w6 gm 24 #[.int .i64 ty, .slice (some ⟨gF, 0, none⟩) fs.length fs.length] from hb3)
        have HR6 := zH (rd_turn H5D.out hu3 HNMR.out HGM.out H5M.out (by decide))
        have HFL6 := zH (show Fl w6 (some ⟨gF, 0, none⟩) fs.length fs from by
         obtain ⟨q1, q2, q3⟩ := HFL.out
         refine ⟨q1, q2, fun hp => ?_⟩
         obtain ⟨b9, o9, e9, h9⟩ := q3 hp
         refine ⟨b9, o9, e9, fun i f hf j v hv => ?_⟩
         have hc := h9 i f hf j v hv
         have hne : b9 ≠ gm := fun e3 => by
          cases e9
          exact HNF.out e3.symm
         exact (hu3.cell (World.block_lt_of_cell? _ _ hc) (fun e => hne e)).trans hc)
        clear hb3 hu3 H5M H5R H5U H5D HFL
        simp only [zz]
        refine wA .nilIface ?_
        simp only [zz]
        obtain ⟨A7, n7, c7, hg7, hb7, _⟩ := id HR6.out
        have HB7 := zH hb7
        have HG7 := zH hg7
        clear hg7 hb7
        go_upto_region 15 with fail
        refine wp_region_lit ?_
        refine wR (v := .pointer (some ⟨gR, 3, none⟩)) rfl (exec_field (off := 0) (d := 3) rfl rfl fieldOff_rest) ?_
        simp only [zz]
        refine wR (v := .slice A7 n7 c7) rfl (exec_load1 rfl rfl (by kernel_rfl) (HG7.out.cell 3)) ?_
        simp only [zz]
        refine wR (v := .int .i64 (n7 : Int)) rfl (gx_len rfl rfl Tryz.underlying26) ?_
        simp only [zz]
        by_cases hb30 : b3 = []
        ·have hn7 : n7 = 0 := by rw [← HB7.out.1, hb30]; rfl
         subst hn7
         have HX4 := zH (show mdecode (d : Int) b = .ok (ty, fs) from by rw [HX3.out, if_pos hb30])
         clear hb30 HX3 HB7 HG7 HR6
         refine wR (v := .bool false) rfl (ix_gtr rfl rfl rfl (by decide)) ?_
         simp only [zz]
         go_upto_region 17 with fail
         refine wp_region_lit ?_
         refine wR (v := msgV ty (some ⟨gF, 0, none⟩) fs.length fs.length) rfl (gx_loads rfl rfl (blk_range HBM6.out) Tryz.underlying24 rfl (by rw [size_msg]; rfl)) ?_
         simp only [zz]
         refine wpList_store_row rfl 24 (.tmp 4) (.tmp 60) rfl #[.int .i64 ty, .slice (some ⟨gF, 0, none⟩) fs.length fs.length] HBR6.out rfl rfl rfl (by rw [size_msg]; rfl) (msgA_one ty _ _ _) ?_
         intro wz hbz huz
         have HBZ := zH hbz
         have HUZ := zH (above HU6.out HGR.out huz)
         have HFZ := zH (show Fl wz (some ⟨gF, 0, none⟩) fs.length fs from by
          obtain ⟨q1, q2, q3⟩ := HFL6.out
          refine ⟨q1, q2, fun hp => ?_⟩
          obtain ⟨b9, o9, e9, h9⟩ := q3 hp
          refine ⟨b9, o9, e9, fun i f hf j v hv => ?_⟩
          have hc := h9 i f hf j v hv
          have hne : b9 ≠ gr := fun e3 => by
           cases e9
           exact HNF2.out e3.symm
          exact (huz.cell (World.block_lt_of_cell? _ _ hc) (fun e => hne e)).trans hc)
         clear hbz huz HFL6
         simp only [zz]
         refine wA .nilIface ?_
         simp only [zz]
         go_wp2_with fail
         refine bodyPost_ret (v := .tuple #[.agg #[.int .i64 ty, .slice (some ⟨gF, 0, none⟩) fs.length fs.length], .nilIface]) (ret_cell2 rfl _ _ gr _ _ _ rfl rfl HBZ.out Tryz.underlying24 rfl (by rw [size_msg]; rfl)) rfl ?_
         unfold DecP
         rw [HX4.out]
         exact ⟨⟨gF, rfl, HFZ.out, HGF.out⟩, HUZ.out⟩
        ·have hn7 : (0 : Int) < (n7 : Int) := by
          have h1 := HB7.out.1
          have h2 := List.length_pos_iff.2 hb30
          omega
         have HX4 := zH (show mdecode (d : Int) b = .error 54 from by rw [HX3.out, if_neg hb30])
         have HLE := zH (show 4 < w.heap.size from World.block_lt_of_cell? _ _ HE.out.sen.more.1)
         clear hb30 HX3 HB7 HG7 HR6
         refine wR (v := .bool true) rfl (ix_gtr rfl rfl rfl (by simpa using hn7)) ?_
         simp only [zz]
         go_upto_region 16 with fail
         have hS0 : w6.drew.cell? ⟨4, 0, none⟩ = some (errS s.more) := (HE.out.turn HU6.out).sen.more.1
         have HBd := zH HBR6.out.drew
         have HUd := zH HU6.out.drew
         clear HBR6 HU6 HBM6 HFL6
         refine wp_region_alw (fun W => W.cell? ⟨4, 0, none⟩ = some (errS s.more)) (by kernel_rfl) ?_
         generalize w6.drew = w7 at *
         refine aT (i := 0) (v := .agg #[.int .i64 0, .slice none 0 0]) rfl (by kernel_rfl) (by kernel_rfl) (fun W hW => exec_bld rfl (build_msg0 _)) hS0 ?_
         simp only [zz]
         refine aT (i := 1) (v := errS s.more) rfl (by kernel_rfl) (by kernel_rfl) (fun W hW => exec_load1 rfl rfl (by kernel_rfl) hW) hS0 ?_
         simp only [zz]
         refine alw_step (i := 2) (by kernel_rfl) rfl rfl ?_
         intro K1 HK1
         refine wp_store_rowU 24 (.tmp 4) (.tmp 58) rfl #[.int .i64 0, .slice none 0 0] HBd.out rfl rfl rfl (by rw [size_msg]; rfl) msg0_one ?_
         intro wz hbz huz
         have hS1 : wz.cell? ⟨4, 0, none⟩ = some (errS s.more) := (huz.cell (World.block_lt_of_cell? _ _ hS0) (fun e => by
          have e : 4 = gr := e
          have := HLE.out
          have := HGR.out
          omega)).trans hS0
         have HBZ := zH hbz
         have HUZ := zH (above HUd.out HGR.out huz)
         clear hbz huz HUd HBd hS0
         refine HK1.out _ _ ⟨hS1, ?_⟩
         clear HK1
         simp only [zz]
         refine aT (i := 3) (v := errS s.more) rfl (by kernel_rfl) (by kernel_rfl) (fun W hW => gx_assign rfl rfl) hS1 ?_
         simp only [zz]
         refine alw_done rfl ?_
         clear hS1
         refine NoPanic.normal ?_
         go_wp2_with fail
         refine bodyPost_ret (v := .tuple #[.agg #[.int .i64 0, .slice none 0 0], errS s.more]) (ret_cell2 rfl _ _ gr _ _ _ rfl rfl HBZ.out Tryz.underlying24 rfl (by rw [size_msg]; rfl)) rfl ?_
         exact decP_err HX4.out ErrV.more (by decide) HUZ.out
 ·have HX := zH (show mdecode dd b = .error 50 from by unfold mdecode; rw [if_neg hd])
  refine wpList_op rfl fun K9 HK9 => ?_
  go_wp2_with fail
  refine (tongueOf_bad (s := s) hd (HE.out.turn HU.out).sen).mono ?_
  rintro e w2 ⟨rfl, ht2⟩
  refine HK9.out _ _ ?_
  clear HK9
  try simp only [zz]
  have HU2 := zH (HU.out.next ht2)
  have HB2 := zH (HB.out.turn ht2 (fun e => e))
  clear ht2 HB HU hd
  refine wM (.tuple #[.agg #[.int .i64 0, strV [], strV []], errS s.dialect]) ?_
  simp only [zz]
  refine wE (.agg #[.int .i64 0, strV [], strV []]) ?_
  simp only [zz]
  refine wE (errS s.dialect) ?_
  simp only [zz]
  refine wR (v := .pointer (some ⟨w2.heap.size, 0, none⟩)) (w' := w2.alloc (.cells #[.int .i64 0, strV [], strV []] 70)) rfl (gx_alloc rfl (zero_tongue _)) ?_
  simp only [zz]
  have hb8 := Blk.new w2 70 #[.int .i64 0, strV [], strV []]
  have hu8 := HU2.out.alloc (.cells #[.int .i64 0, strV [], strV []] 70)
  have hbm8 := HB2.out.alloc (.cells #[.int .i64 0, strV [], strV []] 70)
  obtain ⟨bt, hbt⟩ : ∃ bt, bt = w2.heap.size := ⟨_, rfl⟩
  rw [← hbt] at hb8 ⊢
  have HG8 := zH (show w.heap.size ≤ bt from by rw [hbt]; exact HU2.out.size)
  have HN8 := zH (show gr ≠ bt from by have := HB2.out.lt; omega)
  clear hbt
  generalize w2.alloc (.cells #[.int .i64 0, strV [], strV []] 70) = w5 at *
  refine wpList_store_row rfl 70 (.tmp 6) (.tmp 14) rfl #[.int .i64 0, strV [], strV []] hb8 rfl rfl rfl (by rw [size_tongue]; rfl) zeroT_one ?_
  intro w6 hb6 hu6
  have HBT := zH hb6
  have HBM := zH (hbm8.turn hu6 (fun e => HN8.out e))
  have HU6 := zH (hu8.trans hu6 (fun k hk e => by
   have := HG8.out
   have e : k = bt := e
   omega))
  clear hb8 hu8 hbm8 hb6 hu6 HB2 HU2
  simp only [zz]
  refine wA (errS s.dialect) ?_
  simp only [zz]
  unfold errS
  go_upto_region 3 with fail
  refine wp_region_lit ?_
  refine wR (v := .agg #[.int .i64 0, .slice none 0 0]) rfl (exec_bld rfl (build_msg0 _)) ?_
  simp only [zz]
  refine wM (.iface 236 (.pointer (some s.dialect))) ?_
  simp only [zz]
  refine wpList_store_row rfl 24 (.tmp 4) (.tmp 18) rfl #[.int .i64 0, .slice none 0 0] HBM.out rfl rfl rfl (by rw [size_msg]; rfl) msg0_one ?_
  intro wz hbz huz
  have HBZ := zH hbz
  have HUZ := zH (above HU6.out HGR.out huz)
  clear hbz huz
  simp only [zz]
  refine wA (.iface 236 (.pointer (some s.dialect))) ?_
  simp only [zz]
  go_wp2_with fail
  refine bodyPost_ret (v := .tuple #[.agg #[.int .i64 0, .slice none 0 0], .iface 236 (.pointer (some s.dialect))]) (ret_cell2 rfl _ _ gr _ _ _ rfl rfl HBZ.out Tryz.underlying24 rfl (by rw [size_msg]; rfl)) rfl ?_
  exact decP_err HX.out ErrV.dialect (by decide) HUZ.out
def msgE (r : Except Int (Int × List Fld)) : Int × List Fld := match r with
 | .ok p => p
 | .error _ => (0, [])
theorem fl_nil (w : World) : Fl w none 0 [] := ⟨rfl, by decide, fun h => absurd h (by decide)⟩
theorem decP_any {s : Sents} {r : Except Int (Int × List Fld)} {w w' : World} {e : Ending} (h : DecP s r w e w') :
 ∃ A n c v, e = .returned (.tuple #[msgV (msgE r).1 A n c, v]) ∧ ErrV s v (codeE r) ∧ Fl w' A n (msgE r).2 ∧ (∀ b o t, A = some ⟨b, o, t⟩ → w.heap.size ≤ b) ∧ Turn nowhere w w' := by
 obtain ⟨h, ht⟩ := h
 cases r with
 | error k =>
   obtain ⟨v, rfl, hv, _⟩ := h
   exact ⟨none, 0, 0, v, rfl, hv, fl_nil w', fun _ _ _ e => (by cases e), ht⟩
 | ok p =>
   obtain ⟨ty, fs⟩ := p
   obtain ⟨gF, rfl, hf, hg⟩ := h
   exact ⟨_, _, _, _, rfl, ErrV.nil, hf, fun b o t e => (by cases e; exact hg), ht⟩
theorem fl_turn {w w' : World} {A : Option Addr} {n g : Nat} {fs : List Fld} (h : Fl w A n fs) (ht : Turn (only g) w w') (hA : ∀ b o t, A = some ⟨b, o, t⟩ → b ≠ g) : Fl w' A n fs := by
 obtain ⟨q1, q2, q3⟩ := h
 refine ⟨q1, q2, fun hp => ?_⟩
 obtain ⟨b9, o9, e9, h9⟩ := q3 hp
 refine ⟨b9, o9, e9, fun i f hf j v hv => ?_⟩
 have hc := h9 i f hf j v hv
 exact (ht.cell (World.block_lt_of_cell? _ _ hc) (fun e => hA b9 o9 none e9 e)).trans hc
def DecodeP (r : Except Int (Int × List Fld)) (w : World) (e : Ending) (w' : World) : Prop :=
 ∃ A n c, e = .returned (.tuple #[msgV (msgE r).1 A n c, .int .i64 (codeE r)]) ∧ Fl w' A n (msgE r).2 ∧ (∀ b o t, A = some ⟨b, o, t⟩ → w.heap.size ≤ b) ∧ Turn nowhere w w'
theorem Decode_walk {s : Sents} {w : World} {dd : Int} {A : Option Addr} {n c : Nat} {b : List UInt8} (he : Env s w) (hbs : Bs w A n b) (hnc : n ≤ c) (hnm : n ≤ 140737488355328) :
 Calls Tryz.prog 13 #[.int .i64 dd, .slice A n c] w (DecodeP (mdecode dd b) w) := by
 have hu := (Turn.refl nowhere w).alloc (.cells #[.int .i64 0, .slice none 0 0] 24)
 have hb := Blk.new w 24 #[.int .i64 0, .slice none 0 0]
 obtain ⟨gr, hgr⟩ : ∃ gr, gr = w.heap.size := ⟨_, rfl⟩
 rw [← hgr] at hb
 have HGRE := zH hgr
 have HGR := zH (show w.heap.size ≤ gr from by omega)
 have HE := zH he
 have HBS := zH hbs
 have HNC := zH hnc
 have HNM := zH hnm
 have HU := zH hu
 have HB := zH hb
 clear he hbs hnc hnm hu hb hgr
 go_enter Tryz.func13, Tryz.ntmps13
 go_upto_region 1 with fail
 have e2 := HGRE.out
 rw [← e2]
 clear e2 HGRE
 change Code.wp _ _ _ _ (w.alloc (.cells #[.int .i64 0, .slice none 0 0] 24))
 generalize World.alloc w (.cells #[.int .i64 0, .slice none 0 0] 24) = w1 at *
 refine wp_region_lit ?_
 refine wM (.int .i64 dd) ?_
 simp only [zz]
 refine wM (.slice A n c) ?_
 simp only [zz]
 have hD := (decode_walk (s := s) (dd := dd) (HE.out.turn HU.out) (bs_still HBS.out HU.out) HNC.out HNM.out).mono (fun _ _ h => decP_any h)
 generalize mdecode dd b = r at *
 have HDD := zH hD
 clear hD
 refine wpList_op rfl fun K9 HK9 => ?_
 go_wp2_with fail
 refine (HDD.out).mono ?_
 rintro e w2 ⟨A2, n2, c2, v2, rfl, hv2, hf2, hg2, ht2⟩
 refine HK9.out _ _ ?_
 clear HK9
 try simp only [zz]
 have HV := zH hv2
 have HF2 := zH hf2
 have HG2 := zH hg2
 have HU2 := zH (HU.out.next ht2)
 have HB2 := zH (HB.out.turn ht2 (fun e => e))
 have HL1 := zH HB.out.lt
 clear hv2 hf2 hg2 ht2 HDD HB HU HBS HNC HNM
 unfold msgV
 refine wM (.tuple #[.agg #[.int .i64 (msgE r).1, .slice A2 n2 c2], v2]) ?_
 simp only [zz]
 refine wE (.agg #[.int .i64 (msgE r).1, .slice A2 n2 c2]) ?_
 simp only [zz]
 refine wE v2 ?_
 simp only [zz]
 refine wR (v := .pointer (some ⟨w2.heap.size, 0, none⟩)) (w' := w2.alloc (.cells #[.int .i64 0, .slice none 0 0] 24)) rfl (gx_alloc rfl (zero_msg _)) ?_
 simp only [zz]
 have hb8 := Blk.new w2 24 #[.int .i64 0, .slice none 0 0]
 have hu8 := HU2.out.alloc (.cells #[.int .i64 0, .slice none 0 0] 24)
 have hv8 := (Turn.refl nowhere w2).alloc (.cells #[.int .i64 0, .slice none 0 0] 24)
 have hbm8 := HB2.out.alloc (.cells #[.int .i64 0, .slice none 0 0] 24)
 obtain ⟨gm, hgm⟩ : ∃ gm, gm = w2.heap.size := ⟨_, rfl⟩
 rw [← hgm] at hb8 ⊢
 have HG8 := zH (show w.heap.size ≤ gm from by rw [hgm]; exact HU2.out.size)
 have HG9 := zH (show w2.heap.size ≤ gm from by omega)
 have HN8 := zH (show gm ≠ gr from by have := HB2.out.lt; omega)
 clear hgm
 generalize w2.alloc (.cells #[.int .i64 0, .slice none 0 0] 24) = w5 at *
 refine wpList_store_row rfl 24 (.tmp 6) (.tmp 12) rfl #[.int .i64 (msgE r).1, .slice A2 n2 c2] hb8 rfl rfl rfl (by rw [size_msg]; rfl) (msgA_one _ _ _ _) ?_
 intro w6 hb6 hu6
 have HBM := zH hb6
 have HBR := zH (hbm8.turn hu6 (fun e => HN8.out e.symm))
 have HU6 := zH (above hu8 HG8.out hu6)
 have HF6 := zH (HF2.out.still (above hv8 HG9.out hu6))
 clear hb8 hu8 hbm8 hb6 hu6 HB2 HU2 hv8 HF2
 simp only [zz]
 refine wA v2 ?_
 simp only [zz]
 go_upto_region 2 with fail
 have hS0 : Blk w6.drew gm 24 #[.int .i64 (msgE r).1, .slice A2 n2 c2] := HBM.out.drew
 have HBd := zH HBR.out.drew
 have HUd := zH HU6.out.drew
 have HFd := zH (HF6.out.still ((Turn.refl nowhere w6).drew))
 clear HBM HBR HU6 HF6
 refine wp_region_alw (fun W => Blk W gm 24 #[.int .i64 (msgE r).1, .slice A2 n2 c2]) (by kernel_rfl) ?_
 generalize w6.drew = w7 at *
 refine aT (i := 0) (v := .agg #[.int .i64 (msgE r).1, .slice A2 n2 c2]) rfl (by kernel_rfl) (by kernel_rfl) (fun W hW => gx_loads rfl rfl (blk_range hW) Tryz.underlying24 rfl (by rw [size_msg]; rfl)) hS0 ?_
 simp only [zz]
 refine aT (i := 1) (v := v2) rfl (by kernel_rfl) (by kernel_rfl) (fun W hW => exec_move rfl rfl) hS0 ?_
 simp only [zz]
 refine alw_step (i := 2) (by kernel_rfl) rfl rfl ?_
 intro K1 HK1
 go_wp2_with fail
 refine (tell_walk HV.out (HE.out.turn HUd.out).sen).mono ?_
 rintro e w8 ⟨rfl, ht8⟩
 have hS1 := hS0.turn ht8 (fun e => e)
 refine HK1.out _ _ ⟨hS1, ?_⟩
 have HB8 := zH (HBd.out.turn ht8 (fun e => e))
 have HU8 := zH (HUd.out.next ht8)
 have HF8 := zH (HFd.out.still ht8)
 clear HK1 hS0 ht8 HBd HUd HFd
 try simp only [zz]
 refine alw_step (i := 3) (by kernel_rfl) rfl rfl ?_
 intro K1 HK1
 refine wp_store_rowU 24 (.tmp 4) (.tmp 14) rfl #[.int .i64 (msgE r).1, .slice A2 n2 c2] HB8.out rfl rfl rfl (by rw [size_msg]; rfl) (msgA_one _ _ _ _) ?_
 intro wz hbz huz
 have hS2 := hS1.turn huz (fun e => HN8.out e)
 have HBZ := zH hbz
 have HUZ := zH (above HU8.out HGR.out huz)
 have HFZ := zH (fl_turn HF8.out huz (fun b o t e => by
  have := HG2.out b o t e
  have := HL1.out
  omega))
 clear hbz huz HU8 HB8 HF8 hS1
 refine HK1.out _ _ ⟨hS2, ?_⟩
 clear HK1
 simp only [zz]
 refine aT (i := 4) (v := .int .i64 (codeE r)) rfl (by kernel_rfl) (by kernel_rfl) (fun W hW => gx_assign rfl rfl) hS2 ?_
 simp only [zz]
 refine alw_done rfl ?_
 clear hS2
 refine NoPanic.normal ?_
 go_wp2_with fail
 refine bodyPost_ret (v := .tuple #[.agg #[.int .i64 (msgE r).1, .slice A2 n2 c2], .int .i64 (codeE r)]) (ret_cell2 rfl _ _ gr _ _ _ rfl rfl HBZ.out Tryz.underlying24 rfl (by rw [size_msg]; rfl)) rfl ?_
 exact ⟨A2, n2, c2, rfl, HFZ.out, fun b o t e => by
  have := HG2.out b o t e
  have := HL1.out
  have := HGR.out
  omega, HUZ.out⟩
end Go.Proofs.YticofobhkmabiaaGreatDoor
