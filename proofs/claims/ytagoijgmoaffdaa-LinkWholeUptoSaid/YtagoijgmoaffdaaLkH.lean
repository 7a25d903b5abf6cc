/-
  The reference's Feed, walked. Condition: what it holds and what it is fed are together at most 2^43 bytes.
-/
import Derived.Test.YtagoijgmoaffdaaLkG
namespace Go.Proofs.Ytagoijgmoaffdaa
open Go.RowKit
open Lkk
set_option linter.unusedVariables false
set_option linter.unusedSimpArgs false
/-- the reference's link -/
structure Rk (w : World) (q : Nat) (A : Option Addr) (n c : Nat) (h : List UInt8) : Prop where
  blk : Blk w q 33 #[.slice A n c]
  bs : Bs w A n h
  nc : n ≤ c
  ac : A = none → c = 0
  hp : ∀ k, own_of A k → ∃ cu, w.heap[k]? = some (.cells cu 5 (0, 0))
def footR (q : Nat) (A : Option Addr) : Nat → Prop := fun k => k = q ∨ own_of A k
theorem Rk.turn {w w' : World} {q : Nat} {A : Option Addr} {n c : Nat} {h : List UInt8} {F : Nat → Prop} (H : Rk w q A n c h) (ht : Turn F w w') (hn : ∀ k, footR q A k → ¬ F k) : Rk w' q A n c h :=
  ⟨H.blk.turn ht (hn q (.inl rfl)), H.bs.turn ht (fun b off s e _ _ => hn b (.inr ⟨off, s, e⟩)), H.nc, H.ac, fun k hk => by
    obtain ⟨cu, hc⟩ := H.hp k hk
    exact ⟨cu, (ht.block k (Array.getElem?_eq_some_iff.1 hc).1 (hn k (.inr hk))).trans hc⟩⟩
theorem Rk.lt {w : World} {q : Nat} {A : Option Addr} {n c : Nat} {h : List UInt8} (H : Rk w q A n c h) : ∀ k, footR q A k → k < w.heap.size := fun k hk => by
  rcases hk with rfl | hk
  · exact H.blk.lt
  · obtain ⟨cu, hc⟩ := H.hp k hk
    exact (Array.getElem?_eq_some_iff.1 hc).1
theorem Rk.ne {w : World} {q : Nat} {A : Option Addr} {n c : Nat} {h : List UInt8} (H : Rk w q A n c h) : ¬ own_of A q := fun hk => by
  obtain ⟨cu, hc⟩ := H.hp q hk
  exact H.blk.ne_ (show Blk w q 5 cu from hc) (by decide) rfl
/-- what the reference's Feed tells -/
def RFed (w w' : World) (q : Nat) (r : Sp) (e : Ending) : Prop := ∃ fv A n c, e = .returned (.tuple #[fv, .int .i64 (ec r.ok)]) ∧ Rk w' q A n c r.rest ∧ Frr w' (fun k => w.heap.size ≤ k) fv r.fs ∧ Turn (only q) w w' ∧ ∀ k, own_of A k → w.heap.size ≤ k
theorem exec_buildNone {P : Program} {a : Act} {o : Oper} {t : TypeId} {v : Value} {W W' : World} (ho : o.op = .buildSlice t 0 #[]) (h : (Instr.buildSlice t 0 #[]).run P W = .ok v W') : (execOp a.eval o).run P W = .ok (.value v) W' := by
  unfold execOp
  simp only [ho, List.map_toArray, List.map_nil, h, Sem.run_bind, Sem.run_pure, Result.andThen_ok]
theorem build_noneB (w : World) : (Instr.buildSlice 22 0 #[]).run Try.prog w = .ok (.slice (some ⟨w.heap.size, 0, none⟩) 0 0) (w.alloc (.cells #[] 5)) := by
  kernel_rfl
theorem build_noneF (w : World) : (Instr.buildSlice 28 0 #[]).run Try.prog w = .ok (.slice (some ⟨w.heap.size, 0, none⟩) 0 0) (w.alloc (.cells #[] 22)) := by
  kernel_rfl
theorem ext_new {w w1 w' : World} {v v' : Value} (ht : Turn nowhere w w1) (he : Ext w1 w' v v') (hv : ∀ k, v.ownBlock = some k → w.heap.size ≤ k) : Turn nowhere w w' ∧ ∀ k, v'.ownBlock = some k → w.heap.size ≤ k :=
  ⟨ht.trans he.tr fun k hk e => by have := hv k e.symm; omega, fun k hk => by
    by_cases hlt : k < w1.heap.size
    · exact hv k (he.sub k hk.symm hlt).symm
    · have := ht.size
      omega⟩
/-- append([]byte{}, s...) -/
theorem copy_src {w : World} {A : Option Addr} {m c : Nat} {bs : List UInt8} (hb : Bs w A m bs) (hc : A = none → c = 0) (hm : m ≤ 140737488355328) {ty : TypeId} :
    ∃ A' c' w', (Builtin.append_ #[22, 22] ty #[.slice (some ⟨w.heap.size, 0, none⟩) 0 0, .slice A m c]).run Try.prog (w.alloc (.cells #[] 5)) = .ok (.slice A' m c') w' ∧ Own w' 0 5 (.slice A' m c') bs ∧ Turn nowhere w w' ∧ ∀ k, (Value.slice A' m c').ownBlock = some k → w.heap.size ≤ k := by
  obtain ⟨A', c', w', g1, g2, g3⟩ := append_src (ty := ty) (Own.empty w 0 5 (Nat.zero_le _)) (hb.still ((Turn.refl nowhere w).alloc (.cells #[] 5))) hc (by simp; omega)
  have hl : ([] : List UInt8).length + m = m := by simp
  rw [hl] at g1 g2 g3
  rw [List.nil_append] at g2
  obtain ⟨h1, h2⟩ := ext_new ((Turn.refl nowhere w).alloc (.cells #[] 5)) g3 (fun k hk => by
    have : w.heap.size = k := Option.some.inj hk
    omega)
  exact ⟨A', c', w', g1, g2, h1, h2⟩
/-- a round of the reference's loop begins -/
structure RLoop (w wr : World) (q : Nat) (l : List UInt8) (fv : Value) (cur : List UInt8) (A' : Option Addr) (n' c' : Nat) (fs : List (List UInt8)) : Prop where
  rk : Rk wr q A' n' c' cur
  new : ∀ k, own_of A' k → w.heap.size ≤ k
  fd : feed l = (feed cur).pre fs
  fr : Frr wr (fun k => w.heap.size ≤ k) fv fs
  tr : Turn (only q) w wr
  cnt : fs.length * 3 + n' ≤ l.length
theorem RLoop.still {w wr w' : World} {q : Nat} {l : List UInt8} {fv : Value} {cur : List UInt8} {A' : Option Addr} {n' c' : Nat} {fs : List (List UInt8)} (h : RLoop w wr q l fv cur A' n' c' fs) (ht : Turn nowhere wr w') : RLoop w w' q l fv cur A' n' c' fs :=
  ⟨h.rk.turn ht (fun _ _ e => e), h.new, h.fd, h.fr.still ht, h.tr.trans ht (fun _ _ e => e.elim), h.cnt⟩
theorem rloop_ok {w wr : World} {q : Nat} {l : List UInt8} {fv : Value} {cur : List UInt8} {A' : Option Addr} {n' c' : Nat} {fs : List (List UInt8)} (h : RLoop w wr q l fv cur A' n' c' fs) (hf : feed cur = ⟨[], cur, true⟩) : RFed w wr q (feed l) (.returned (.tuple #[fv, .int .i64 0])) := by
  have hl := h.fd
  rw [hf] at hl
  have e1 : feed l = ⟨fs, cur, true⟩ := by rw [hl]; simp [Sp.pre]
  rw [e1]
  exact ⟨fv, A', n', c', rfl, h.rk, h.fr, h.tr, h.new⟩
theorem rloop_bad {w wr w' : World} {q : Nat} {l : List UInt8} {fv : Value} {cur : List UInt8} {A' : Option Addr} {n' c' : Nat} {fs : List (List UInt8)} (hq : q < w.heap.size) (h : RLoop w wr q l fv cur A' n' c' fs) (hf : feed cur = ⟨[], [], false⟩) (hb : Blk w' q 33 #[.slice none 0 0]) (ht : Turn (only q) wr w') : RFed w w' q (feed l) (.returned (.tuple #[fv, .int .i64 60])) := by
  have hl := h.fd
  rw [hf] at hl
  have e1 : feed l = ⟨fs, [], false⟩ := by rw [hl]; simp [Sp.pre]
  rw [e1]
  refine ⟨fv, none, 0, 0, rfl, ⟨hb, bs_nil _ _, Nat.le_refl _, fun _ => rfl, fun k hk => ?_⟩, h.fr.turn ht (fun k hk e => ?_), h.tr.trans ht (fun _ _ e => e), fun k hk => ?_⟩
  · obtain ⟨_, _, e⟩ := hk
    cases e
  · have : k = q := e
    omega
  · obtain ⟨_, _, e⟩ := hk
    cases e

set_option maxRecDepth 20000 in
set_option maxHeartbeats 4000000 in
theorem rfeed_walk {w : World} {q : Nat} {A0 : Option Addr} {n0 c0' : Nat} {h0 news : List UInt8} {A : Option Addr} {m c : Nat} (hR : Rk w q A0 n0 c0' h0) (hb : Bs w A m news) (hc : A = none → c = 0) (hs : h0.length + m ≤ 8796093022208) :
    Calls Try.prog 15 #[.pointer (some ⟨q, 0, none⟩), .slice A m c] w fun e w' => RFed w w' q (feed (h0 ++ news)) e := by
  obtain ⟨A1, c1, w1, hrun1, hown1, ht1, hnew1⟩ := copy_src (ty := 22) hR.bs hR.ac (by have := hR.bs.1; omega)
  obtain ⟨A2, c2, w2, hrun2, hown2, hext2⟩ := append_src (ty := 22) hown1 (hb.still ht1) hc (by omega)
  obtain ⟨ht2, hnew2⟩ := ext_new ht1 hext2 hnew1
  have hlen : (h0 ++ news).length = h0.length + m := by rw [List.length_append, hb.1]
  have hq : q < w.heap.size := hR.blk.lt
  have cc := hR.blk.cell 0
  have hn2 : ∀ k, own_of A2 k → w.heap.size ≤ k := fun k hk => hnew2 k (own_block hown2 hk)
  have hhp := own_heap hown2
  have hrk0 := hR.blk.turn ht2 (fun e => e)
  have hob := hown2.bs
  generalize hl : h0 ++ news = l at *
  generalize h0.length + m = n2 at *
  have HQ := Lib.hid hq
  have HRUN1 := Lib.hid hrun1
  have HRUN2 := Lib.hid hrun2
  have HB2 := Lib.hid hrk0
  have HT2 := Lib.hid ht2
  have HN2 := Lib.hid hn2
  have HHP := Lib.hid hhp
  have HOB := Lib.hid hob
  have HLN := Lib.hid hlen
  have HS := Lib.hid hs
  have HL := Lib.hid hl
  clear hq hrun1 hrun2 hrk0 ht2 hn2 hhp hob hlen hs hl hR hb hc hown1 ht1 hnew1 hown2 hext2 hnew2
  go_enter Try.func15, Try.ntmps15
  go_upto_region 1 with fail
  refine wp_region_lit ?_
  refine wpList_run (v := .pointer (some ⟨q, 0, none⟩)) rfl (exec_move rfl rfl) ?_
  simp only [Act.put, List.setIfInBounds_toArray, List.set_cons_zero, List.set_cons_succ]
  refine wpList_run (v := .slice (some ⟨w.heap.size, 0, none⟩) 0 0) (w' := w.alloc (.cells #[] 5)) rfl (exec_buildNone rfl (build_noneB _)) ?_
  simp only [Act.put, List.setIfInBounds_toArray, List.set_cons_zero, List.set_cons_succ]
  refine wpList_run (v := .pointer (some ⟨q, 0, none⟩)) rfl (exec_move rfl rfl) ?_
  simp only [Act.put, List.setIfInBounds_toArray, List.set_cons_zero, List.set_cons_succ]
  refine wpList_run (v := .pointer (some ⟨q, 0, none⟩)) rfl (exec_nil rfl rfl) ?_
  simp only [Act.put, List.setIfInBounds_toArray, List.set_cons_zero, List.set_cons_succ]
  refine wpList_run (v := .pointer (some ⟨q, 0 + 0, none⟩)) rfl (exec_field (off := 0) (d := 0) rfl rfl (by kernel_rfl)) ?_
  simp only [Act.put, List.setIfInBounds_toArray, List.set_cons_zero, List.set_cons_succ]
  refine wpList_run (v := .slice A0 n0 c0') rfl (lx_sl rfl rfl (by rw [World.cell?_of_block (Below.heap_alloc w _ q HQ.out)]; exact cc)) ?_
  simp only [Act.put, List.setIfInBounds_toArray, List.set_cons_zero, List.set_cons_succ]
  refine wpList_run (v := .slice A1 n0 c1) (w' := w1) rfl (exec_append rfl rfl rfl HRUN1.out) ?_
  simp only [Act.put, List.setIfInBounds_toArray, List.set_cons_zero, List.set_cons_succ]
  refine wpList_run (v := .slice A m c) rfl (exec_move rfl rfl) ?_
  simp only [Act.put, List.setIfInBounds_toArray, List.set_cons_zero, List.set_cons_succ]
  refine wpList_run (v := .slice A2 n2 c2) (w' := w2) rfl (exec_append rfl rfl rfl HRUN2.out) ?_
  simp only [Act.put, List.setIfInBounds_toArray, List.set_cons_zero, List.set_cons_succ]
  refine wpList_run (v := .pointer (some ⟨q, 0, none⟩)) rfl (exec_nil rfl rfl) ?_
  simp only [Act.put, List.setIfInBounds_toArray, List.set_cons_zero, List.set_cons_succ]
  refine wpList_run (v := .pointer (some ⟨q, 0 + 0, none⟩)) rfl (exec_field (off := 0) (d := 0) rfl rfl (by kernel_rfl)) ?_
  simp only [Act.put, List.setIfInBounds_toArray, List.set_cons_zero, List.set_cons_succ]
  refine wpList_store1 (g := q) (i := 0) (v := .slice A2 n2 c2) rfl 22 (.tmp 18) (.tmp 16) rfl HB2.out rfl rfl (by simp) (by rfl) (by rfl) (by kernel_rfl) ?_
  intro hb3 ht3
  simp only [Act.put, List.setIfInBounds_toArray, List.set_cons_zero, List.set_cons_succ]

  have HB3 := Lib.hid hb3
  have HT3 := Lib.hid ht3
  clear hb3 ht3 cc
  have hrk3 : Rk (w2.setCell ⟨q, 0, none⟩ (.slice A2 n2 c2)) q A2 n2 c2 l := by
    have hne : ∀ k, own_of A2 k → k ≠ q := fun k hk => by have := HN2.out k hk; have := HQ.out; omega
    refine ⟨HB3.out, HOB.out.1.turn HT3.out (fun b off s e _ _ h => hne b ⟨off, s, e⟩ h), HOB.out.2.1, HOB.out.2.2, fun k hk => ?_⟩
    obtain ⟨cu, hcu⟩ := HHP.out k hk
    exact ⟨cu, (HT3.out.block k (Array.getElem?_eq_some_iff.1 hcu).1 (hne k hk)).trans hcu⟩
  have hts : Turn (only q) w (w2.setCell ⟨q, 0, none⟩ (.slice A2 n2 c2)) := (HT2.out.mono (fun _ _ e => e.elim)).trans HT3.out (fun _ _ e => e)
  generalize World.setCell w2 ⟨q, 0, none⟩ (.slice A2 n2 c2) = w3 at *
  have HRK := Lib.hid hrk3
  have HTS := Lib.hid hts
  clear hrk3 hts HB3 HT3 HB2 HRUN1 HRUN2
  go_upto_region 2 with fail
  refine wp_region_lit ?_
  refine wpList_run (v := .slice (some ⟨w3.heap.size, 0, none⟩) 0 0) (w' := w3.alloc (.cells #[] 22)) rfl (exec_buildNone rfl (build_noneF _)) ?_
  simp only [Act.put, List.setIfInBounds_toArray, List.set_cons_zero, List.set_cons_succ]

  have hfr4 : Frr (w3.alloc (.cells #[] 22)) (fun k => w.heap.size ≤ k) (.slice (some ⟨w3.heap.size, 0, none⟩) 0 0) [] := Frr.empty w3 _ HTS.out.size
  have ht4 := (Turn.refl nowhere w3).alloc (.cells #[] 22)
  have HRK4 := Lib.hid (HRK.out.turn ht4 (fun _ _ e => e))
  have HTS4 := Lib.hid (HTS.out.trans ht4 (fun _ _ e => e.elim))
  generalize hfv : Value.slice (some ⟨w3.heap.size, 0, none⟩) 0 0 = fv4 at *
  generalize World.alloc w3 (.cells #[] 22) = w4 at *
  have HFR4 := Lib.hid hfr4
  clear hfr4 ht4 HRK HTS hfv
  go_wp2_with fail
  go_loopg [6, 7] n2 (fun gk fv nv wr => ∃ (cur : List UInt8) (A' : Option Addr) (n' c' : Nat) (fs : List (List UInt8)), n' = gk ∧ RLoop w wr q l fv cur A' n' c' fs)
  case atStart => exact ⟨l, A2, n2, c2, [], rfl, HRK4.out, HN2.out, rfl, HFR4.out, HTS4.out, by have := HLN.out; simp; omega⟩
  obtain ⟨cur, A', n', c', fs, e0, hLp⟩ := hrel
  subst e0
  have c0 := hLp.rk.blk.cell 0
  have HLP := Lib.hid hLp
  clear hLp HOB HHP HN2 HRK4 HTS4 HFR4
  have hm : n' ≤ 8796093022208 := by have := HLP.out.cnt; have := HLN.out; have := HS.out; omega
  have HM := Lib.hid hm
  clear hm
  by_cases h2 : 2 ≤ n'
  · have hA : ∃ g off, A' = some ⟨g, off, none⟩ := by
      obtain ⟨g, off, e, _⟩ := HLP.out.rk.bs.2.2 (by omega)
      exact ⟨g, off, e⟩
    obtain ⟨g, off, rfl⟩ := hA
    have y1 : (2 : Int) ≤ (n' : Int) := by omega
    have H2 := Lib.hid h2
    have hb0 := bs_cell HLP.out.rk.bs 0 (by omega)
    have hb1 := bs_cell HLP.out.rk.bs 1 (by omega)
    have hh : hdr cur < 65536 := hdr_lt cur
    have l0 := (cur.getD 0 0).toNat_lt
    have l1 := (cur.getD 1 0).toNat_lt
    have he : hdr cur = 256 * (cur.getD 0 0).toNat + (cur.getD 1 0).toNat := rfl
    have HMID := Lib.hid (fun hok => feed_mid HLP.out.rk.bs.1 H2.out hok)
    have HBAD := Lib.hid (fun (hok : ¬ (1 ≤ hdr cur ∧ hdr cur ≤ 512)) => feed_bad (l := cur) (by rw [HLP.out.rk.bs.1]; exact H2.out) (by omega))
    generalize (cur.getD 0 0).toNat = x at *
    generalize (cur.getD 1 0).toNat = y at *
    generalize hdr cur = h at *
    have hS : wr.drew.cell? ⟨q, 0, none⟩ = some (.slice (some ⟨g, off, none⟩) n' c') ∧ wr.drew.cell? ⟨g, off + 0, none⟩ = some (.int .u8 (x : Int)) ∧ wr.drew.cell? ⟨g, off + 1, none⟩ = some (.int .u8 (y : Int)) := ⟨c0, hb0, hb1⟩
    have HX := Lib.hid l0
    have HY := Lib.hid l1
    have HE := Lib.hid he
    have HH := Lib.hid hh
    clear h2 hb0 hb1 l0 l1 he hh
    go_upto_region 4 with fail
    refine wp_region_alw (fun W => W.cell? ⟨q, 0, none⟩ = some (.slice (some ⟨g, off, none⟩) n' c') ∧ W.cell? ⟨g, off + 0, none⟩ = some (.int .u8 (x : Int)) ∧ W.cell? ⟨g, off + 1, none⟩ = some (.int .u8 (y : Int))) (by kernel_rfl) ?_

    refine alw_take (i := 0) (v := .pointer (some ⟨q, 0, none⟩)) rfl (by kernel_rfl) (by kernel_rfl) (fun _ _ _ h => h) (.inl ⟨by rfl, fun W hW => exec_move rfl rfl⟩) hS ?_
    simp only [Act.put, List.setIfInBounds_toArray, List.set_cons_zero, List.set_cons_succ]
    refine alw_take (i := 1) (v := .pointer (some ⟨q, 0, none⟩)) rfl (by kernel_rfl) (by kernel_rfl) (fun _ _ _ h => h) (.inl ⟨by rfl, fun W hW => exec_nil rfl rfl⟩) hS ?_
    simp only [Act.put, List.setIfInBounds_toArray, List.set_cons_zero, List.set_cons_succ]
    refine alw_take (i := 2) (v := .pointer (some ⟨q, 0 + 0, none⟩)) rfl (by kernel_rfl) (by kernel_rfl) (fun _ _ _ h => h) (.inl ⟨by rfl, fun W hW => exec_field (off := 0) (d := 0) rfl rfl (by kernel_rfl)⟩) hS ?_
    simp only [Act.put, List.setIfInBounds_toArray, List.set_cons_zero, List.set_cons_succ]
    refine alw_take (i := 3) (v := .slice (some ⟨g, off, none⟩) n' c') rfl (by kernel_rfl) (by kernel_rfl) (fun _ _ _ h => h) (.inl ⟨by rfl, fun W hW => lx_sl rfl rfl hW.1⟩) hS ?_
    simp only [Act.put, List.setIfInBounds_toArray, List.set_cons_zero, List.set_cons_succ]
    refine alw_take (i := 4) (v := .pointer (some ⟨g, off + 0, none⟩)) rfl (by kernel_rfl) (by kernel_rfl) (fun _ _ _ h => h) (.inl ⟨by rfl, fun W hW => gx_iaddr (i := 0) (sz := 1) rfl rfl rfl Try.underlying22 (by kernel_rfl) (by have := H2.out; omega) (by omega)⟩) hS ?_
    simp only [Act.put, List.setIfInBounds_toArray, List.set_cons_zero, List.set_cons_succ]
    refine alw_take (i := 5) (v := .int .u8 (x : Int)) rfl (by kernel_rfl) (by kernel_rfl) (fun _ _ _ h => h) (.inl ⟨by rfl, fun W hW => lx_byte rfl rfl hW.2.1⟩) hS ?_
    simp only [Act.put, List.setIfInBounds_toArray, List.set_cons_zero, List.set_cons_succ]
    refine alw_take (i := 6) (v := .int .i64 (x : Int)) rfl (by kernel_rfl) (by kernel_rfl) (fun _ _ _ h => h) (.inl ⟨by rfl, fun W hW => ix_b2i HX.out rfl rfl⟩) hS ?_
    simp only [Act.put, List.setIfInBounds_toArray, List.set_cons_zero, List.set_cons_succ]
    refine alw_take (i := 7) (v := .int .i64 ((256 * x : Nat) : Int)) rfl (by kernel_rfl) (by kernel_rfl) (fun _ _ _ h => h) (.inl ⟨by rfl, fun W hW => ix_mul rfl rfl rfl (by omega) (by have := HX.out; omega)⟩) hS ?_
    simp only [Act.put, List.setIfInBounds_toArray, List.set_cons_zero, List.set_cons_succ]
    refine alw_take (i := 8) (v := .pointer (some ⟨q, 0, none⟩)) rfl (by kernel_rfl) (by kernel_rfl) (fun _ _ _ h => h) (.inl ⟨by rfl, fun W hW => exec_move rfl rfl⟩) hS ?_
    simp only [Act.put, List.setIfInBounds_toArray, List.set_cons_zero, List.set_cons_succ]
    refine alw_take (i := 9) (v := .pointer (some ⟨q, 0, none⟩)) rfl (by kernel_rfl) (by kernel_rfl) (fun _ _ _ h => h) (.inl ⟨by rfl, fun W hW => exec_nil rfl rfl⟩) hS ?_
    simp only [Act.put, List.setIfInBounds_toArray, List.set_cons_zero, List.set_cons_succ]
    refine alw_take (i := 10) (v := .pointer (some ⟨q, 0 + 0, none⟩)) rfl (by kernel_rfl) (by kernel_rfl) (fun _ _ _ h => h) (.inl ⟨by rfl, fun W hW => exec_field (off := 0) (d := 0) rfl rfl (by kernel_rfl)⟩) hS ?_
    simp only [Act.put, List.setIfInBounds_toArray, List.set_cons_zero, List.set_cons_succ]
    refine alw_take (i := 11) (v := .slice (some ⟨g, off, none⟩) n' c') rfl (by kernel_rfl) (by kernel_rfl) (fun _ _ _ h => h) (.inl ⟨by rfl, fun W hW => lx_sl rfl rfl hW.1⟩) hS ?_
    simp only [Act.put, List.setIfInBounds_toArray, List.set_cons_zero, List.set_cons_succ]
    refine alw_take (i := 12) (v := .pointer (some ⟨g, off + 1, none⟩)) rfl (by kernel_rfl) (by kernel_rfl) (fun _ _ _ h => h) (.inl ⟨by rfl, fun W hW => gx_iaddr (i := 1) (sz := 1) rfl rfl rfl Try.underlying22 (by kernel_rfl) (by have := H2.out; omega) (by omega)⟩) hS ?_
    simp only [Act.put, List.setIfInBounds_toArray, List.set_cons_zero, List.set_cons_succ]
    refine alw_take (i := 13) (v := .int .u8 (y : Int)) rfl (by kernel_rfl) (by kernel_rfl) (fun _ _ _ h => h) (.inl ⟨by rfl, fun W hW => lx_byte rfl rfl hW.2.2⟩) hS ?_
    simp only [Act.put, List.setIfInBounds_toArray, List.set_cons_zero, List.set_cons_succ]
    refine alw_take (i := 14) (v := .int .i64 (y : Int)) rfl (by kernel_rfl) (by kernel_rfl) (fun _ _ _ h => h) (.inl ⟨by rfl, fun W hW => ix_b2i HY.out rfl rfl⟩) hS ?_
    simp only [Act.put, List.setIfInBounds_toArray, List.set_cons_zero, List.set_cons_succ]
    refine alw_take (i := 15) (v := .int .i64 (h : Int)) rfl (by kernel_rfl) (by kernel_rfl) (fun _ _ _ h => h) (.inl ⟨by rfl, fun W hW => ix_add rfl rfl rfl (by have := HE.out; omega) (by have := HH.out; omega)⟩) hS ?_
    simp only [Act.put, List.setIfInBounds_toArray, List.set_cons_zero, List.set_cons_succ]
    refine alw_take (i := 16) (v := .int .i64 (h : Int)) rfl (by kernel_rfl) (by kernel_rfl) (fun _ _ _ h => h) (.inl ⟨by rfl, fun W hW => gx_assign rfl rfl⟩) hS ?_
    simp only [Act.put, List.setIfInBounds_toArray, List.set_cons_zero, List.set_cons_succ]
    refine alw_done (by kernel_rfl) ?_
    refine NoPanic.normal ?_
    clear hS
    have HLP := Lib.hid (HLP.out.still (Turn.drew (Turn.refl nowhere wr)))
    have c0 := HLP.out.rk.blk.cell 0
    generalize World.drew wr = w5 at *
    by_cases h1 : 1 ≤ h
    · have y2 : ¬ ((h : Int) < 1) := by omega
      by_cases h5 : h ≤ 512
      · have y3 : ¬ ((512 : Int) < (h : Int)) := by omega
        have y5 : (h : Int) < 65536 := by have := HH.out; omega
        have HOK := Lib.hid (And.intro h1 h5)
        by_cases hlt : n' < 2 + h
        · have y4 : (n' : Int) < 2 + (h : Int) := by omega
          have HF := HMID.out HOK.out
          rw [if_pos hlt] at HF
          have HF := Lib.hid HF
          clear hlt h1 h5 HMID HBAD
          go_wp2_with fail
          go_ret2
          exact rloop_ok HLP.out HF.out
        · have y4 : ¬ ((n' : Int) < 2 + (h : Int)) := by omega
          have hle : 2 + h ≤ n' := by omega
          have HF := HMID.out HOK.out
          rw [if_neg hlt] at HF
          have HF := Lib.hid HF
          have HLE := Lib.hid hle
          clear hlt h1 h5 HMID HBAD hle
          obtain ⟨pA, hpA⟩ : ∃ pA, pA = pos (some ⟨g, off, none⟩) 2 c' := ⟨_, rfl⟩
          have hnc := HLP.out.rk.nc
          have hbp : Bs w5 pA (2 + h - 2) ((cur.drop 2).take h) := by
            have h2 := (HLP.out.rk.bs.pos (k := 2) (c := c') (by have := H2.out; omega) hnc).take (k := h) (by have := HLE.out; omega)
            rw [hpA, show 2 + h - 2 = h from by omega]
            exact h2
          obtain ⟨A6, c6, w6, hrun6, hown6, ht6, hnew6⟩ := copy_src (ty := 22) (c := c' - 2) hbp (fun e => by rw [hpA] at e; simp [pos_none] at e) (by have := HOK.out; omega)
          obtain ⟨g6, cu6, rfl, hh6⟩ := own_line hown6 (by have := HOK.out; omega)
          have hh2 : 2 + h - 2 = h := by omega
          obtain ⟨i0, hi0, hz0, hz1, hz2⟩ := info_parts sliceInfo
          have hbuild := run_buildSlice_one (P := Try.prog) (v := Value.slice (some ⟨g6, 0, none⟩) (2 + h - 2) c6) Try.underlying28 hi0 hz0 (by rw [hz1]; rfl) (by rw [hz1]; rfl) (by omega) (by omega) w6
          have hG : ∀ k, w6.heap.size ≤ k → w.heap.size ≤ k := fun k hk => by have := HLP.out.tr.size; have := ht6.size; omega
          have hg6 : w5.heap.size ≤ g6 := hnew6 g6 rfl
          have hone := frr_one (G := fun k => k = g6 ∨ k = w6.heap.size) (c := c6) (by have := HOK.out; omega) hown6.bs.1 (.inl rfl) (.inr rfl)
          have hta := (Turn.refl nowhere w6).alloc (.cells #[.slice (some ⟨g6, 0, none⟩) (2 + h - 2) c6] 22)
          have hfr6 := (HLP.out.fr.still ht6).still hta
          obtain ⟨fA, fc, hfv⟩ := hfr6.form
          have hfb : ∀ k, u6.ownBlock = some k → k < w5.heap.size := fun k hk => by
            obtain ⟨vals, q1, _⟩ := HLP.out.fr
            exact (q1.lt k hk).2
          obtain ⟨A7, c7, w7, hrun7, hfr7, hext7⟩ := frr_cat (ty := 28) hfr6 hone (fun k hk _ => by
            have h3 := HLP.out.tr.size
            have h4 := ht6.size
            rcases hk with rfl | rfl <;> omega) (fun k hk e => by
            have h3 := hfb k e
            have h4 := ht6.size
            rcases hk with rfl | rfl <;> omega) (by have := HLP.out.cnt; have := HLN.out; have := HS.out; simp; omega) (fun k hk => hG k (by have := hta.size; omega))
          have HRUN6 := Lib.hid hrun6
          have HRUN7 := Lib.hid hrun7
          have HBU := Lib.hid hbuild
          have HFR7 := Lib.hid hfr7
          have HEX7 := Lib.hid hext7
          have HT6 := Lib.hid (ht6.trans hta (fun _ _ e => e))
          have HPA := Lib.hid hpA
          have HFB := Lib.hid hfb
          clear hrun6 hrun7 hbuild hfr7 hext7 ht6 hta hpA hbp hown6 hnew6 hh6 hh2 hi0 hz0 hz1 hz2 hG hg6 hone hfr6 hfv hfb hnc
          go_upto_region 9 with fail
          refine wp_region_lit ?_
          refine wpList_run (v := u6) rfl (exec_move rfl rfl) ?_
          simp only [Act.put, List.setIfInBounds_toArray, List.set_cons_zero, List.set_cons_succ]
          refine wpList_run (v := .slice (some ⟨w5.heap.size, 0, none⟩) 0 0) (w' := w5.alloc (.cells #[] 5)) rfl (exec_buildNone rfl (build_noneB _)) ?_
          simp only [Act.put, List.setIfInBounds_toArray, List.set_cons_zero, List.set_cons_succ]
          refine wpList_run (v := .pointer (some ⟨q, 0, none⟩)) rfl (exec_move rfl rfl) ?_
          simp only [Act.put, List.setIfInBounds_toArray, List.set_cons_zero, List.set_cons_succ]
          refine wpList_run (v := .pointer (some ⟨q, 0, none⟩)) rfl (exec_nil rfl rfl) ?_
          simp only [Act.put, List.setIfInBounds_toArray, List.set_cons_zero, List.set_cons_succ]
          refine wpList_run (v := .pointer (some ⟨q, 0 + 0, none⟩)) rfl (exec_field (off := 0) (d := 0) rfl rfl (by kernel_rfl)) ?_
          simp only [Act.put, List.setIfInBounds_toArray, List.set_cons_zero, List.set_cons_succ]
          refine wpList_run (v := .slice (some ⟨g, off, none⟩) n' c') rfl (lx_sl rfl rfl (by rw [World.cell?_of_block (Below.heap_alloc w5 _ q HLP.out.rk.blk.lt)]; exact c0)) ?_
          simp only [Act.put, List.setIfInBounds_toArray, List.set_cons_zero, List.set_cons_succ]
          refine wpList_run (v := .int .i64 (h : Int)) rfl (exec_move rfl rfl) ?_
          simp only [Act.put, List.setIfInBounds_toArray, List.set_cons_zero, List.set_cons_succ]
          refine wpList_run (v := .int .i64 ((2 + h : Nat) : Int)) rfl (ix_add rfl rfl rfl (by omega) (by have := HH.out; omega)) ?_
          simp only [Act.put, List.setIfInBounds_toArray, List.set_cons_zero, List.set_cons_succ]
          refine wpList_run (v := .slice pA (2 + h - 2) (c' - 2)) rfl ((by rw [HPA.out]; exact cut_slice (k := 2) rfl rfl rfl rfl (by omega) (by have := HLP.out.rk.nc; have := HLE.out; omega))) ?_
          simp only [Act.put, List.setIfInBounds_toArray, List.set_cons_zero, List.set_cons_succ]
          refine wpList_run (v := .slice (some ⟨g6, 0, none⟩) (2 + h - 2) c6) (w' := w6) rfl (exec_append rfl rfl rfl HRUN6.out) ?_
          simp only [Act.put, List.setIfInBounds_toArray, List.set_cons_zero, List.set_cons_succ]
          refine wpList_run (v := .slice (some ⟨w6.heap.size, 0, none⟩) 1 1) (w' := w6.alloc (.cells (Value.slice (some ⟨g6, 0, none⟩) (2 + h - 2) c6).cells 22)) rfl (exec_buildSlice1 rfl rfl HBU.out) ?_
          simp only [Act.put, List.setIfInBounds_toArray, List.set_cons_zero, List.set_cons_succ]
          refine wpList_run (v := .slice A7 (fs.length + [(cur.drop 2).take h].length) c7) (w' := w7) rfl (exec_append rfl rfl rfl HRUN7.out) ?_
          simp only [Act.put, List.setIfInBounds_toArray, List.set_cons_zero, List.set_cons_succ]

          have hrk7 : Rk w7 q (some ⟨g, off, none⟩) n' c' cur := (HLP.out.rk.turn HT6.out (fun _ _ e => e)).turn HEX7.out.tr (fun k hk e => by
            have h5 : k < w5.heap.size := HLP.out.rk.lt k hk
            obtain ⟨vals, q1, _⟩ := HLP.out.fr
            rcases q1.2 with ⟨e1, _⟩ | ⟨g', cap, cur', e1, _, hg', _⟩
            · rw [e1] at e
              cases e
            · rw [e1] at e
              have e2 : k = g' := Option.some.inj e
              subst e2
              rcases hk with rfl | hk
              · exact HLP.out.rk.blk.ne_ (show Blk w5 k 22 cur' from hg') (by decide) rfl
              · obtain ⟨cu, hcu⟩ := HLP.out.rk.hp k hk
                exact (show Blk w5 k 5 cu from hcu).ne_ (show Blk w5 k 22 cur' from hg') (by decide) rfl)
          have HRK7 := Lib.hid hrk7
          have c7' := hrk7.blk.cell 0
          clear hrk7 HRUN6 HRUN7 HBU
          go_upto_region 10 with fail
          refine wp_region_lit ?_
          refine wpList_run (v := .pointer (some ⟨q, 0, none⟩)) rfl (exec_move rfl rfl) ?_
          simp only [Act.put, List.setIfInBounds_toArray, List.set_cons_zero, List.set_cons_succ]
          refine wpList_run (v := .pointer (some ⟨q, 0, none⟩)) rfl (exec_move rfl rfl) ?_
          simp only [Act.put, List.setIfInBounds_toArray, List.set_cons_zero, List.set_cons_succ]
          refine wpList_run (v := .pointer (some ⟨q, 0, none⟩)) rfl (exec_nil rfl rfl) ?_
          simp only [Act.put, List.setIfInBounds_toArray, List.set_cons_zero, List.set_cons_succ]
          refine wpList_run (v := .pointer (some ⟨q, 0 + 0, none⟩)) rfl (exec_field (off := 0) (d := 0) rfl rfl (by kernel_rfl)) ?_
          simp only [Act.put, List.setIfInBounds_toArray, List.set_cons_zero, List.set_cons_succ]
          refine wpList_run (v := .slice (some ⟨g, off, none⟩) n' c') rfl (lx_sl rfl rfl c7') ?_
          simp only [Act.put, List.setIfInBounds_toArray, List.set_cons_zero, List.set_cons_succ]
          refine wpList_run (v := .int .i64 (h : Int)) rfl (exec_move rfl rfl) ?_
          simp only [Act.put, List.setIfInBounds_toArray, List.set_cons_zero, List.set_cons_succ]
          refine wpList_run (v := .int .i64 ((2 + h : Nat) : Int)) rfl (ix_add rfl rfl rfl (by omega) (by have := HH.out; omega)) ?_
          simp only [Act.put, List.setIfInBounds_toArray, List.set_cons_zero, List.set_cons_succ]
          refine wpList_run (v := .slice (pos (some ⟨g, off, none⟩) (2 + h) c') (n' - (2 + h)) (c' - (2 + h))) rfl (cut_slice2 rfl rfl rfl HLE.out) ?_
          simp only [Act.put, List.setIfInBounds_toArray, List.set_cons_zero, List.set_cons_succ]
          refine wpList_run (v := .pointer (some ⟨q, 0, none⟩)) rfl (exec_nil rfl rfl) ?_
          simp only [Act.put, List.setIfInBounds_toArray, List.set_cons_zero, List.set_cons_succ]
          refine wpList_run (v := .pointer (some ⟨q, 0 + 0, none⟩)) rfl (exec_field (off := 0) (d := 0) rfl rfl (by kernel_rfl)) ?_
          simp only [Act.put, List.setIfInBounds_toArray, List.set_cons_zero, List.set_cons_succ]
          refine wpList_store1 (g := q) (i := 0) (v := .slice (pos (some ⟨g, off, none⟩) (2 + h) c') (n' - (2 + h)) (c' - (2 + h))) rfl 22 (.tmp 81) (.tmp 79) rfl HRK7.out.blk rfl rfl (by simp) (by rfl) (by rfl) (by kernel_rfl) ?_
          intro hb8 ht8
          simp only [Act.put, List.setIfInBounds_toArray, List.set_cons_zero, List.set_cons_succ]

          have HB8 := Lib.hid hb8
          have HT8 := Lib.hid ht8
          clear hb8 ht8 c7'
          go_wp2_with fail
          go_roundg (n' - (2 + h))
          case measure => have := HLE.out; omega
          case rel =>
            have hnc := HRK7.out.nc
            have hgq : g ≠ q := fun e => HRK7.out.ne (by rw [← e]; exact ⟨off, none, rfl⟩)
            refine ⟨cur.drop (2 + h), pos (some ⟨g, off, none⟩) (2 + h) c', n' - (2 + h), c' - (2 + h), fs ++ [(cur.drop 2).take h], rfl, ⟨HB8.out, ?_, by omega, fun e => by simp [pos_none] at e, fun k hk => ?_⟩, fun k hk => HLP.out.new k (own_pos hk), ?_, HFR7.out.turn HT8.out (fun k hk e => ?_), ?_, ?_⟩
            · exact (HRK7.out.bs.turn HT8.out (fun b off s e _ _ => by injection e with e; injection e with e; subst e; exact hgq)).pos HLE.out hnc
            · obtain ⟨cu, hcu⟩ := HRK7.out.hp k (own_pos hk)
              exact ⟨cu, (HT8.out.block k (Array.getElem?_eq_some_iff.1 hcu).1 (fun e => by
                have e1 : k = q := e
                obtain ⟨off', s', e2⟩ := own_pos hk
                injection e2 with e2
                injection e2 with e2
                omega)).trans hcu⟩
            · rw [HLP.out.fd, HF.out, pre_pre]
            · have e1 : k = q := e
              have := HQ.out
              omega
            · have h1 := (HLP.out.tr.trans HT6.out (fun _ _ e => e.elim)).trans HEX7.out.tr (fun k hk e => by
                obtain ⟨vals, q1, q2, _⟩ := HLP.out.fr
                have := q2 k e.symm
                omega)
              exact h1.trans HT8.out (fun _ _ e => e)
            · have := HLP.out.cnt
              have := HOK.out
              have := HLE.out
              rw [List.length_append, List.length_cons, List.length_nil]
              omega
      · have y3 : (512 : Int) < (h : Int) := by omega
        have HF := Lib.hid (HBAD.out (fun hk => h5 hk.2))
        have f0 := HLP.out.rk.blk.frozen 0
        clear h1 h5 HMID HBAD
        go_wp2_with fail
        go_ret2
        exact rloop_bad HQ.out HLP.out HF.out (HLP.out.rk.blk.set_ 0 _) ((Turn.refl _ _).at_ 0 _)
    · have y2 : (h : Int) < 1 := by omega
      have HF := Lib.hid (HBAD.out (fun hk => h1 hk.1))
      have f0 := HLP.out.rk.blk.frozen 0
      clear h1 HMID HBAD
      go_wp2_with fail
      go_ret2
      exact rloop_bad HQ.out HLP.out HF.out (HLP.out.rk.blk.set_ 0 _) ((Turn.refl _ _).at_ 0 _)

  · have y1 : ¬ ((2 : Int) ≤ (n' : Int)) := by omega
    have HF := Lib.hid (feed_few (l := cur) (by rw [HLP.out.rk.bs.1]; omega))
    clear h2
    go_wp2_with fail
    go_ret2
    exact rloop_ok HLP.out HF.out

end Go.Proofs.Ytagoijgmoaffdaa
