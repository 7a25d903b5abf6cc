/-
  plant's Boot. Conditions: what is kept reads as ints in a block that is none of the plant's; no more than 2^40 writes.
-/
import Derived.Test.YtgdlidjjogoiaaaPlW
import Derived.Deep.LoopGhost
import Derived.Laws.BitsAllLaws
import Derived.Laws.BitsLemmas
namespace Go.Proofs.Ytgdlidjjogoiaaa
open Go.RowKit Go.Maps
set_option linter.unusedVariables false
def low2 (k : Int) : Int := bits .and .i64 k 3
theorem low2_four (k : Int) : low2 k = 0 ∨ low2 k = 1 ∨ low2 k = 2 ∨ low2 k = 3 := by
  have h1 : (BitVec.ofInt 64 k &&& BitVec.ofInt 64 3).toNat ≤ 3 := by
    rw [BitVec.toNat_and]
    exact Nat.and_le_right
  have h2 : low2 k = IntKind.i64.wrap ((BitVec.ofInt 64 k &&& BitVec.ofInt 64 3).toNat : Int) := rfl
  rw [h2, IntKind.wrap_i64]
  omega
/-- a slice that reads as ints, in a block that is none of F -/
def Ks (w : World) (F : Nat → Prop) (a : Option Addr) (len : Nat) (zs : List Int) : Prop :=
  zs.length = len ∧ len ≤ 9223372036854775807 ∧ (0 < len → ∃ g off, a = some ⟨g, off, none⟩ ∧ g < w.heap.size ∧ ¬ F g ∧ ∀ i, i < len → w.cell? ⟨g, off + i, none⟩ = some (.int .i64 (zs.getD i 0)))
def kval (zs : List Int) (i : Nat) : Int := if zs.length = 0 then 0 else zs.getD (i % zs.length) 0
theorem total_le : ∀ (ds : List AD) (K : Nat), (∀ d ∈ ds, d.ws.length ≤ K) → total ds ≤ ds.length * K
  | [], _, _ => Nat.zero_le _
  | d :: r, K, h => by
    have h1 := total_le r K fun e he => h e (List.mem_cons_of_mem _ he)
    have h2 := h d (List.mem_cons_self ..)
    simp only [total, List.map_cons, List.sum_cons, List.length_cons] at h1 ⊢
    rw [Nat.succ_mul]
    omega
def AP.boot (s : AP) (zs : List Int) : AP := { ds := bootRun (fun i => low2 (kval zs i)) (total s.ds) 0 s.ds, on := true, fuse := -1, steps := s.steps }
theorem bootRun_length (kf : Nat → Int) : ∀ (f i : Nat) (ds : List AD), (bootRun kf f i ds).length = ds.length
  | 0, _, _ => rfl
  | f + 1, i, ds => by
    unfold bootRun
    split
    · rw [bootRun_length kf f, bootOne_length]
    · rfl
theorem MidsAt.still {w w' : World} {db : Nat} {C : Array Value} {ds : List AD} {dv : Nat → DV} {K : Nat} (h : MidsAt w db C ds dv K) (ht : Turn nowhere w w') : MidsAt w' db C ds dv K where
  blk := h.blk.turn ht fun e => e
  size := h.size
  at_ i d hi := (h.at_ i d hi).keep ht (fun e => e) (fun _ _ e => e.elim) fun _ _ => rfl
  apart := h.apart
/-- the first k disks are whole again, nothing waits on any -/
structure FinAt (B : Nat) (w : World) (db : Nat) (C : Array Value) (ds : List AD) (dv : Nat → DV) (K k : Nat) : Prop where
  blk : Blk w db 62 C
  size : ds.length * 4 ≤ C.size
  mid : ∀ i d, ds[i]? = some d → MidAt w C i d (dv i) K
  fin : ∀ i d, i < k → ds[i]? = some d → DiskAt w C i d (dv i) K ∧ (dv i).wv = .slice none 0 0 ∧ B ≤ (dv i).nw
  flB : ∀ i, i < ds.length → (dv i).fl < B
  apart : ∀ i j, i < ds.length → j < ds.length → i ≠ j → (dv i).fl ≠ (dv j).fl
  nws : ∀ i j, i < k → j < k → i ≠ j → (dv i).nw ≠ (dv j).nw
  kn : k ≤ ds.length
theorem FinAt.still {B : Nat} {w w' : World} {db : Nat} {C : Array Value} {ds : List AD} {dv : Nat → DV} {K k : Nat} (h : FinAt B w db C ds dv K k) (ht : Turn nowhere w w') : FinAt B w' db C ds dv K k where
  blk := h.blk.turn ht fun e => e
  size := h.size
  mid i d hi := (h.mid i d hi).keep ht (fun e => e) (fun _ _ e => e.elim) fun _ _ => rfl
  fin i d hk hi := by
    obtain ⟨h1, h2⟩ := h.fin i d hk hi
    refine ⟨h1.keep (fun b hb => ?_) (fun _ _ => rfl) (Nat.le_refl _), h2⟩
    refine ht.block b ?_ fun e => e
    rcases hb with rfl | rfl | hb
    · obtain ⟨_, _, hm⟩ := h1.fl
      exact hm.lt
    · exact h1.nw.lt
    · exact (h1.ws.lt b hb).2
  flB := h.flB
  apart := h.apart
  nws := h.nws
  kn := h.kn
theorem forget_step {B : Nat} {w : World} {db : Nat} {C : Array Value} {ds : List AD} {dv : Nat → DV} {K k : Nat} (h : FinAt B w db C ds dv K k) (hk : k < ds.length) (hws : ∀ (i : Nat) (d : AD), ds[i]? = some d → d.ws = []) (hB : B ≤ w.heap.size) :
    Calls Try.prog 39 #[.pointer (some ⟨db, k * 4, none⟩)] w fun e w' => e = .returned (.tuple #[]) ∧ (∃ C' dv', FinAt B w' db C' ds dv' K (k + 1) ∧ ∀ i, (dv' i).fl = (dv i).fl) ∧ Turn (only db) w w' := by
  have hsz := h.size
  refine (forget_walk db (k * 4) C w h.blk (by omega)).mono ?_
  rintro e w' ⟨rfl, q1, q2, q3⟩
  refine ⟨rfl, ⟨(C.setIfInBounds (k * 4 + 2) (.map (some w.heap.size))).setIfInBounds (k * 4 + 3) (.slice none 0 0), setV dv k { fl := (dv k).fl, nw := w.heap.size, wv := .slice none 0 0 }, ?_, fun i => ?_⟩, q3⟩
  · obtain ⟨s1, s2, s4, s3⟩ := set23 C k (.map (some w.heap.size)) (.slice none 0 0) (by omega)
    have hsame : ∀ i, i ≠ k → setV dv k { fl := (dv k).fl, nw := w.heap.size, wv := .slice none 0 0 } i = dv i := fun i hi => by simp [setV, hi]
    have hself : setV dv k { fl := (dv k).fl, nw := w.heap.size, wv := .slice none 0 0 } k = { fl := (dv k).fl, nw := w.heap.size, wv := .slice none 0 0 } := by simp [setV]
    have hfl : ∀ i, (setV dv k { fl := (dv k).fl, nw := w.heap.size, wv := .slice none 0 0 } i).fl = (dv i).fl := fun i => by
      by_cases e : i = k
      · subst e
        rw [hself]
      · rw [hsame i e]
    have hd := h.mid k ds[k] (List.getElem?_eq_getElem hk)
    obtain ⟨n1, hn1, hm⟩ := hd.fl
    have hm' : MapAt w' kI eS (dv k).fl n1 ds[k].fl := hm.turn q3 (fun e => hm.ne h.blk e.symm)
    have hwk := hws k ds[k] (List.getElem?_eq_getElem hk)
    have hDk : DiskAt w' ((C.setIfInBounds (k * 4 + 2) (.map (some w.heap.size))).setIfInBounds (k * 4 + 3) (.slice none 0 0)) k ds[k] { fl := (dv k).fl, nw := w.heap.size, wv := .slice none 0 0 } K := {
      c0 := (s3 0 (by omega)).trans hd.c0
      c1 := (s3 1 (by omega)).trans hd.c1
      c2 := s4
      c3 := s2
      ne := by
        have := hm.lt
        show (dv k).fl ≠ w.heap.size
        omega
      fl := ⟨n1, hn1, hm'⟩
      nw := by rw [hwk]; exact q2
      ws := by rw [hwk]; exact World.ownsRow_nil w' 0 _ _
      wf := hd.wf
      n0 := hd.n0 }
    have hmid : ∀ i d, ds[i]? = some d → i ≠ k → MidAt w' ((C.setIfInBounds (k * 4 + 2) (.map (some w.heap.size))).setIfInBounds (k * 4 + 3) (.slice none 0 0)) i d (dv i) K := fun i d hi hik => by
      refine (h.mid i d hi).keep q3 ?_ (fun g cs hg hb => Blk.ne_ h.blk hb (by decide) hg.symm) (fun m hm => s1 _ (by omega))
      obtain ⟨_, _, hm2⟩ := (h.mid i d hi).fl
      exact fun e => hm2.ne h.blk e.symm
    refine { blk := q1, size := by simp; exact hsz, mid := fun i d hi => ?_, fin := fun i d hik hi => ?_, flB := fun i hi => by rw [hfl]; exact h.flB i hi, apart := fun i j hi hj hij => by rw [hfl, hfl]; exact h.apart i j hi hj hij, nws := fun i j hi hj hij => ?_, kn := hk }
    · by_cases e : i = k
      · subst e
        rw [List.getElem?_eq_getElem hk] at hi
        cases hi
        rw [hself]
        exact hDk.mid
      · rw [hsame i e]
        exact hmid i d hi e
    · by_cases e : i = k
      · subst e
        rw [List.getElem?_eq_getElem hk] at hi
        cases hi
        rw [hself]
        exact ⟨hDk, rfl, hB⟩
      · rw [hsame i e]
        obtain ⟨g1, g2, g3⟩ := h.fin i d (by omega) hi
        refine ⟨g1.keep (fun b hb => q3.block b ?_ ?_) (fun m hm => s1 _ (by omega)) (Nat.le_refl _), g2, g3⟩
        · rcases hb with rfl | rfl | hb
          · obtain ⟨_, _, hm2⟩ := g1.fl
            exact hm2.lt
          · exact g1.nw.lt
          · exact (g1.ws.lt b hb).2
        · rcases hb with rfl | rfl | hb
          · obtain ⟨_, _, hm2⟩ := g1.fl
            exact fun e' => hm2.ne h.blk e'.symm
          · exact fun e' => g1.nw.ne h.blk e'.symm
          · exact fun e' => g1.ws.ne_blk h.blk (by decide) (by rw [hb, show b = db from e'])
    · by_cases e : i = k
      · subst e
        rw [hself, hsame j (Ne.symm hij)]
        have hj' : j < ds.length := by omega
        have := ((h.fin j _ (by omega) (List.getElem?_eq_getElem hj')).1).nw.lt
        show w.heap.size ≠ (dv j).nw
        omega
      · rw [hsame i e]
        by_cases e2 : j = k
        · subst e2
          rw [hself]
          have hi' : i < ds.length := by omega
          have := ((h.fin i _ (by omega) (List.getElem?_eq_getElem hi')).1).nw.lt
          show (dv i).nw ≠ w.heap.size
          omega
        · rw [hsame j e2]
          exact h.nws i j (by omega) (by omega) hij
  · by_cases e : i = k
    · subst e
      simp [setV]
    · simp [setV, e]
theorem FinAt.done {B : Nat} {w : World} {db : Nat} {C : Array Value} {ds : List AD} {dv : Nat → DV} {K : Nat} (h : FinAt B w db C ds dv K ds.length) : DisksAt w db C ds dv K where
  blk := h.blk
  size := h.size
  at_ i d hi := (h.fin i d (List.getElem?_eq_some_iff.1 hi).1 hi).1
  apart i j hi hj hij b hb1 hb2 := by
    obtain ⟨_, n1, m1⟩ := h.fin i _ hi (List.getElem?_eq_getElem hi)
    obtain ⟨_, n2, m2⟩ := h.fin j _ hj (List.getElem?_eq_getElem hj)
    have f1 := h.flB i hi
    have f2 := h.flB j hj
    rcases hb1 with rfl | rfl | hb1
    · rcases hb2 with e | e | e
      · exact h.apart i j hi hj hij e
      · omega
      · rw [n2] at e
        cases e
    · rcases hb2 with e | e | e
      · omega
      · exact h.nws i j hi hj hij e
      · rw [n2] at e
        cases e
    · rw [n1] at hb1
      cases hb1
set_option maxHeartbeats 2000000 in
theorem boot_ok {w : World} {p : Nat} {F : Nat → Prop} {s : AP} {K : Nat} (h : PlantAt w p F s K) (a : Option Addr) (len cap : Nat) (zs : List Int) (hz : Ks w F a len zs) (hK : K < 1099511627776) :
    Calls Try.prog 21 #[.pointer (some ⟨p, 0, none⟩), .slice a len cap] w fun e w' => e = .returned (.tuple #[]) ∧ Goes2 w p F w' (s.boot zs) K := by
  obtain ⟨db, cp, C, dv, h1, hD, hF, g1, g2, g3, g4, g5, g6⟩ := id h
  have hdp : db ≠ p := Blk.ne_ hD.blk h1 (by decide)
  have c1 : w.cell? ⟨p, 1, none⟩ = some (.bool s.on) := h1.cell 1
  have c2 : w.cell? ⟨p, 2, none⟩ = some (.int .i64 s.fuse) := h1.cell 2
  have f1 := h1.frozen 1
  have f2 := h1.frozen 2
  have H := Lib.hid h
  have HD := Lib.hid hD
  have H1 := Lib.hid h1
  have HF := Lib.hid hF
  have HZ := Lib.hid hz
  clear h hD h1 hF hz
  go_enter Try.func21, Try.ntmps21
  go_wp2_with fail
  have hb1 : Blk _ p 58 (plantCells db s.ds.length cp true (-1) s.steps) := (H1.out.set_ 1 (.bool true)).set_ 2 (.int .i64 (-1))
  have ht1 : Turn (only p) w _ := ((Turn.refl _ w).at_ 1 (.bool true)).at_ 2 (.int .i64 (-1))
  generalize ((w.setCell ⟨p, 1, none⟩ (.bool true)).setCell ⟨p, 2, none⟩ (.int .i64 (-1))) = w1 at *
  have hD1 : MidsAt w1 db C s.ds dv K := (HD.out.keep (ht1.block _ HD.out.blk.lt hdp) (fun j hj b hb => ht1.block _ (HD.out.lt hj hb) fun e => HD.out.ne hj hb H1.out (by decide) e.symm) (Nat.le_refl _)).mid
  have hTF : Turn F w w1 := ht1.mono fun k _ e => by
    rw [HF.out]
    exact .inl e
  clear c1 c2 f1 f2 ht1
  refine (longest_walk p db cp true (-1) s.steps s.ds C dv K w1 hb1 hD1 g2).mono ?_
  rintro e w2 ⟨rfl, m, rfl⟩
  have htot : total s.ds ≤ 4 * K := by
    refine Nat.le_trans (total_le s.ds K fun d hd => ?_) (Nat.mul_le_mul_right _ g2)
    obtain ⟨i, hi, rfl⟩ := List.mem_iff_getElem.1 hd
    obtain ⟨n1, hn, _⟩ := (HD.out.at_ i _ (List.getElem?_eq_getElem hi)).fl
    omega
  have hTm : Turn F w (w1.drewN m) := hTF.drewN m
  have hbm : Blk (w1.drewN m) p 58 (plantCells db s.ds.length cp true (-1) s.steps) := hb1
  have hDm : MidsAt (w1.drewN m) db C s.ds dv K := hD1.still ((Turn.refl _ _).drewN m)
  generalize w1.drewN m = w2 at *
  clear hb1 hD1 hTF
  go_wp2_with fail
  go_loopg [4, 5] (total s.ds) (fun gk i d wr => ∃ (ds' : List AD) (C' : Array Value) (j : Nat), ds'.length = s.ds.length ∧ MidsAt wr db C' ds' dv K ∧ Blk wr p 58 (plantCells db s.ds.length cp true (-1) s.steps) ∧ Turn F w wr ∧
    i = .int .i64 (j : Int) ∧ d = ptrOf db (pick ds' ds'.length) ∧ total ds' = gk ∧ j + gk = total s.ds ∧ Hid (bootRun (fun i => low2 (kval zs i)) gk j ds' = bootRun (fun i => low2 (kval zs i)) (total s.ds) 0 s.ds))
  case atStart => exact ⟨s.ds, C, 0, rfl, hDm, hbm, hTm, rfl, rfl, rfl, by omega, Lib.hid rfl⟩
  case round =>
    obtain ⟨ds', C', j, hlen, hM, hP, hT, rfl, rfl, hgk, hjk, hrun⟩ := hrel
    clear hDm hbm hTm
    have hj1 : (j : Int) < 4398046511104 := by omega
    have hj0 : (0 : Int) ≤ (j : Int) := by omega
    cases hp : pick ds' ds'.length with
    | some jj =>
      obtain ⟨hjj, hwj⟩ := pick_some ds' _ jj hp
      have hnil : ptrOf db (some jj) = .pointer (some ⟨db, jj * 4, Option.none⟩) := rfl
      rw [hnil]
      clear hnil
      have HP := Lib.hid hp
      have HM := Lib.hid hM
      have HB := Lib.hid hP
      have HT := Lib.hid hT
      have HL := Lib.hid hlen
      clear hp hM hP hT hlen
      obtain ⟨hzl, hzm, hzc⟩ := HZ.out
      by_cases hl : 0 < len
      · obtain ⟨g, off, rfl, hgl, hgF, hgc⟩ := hzc hl
        have hmod : j % len < len := Nat.mod_lt _ hl
        have hcell : wr.cell? ⟨g, off + j % len, none⟩ = some (.int .i64 (zs.getD (j % len) 0)) := by
          rw [HT.out.cell (p := ⟨g, off + j % len, none⟩) hgl hgF]
          exact hgc _ hmod
        have hkv : kval zs j = zs.getD (j % len) 0 := by
          unfold kval
          rw [if_neg (by omega), hzl]
        generalize zs.getD (j % len) 0 = kv at *
        have z1 : (0 : Int) < (len : Int) := by omega
        have z2 : (0 : Int) ≤ ((j % len : Nat) : Int) := by omega
        have z3 : ((j % len : Nat) : Int) < (len : Int) := by omega
        have HK := Lib.hid hkv
        have HZL := Lib.hid hzl
        clear hkv hzc hgc hmod hzl
        go_wp2_with fail
        refine (boot_step HM.out hjj hwj kv (low2 kv) rfl (low2_four kv) hK).mono ?_
        rintro e w3 ⟨rfl, ⟨C3, hM3⟩, ht3, htot3⟩
        have hfl : (dv jj).fl < w.heap.size ∧ F (dv jj).fl ∧ (dv jj).fl ≠ p := by
          have hj3 : jj < s.ds.length := by rw [← HL.out]; exact hjj
          refine ⟨HD.out.lt hj3 (.inl rfl), ?_, ?_⟩
          · rw [HF.out]
            exact .inr (.inr ⟨jj, hj3, .inl rfl⟩)
          · exact fun e => HD.out.ne hj3 (.inl rfl) H1.out (by decide) e.symm
        have hP3 : Blk w3 p 58 (plantCells db s.ds.length cp true (-1) s.steps) := HB.out.turn ht3 (by
          rintro (e | e)
          · exact hdp e.symm
          · exact hfl.2.2 e.symm)
        have hT3 : Turn F w w3 := HT.out.trans ht3 fun k _ e => by
          rcases e with rfl | rfl
          · rw [HF.out]
            exact .inr (.inl rfl)
          · exact hfl.2.1
        have hl3 : (bootOne (low2 kv) jj ds').length = s.ds.length := by rw [bootOne_length]; exact HL.out
        have hru : bootRun (fun i => low2 (kval zs i)) (total (bootOne (low2 kv) jj ds')) (j + 1) (bootOne (low2 kv) jj ds') = bootRun (fun i => low2 (kval zs i)) (total s.ds) 0 s.ds := by
          rw [← hrun.out, ← hgk, htot3, bootRun, HP.out]
          simp only [HK.out]
        have HRU := Lib.hid hru
        have htt : total (bootOne (low2 kv) jj ds') + 1 = gk := by omega
        generalize bootOne (low2 kv) jj ds' = d3 at *
        have HTT := Lib.hid htt
        have HL3 := Lib.hid hl3
        have HM3 := Lib.hid hM3
        have HP3 := Lib.hid hP3
        have HT3 := Lib.hid hT3
        clear hru htt hl3 hM3 hP3 hT3 ht3 htot3 hrun
        have zj : (0 : Int) ≤ (j : Int) + 1 := by omega
        go_wp2_with fail
        refine (longest_walk p db cp true (-1) s.steps d3 C3 dv K w3 (by rw [HL3.out]; exact HP3.out) HM3.out (by rw [HL3.out]; exact g2)).mono ?_
        rintro e w4 ⟨rfl, m4, rfl⟩
        go_wp2
        go_roundg (total d3)
        case measure => have := HTT.out; omega
        case rel => exact ⟨d3, C3, j + 1, HL3.out, HM3.out.still ((Turn.refl _ _).drewN m4), HP3.out, HT3.out.drewN m4, by go_num, rfl, rfl, by have := HTT.out; omega, HRU⟩
      · have hl0 : len = 0 := by omega
        subst hl0
        obtain ⟨kv, hkv0⟩ : ∃ kv : Int, kv = 0 := ⟨0, rfl⟩
        have hkv : kval zs j = kv := by
          unfold kval
          rw [if_pos hzl, hkv0]
        have HK := Lib.hid hkv
        clear hkv hzl hzc hl
        go_wp2_with fail
        rw [← hkv0]
        have HK0 := Lib.hid hkv0
        clear hkv0
        refine (boot_step HM.out hjj hwj kv (low2 kv) rfl (low2_four kv) hK).mono ?_
        rintro e w3 ⟨rfl, ⟨C3, hM3⟩, ht3, htot3⟩
        have hfl : (dv jj).fl < w.heap.size ∧ F (dv jj).fl ∧ (dv jj).fl ≠ p := by
          have hj3 : jj < s.ds.length := by rw [← HL.out]; exact hjj
          refine ⟨HD.out.lt hj3 (.inl rfl), ?_, ?_⟩
          · rw [HF.out]
            exact .inr (.inr ⟨jj, hj3, .inl rfl⟩)
          · exact fun e => HD.out.ne hj3 (.inl rfl) H1.out (by decide) e.symm
        have hP3 : Blk w3 p 58 (plantCells db s.ds.length cp true (-1) s.steps) := HB.out.turn ht3 (by
          rintro (e | e)
          · exact hdp e.symm
          · exact hfl.2.2 e.symm)
        have hT3 : Turn F w w3 := HT.out.trans ht3 fun k _ e => by
          rcases e with rfl | rfl
          · rw [HF.out]
            exact .inr (.inl rfl)
          · exact hfl.2.1
        have hl3 : (bootOne (low2 kv) jj ds').length = s.ds.length := by rw [bootOne_length]; exact HL.out
        have hru : bootRun (fun i => low2 (kval zs i)) (total (bootOne (low2 kv) jj ds')) (j + 1) (bootOne (low2 kv) jj ds') = bootRun (fun i => low2 (kval zs i)) (total s.ds) 0 s.ds := by
          rw [← hrun.out, ← hgk, htot3, bootRun, HP.out]
          simp only [HK.out]
        have HRU := Lib.hid hru
        have htt : total (bootOne (low2 kv) jj ds') + 1 = gk := by omega
        generalize bootOne (low2 kv) jj ds' = d3 at *
        have HTT := Lib.hid htt
        have HL3 := Lib.hid hl3
        have HM3 := Lib.hid hM3
        have HP3 := Lib.hid hP3
        have HT3 := Lib.hid hT3
        clear hru htt hl3 hM3 hP3 hT3 ht3 htot3 hrun
        have zj : (0 : Int) ≤ (j : Int) + 1 := by omega
        go_wp2_with fail
        refine (longest_walk p db cp true (-1) s.steps d3 C3 dv K w3 (by rw [HL3.out]; exact HP3.out) HM3.out (by rw [HL3.out]; exact g2)).mono ?_
        rintro e w4 ⟨rfl, m4, rfl⟩
        go_wp2
        go_roundg (total d3)
        case measure => have := HTT.out; omega
        case rel => exact ⟨d3, C3, j + 1, HL3.out, HM3.out.still ((Turn.refl _ _).drewN m4), HP3.out, HT3.out.drewN m4, by go_num, rfl, rfl, by have := HTT.out; omega, HRU⟩
    | none =>
      have hws := pick_none_ws hp
      have ht0 : total ds' = 0 := total_zero ds' fun d hd => by
        obtain ⟨i, hi, rfl⟩ := List.mem_iff_getElem.1 hd
        exact hws i _ (List.getElem?_eq_getElem hi)
      have hfin : bootRun (fun i => low2 (kval zs i)) (total s.ds) 0 s.ds = ds' := by
        rw [← hrun.out, ← hgk, ht0, bootRun]
      have hF0 : FinAt w.heap.size wr db C' ds' dv K 0 := { blk := hM.blk, size := hM.size, mid := hM.at_, fin := fun i d hi => (by omega), flB := fun i hi => HD.out.lt (by omega) (.inl rfl), apart := hM.apart, nws := fun i j hi => (by omega), kn := Nat.zero_le _ }
      have hnil : ptrOf db (Option.none : Option Nat) = .pointer none := rfl
      rw [hnil]
      clear hnil hp hrun hM ht0 hgk hjk
      have HW := Lib.hid hws
      have HFI := Lib.hid hfin
      have HT := Lib.hid hT
      have HP := Lib.hid hP
      have HL := Lib.hid hlen
      have c0 : wr.cell? ⟨p, 0, none⟩ = some (.slice (some ⟨db, 0, none⟩) s.ds.length cp) := hP.cell 0
      have HF0 := Lib.hid hF0
      clear hws hfin hT hP hF0 hlen
      generalize hnn : s.ds.length = n at *
      have HN := Lib.hid hnn
      clear hnn
      go_wp2_with fail
      go_loopg [40] n (fun gk i wq => ∃ (k : Nat) (Ck : Array Value) (dk : Nat → DV), k + gk = n ∧ i = .int .i64 (k : Int) ∧ FinAt w.heap.size wq db Ck ds' dk K k ∧ (∀ i, (dk i).fl = (dv i).fl) ∧ Blk wq p 58 (plantCells db n cp true (-1) s.steps) ∧ Turn F w wq)
      case atStart => exact ⟨0, C', dv, by omega, rfl, HF0.out, fun _ => rfl, HP.out, HT.out⟩
      case round =>
        obtain ⟨k, Ck, dk, hkn, rfl, hFk, hfl, hPk, hTk⟩ := hrel
        have HFk := Lib.hid hFk
        have Hfl := Lib.hid hfl
        have HPk := Lib.hid hPk
        have HTk := Lib.hid hTk
        have cc := hPk.cell 0
        have c0' : wr.cell? ⟨p, 0, none⟩ = some (.slice (some ⟨db, 0, none⟩) n cp) := cc
        clear hFk hfl hPk hTk c0 cc
        by_cases hlt : k < n
        · have z1 : (0 : Int) ≤ (k : Int) := by omega
          have z2 : (k : Int) < (n : Int) := by omega
          go_wp2_with fail
          refine (forget_step HFk.out (by rw [HL.out]; exact hlt) HW.out HTk.out.size).mono ?_
          rintro e w5 ⟨rfl, ⟨C5, d5, hF5, hfl5⟩, hT5⟩
          have hP5 : Blk w5 p 58 (plantCells db n cp true (-1) s.steps) := HPk.out.turn hT5 (fun e => hdp (e : p = db).symm)
          have hT5' : Turn F w w5 := HTk.out.trans hT5 fun b _ e => by
            rw [HF.out]
            exact .inr (.inl e)
          have HF5 := Lib.hid hF5
          have Hfl5 : Hid (∀ i, (d5 i).fl = (dv i).fl) := Lib.hid fun i => (hfl5 i).trans (Hfl.out i)
          have HP5 := Lib.hid hP5
          have HT5 := Lib.hid hT5'
          clear hF5 hfl5 hP5 hT5 hT5'
          go_wp2
          go_roundg (gk - 1)
          case measure => omega
          case rel => exact ⟨k + 1, C5, d5, by omega, by go_num, HF5.out, Hfl5.out, HP5.out, HT5.out⟩
        · obtain rfl : k = n := by omega
          have hG : Goes2 w p F wr (s.boot zs) K := by
            have hds : (s.boot zs).ds = ds' := HFI.out
            have hle : (s.boot zs).ds.length = k := by rw [hds]; exact HL.out
            have hFd := HFk.out
            rw [← HL.out] at hFd
            refine ⟨PlF p db k dk, ⟨db, cp, Ck, dk, ?_, ?_, ?_, ?_, ?_, ?_, ?_, ?_, ?_⟩, HTk.out, ?_⟩
            · rw [hle]
              exact HPk.out
            · rw [hds]
              exact hFd.done
            · rw [hle]
            · rw [hle]
              exact g1
            · rw [hle]
              exact g2
            · simp only [AP.boot]; omega
            · simp only [AP.boot]; omega
            · exact g5
            · exact g6
            · rintro b (rfl | rfl | ⟨i, hi, hb⟩)
              · left
                rw [HF.out]
                exact .inl rfl
              · left
                rw [HF.out]
                exact .inr (.inl rfl)
              · have hi' : i < ds'.length := by rw [HL.out]; exact hi
                obtain ⟨_, e1, e2⟩ := hFd.fin i _ hi' (List.getElem?_eq_getElem hi')
                rcases hb with rfl | rfl | hb
                · left
                  rw [HF.out, Hfl.out i]
                  exact .inr (.inr ⟨i, hi, .inl rfl⟩)
                · exact .inr e2
                · rw [e1] at hb
                  cases hb
          have HG := Lib.hid hG
          clear hG
          go_wp2
          go_end0
          exact ⟨rfl, HG.out⟩
end Go.Proofs.Ytgdlidjjogoiaaa
