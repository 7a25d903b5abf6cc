/-
  plant's disks: a copy of one map over another; flush
-/
import Derived.Test.YtgdlidjjogoiaaaPlC
namespace Go.Proofs.Ytgdlidjjogoiaaa
open Go.RowKit Go.Maps
set_option linter.unusedVariables false
set_option maxHeartbeats 2000000 in
theorem copy_walk (bd bs nd ns : Nat) (f fs : Int → Option Sec) (w : World) (hd : MapAt w kI eS bd nd f) (hs : MapAt w kI eS bs ns fs) (hne : bd ≠ bs) (hroom : nd + ns < 2199023255552) :
    Calls Try.prog 46 #[.map (some bd), .map (some bs)] w fun e w' => e = .returned (.tuple #[]) ∧ MapAt w' kI eS bd (nd + ns) (over fs f) ∧ Turn (only bd) w w' := by
  obtain ⟨Ds, hso, hst⟩ := hs
  have hbd := hd.lt
  have hbs := hso.lt
  have hsz := hso.size_le
  go_enter Try.func46, Try.ntmps46
  go_wp2_with (first
    | (at_range; refine wpList_range_own _ rfl _ 59 rfl 3 66 kI.keyed map_sector eS.R bs ns _ rfl hso ?_; intro w0 hrg0 hg0 hs0))
  go_frame
  go_loopw [8] (fun _ wr => ∃ (left : Lit → Bool) (cnt : Nat) (fd : Int → Option Sec), wr.ranges Try.prog 3 eS.R bs w.heap.size ns Ds left cnt ∧ cnt ≤ Maps.size Ds ∧
      MapAt wr kI eS bd (nd + (Maps.size Ds - cnt)) fd ∧ Laid kI Ds fs f left fd ∧ Turn (only bd) w wr)
    (fun _ wr => wr.rangeLeft bs w.heap.size)
  case atStart =>
    exact ⟨_, _, f, hrg0, Nat.le_refl _, (hd.grown hg0 (by simp)).mono (by omega), laid_start Ds fs f, (Turn.refl _ _).grown hg0 (fun g e => by cases e)⟩
  case round =>
    obtain ⟨left, cnt, fd, hrg, hcs, hout, hL, ht⟩ := hrel
    have hbd' : bd ≠ w.heap.size := Nat.ne_of_lt hbd
    go_wp2_with (first
      | (at_next; refine wpList_next_ranges _ rfl _ rfl 3 kI.keyed eS.R (fun x : Int => Value.int .i64 x) (fun s : List UInt8 => rowV s) (fun key kl h => by obtain ⟨x, _, h1, _⟩ := kI.inv key kl h; exact ⟨x, h1⟩) (fun v y h => by obtain ⟨x, h1, _⟩ := eS.inv v y h; exact ⟨x.1, h1⟩) bs w.heap.size ns _ _ _ rfl hrg ?_ ?_))
    · intro hc0 hl0
      go_wp2
      go_end0
      refine ⟨rfl, (hout.mono (by omega)).congr fun x hx => laid_end hst hl0 hL x hx, ht⟩
    · intro x c0 kl yd yp w1 cnt1 hkey hlx hv hat hrg1 hlt hg1 hs1 hen
      obtain ⟨c, hc, hy⟩ := eS.inv _ _ hv
      obtain rfl : c0 = c.1 := by
        have h1 : Value.agg (bcs c0).toArray = Value.agg (bcs c.1).toArray := hc
        injection h1 with h1
        have h2 := congrArg (fun a : Array Value => cellsBytes a.toList) h1
        simpa [cellsBytes_bcs] using h2
      obtain ⟨rfl, rfl⟩ := Prod.mk.inj hy
      obtain ⟨x', hx, e1, rfl⟩ := kI.inv _ _ hkey
      obtain rfl : x = x' := by
        injection e1
      have hout1 := hout.grown hg1 (fun e => hbd' (Option.some.inj e))
      have ht1 := ht.grown hg1 (fun g e hg => by cases e; omega)
      have hL1 := laid_step hx hst hat hL
      have HL := Lib.hid hL1
      have Hat := Lib.hid hat
      have Hlt := Lib.hid hlt
      have Hrg := Lib.hid hrg
      have Hs1 := Lib.hid hs1
      clear hL hL1 hat hv e1 hkey hlx hrg hlt hc hy hs1
      go_wp2_with (first
        | (refine wpList_store_row rfl 66 (.tmp 5) (.tmp 12) rfl (bcs c.1).toArray (Blk.new w1 _ _) rfl rfl (sec_size c) (size_sec c) (sec_one c) ?_; intro w2 hb2 ht2)
        | (refine wpList_run rfl (exec_load (ty := 66) (x := .tmp 5) rfl rfl (load_blk hb2 _ rfl)) ?_)
        | (at_mapUpdate; refine wpList_mapUpdate_at rfl _ _ _ _ rfl ((hout1.alloc _).turn ht2 (Nat.ne_of_lt hout1.lt)) map_sector (by unfold maxLen; omega) hx c rfl rfl rfl ?_; intro w3 hm3 hg3; go_frame))
      have hrg2 := ((hrg1.alloc _).kept ht2.grow1 (fun e => by have := Option.some.inj e; have := hrg1.lt; omega) (fun e => by have := Option.some.inj e; have := hrg1.lt; omega)).kept hg3 (fun e => hne (Option.some.inj e).symm) (fun e => hbd' (Option.some.inj e).symm)
      go_roundw
      case rel =>
        exact ⟨_, cnt1, _, hrg2, by have := Hlt.out; omega, hm3.mono (by have := Hlt.out; omega), HL.out, (((ht1.alloc _).trans ht2 (fun k hk e => by unfold only at e; have := ht1.size; omega)).grown hg3 (fun g e _ => (Option.some.inj e).symm))⟩
      case measure =>
        rw [hrg2.left_eq, Hrg.out.left_eq]
        exact Hlt.out
set_option maxHeartbeats 1000000 in
theorem flush_walk (db o fl nw n1 n2 : Nat) (ff nf : Int → Option Sec) (C : Array Value) (w : World)
    (hd : Blk w db 62 C) (h1 : C[o + 1]? = some (.map (some fl))) (h2 : C[o + 2]? = some (.map (some nw))) (hs : o + 3 < C.size) (hm1 : MapAt w kI eS fl n1 ff) (hm2 : MapAt w kI eS nw n2 nf) (hne : fl ≠ nw) (hroom : n1 + n2 < 2199023255552) :
    Calls Try.prog 35 #[.pointer (some ⟨db, o, none⟩)] w fun e w' => e = .returned (.tuple #[]) ∧
      ∃ nw', w.heap.size ≤ nw' ∧ Blk w' db 62 ((C.setIfInBounds (o + 2) (.map (some nw'))).setIfInBounds (o + 3) (.slice none 0 0)) ∧ MapAt w' kI eS fl (n1 + n2) (over nf ff) ∧ MapAt w' kI eS nw' 0 (fun _ => none) ∧
        Turn (fun k => k = db ∨ k = fl) w w' := by
  have c1 : w.cell? ⟨db, o + 1, none⟩ = some (.map (some fl)) := (hd.cell _).trans h1
  have c2 : w.cell? ⟨db, o + 2, none⟩ = some (.map (some nw)) := (hd.cell _).trans h2
  have H1 := Lib.hid hm1
  have H2 := Lib.hid hm2
  have Hd := Lib.hid hd
  clear hm1 hm2 hd h1 h2
  go_enter Try.func35, Try.ntmps35
  go_wp2_with fail
  go_still_tail 8, (by kernel_rfl)
  change wpList _ _ _ _ _ w.drew
  go_wp2_with fail
  refine (copy_walk fl nw n1 n2 ff nf _ H1.out.drew H2.out.drew hne hroom).mono ?_
  rintro e w1 ⟨rfl, hm, ht⟩
  have hd1 : Blk w1 db 62 C := Hd.out.drew.turn ht (H1.out.ne Hd.out)
  have Hm := Lib.hid hm
  have Ht := Lib.hid ht
  clear hm ht
  go_wp2_with fail
  refine (forget_walk db o C w1 hd1 hs).mono ?_
  rintro e w2 ⟨rfl, hd2, hm2, ht2⟩
  go_wp2
  go_end0
  have hz := Ht.out.size
  refine ⟨rfl, _, hz, hd2, Hm.out.turn ht2 (fun e => H1.out.ne Hd.out e.symm), hm2, ?_⟩
  exact ((Turn.refl (fun k => k = db ∨ k = fl) w).drew.trans Ht.out (fun k _ e => .inr e)).trans ht2 (fun k _ e => .inl e)
end Go.Proofs.Ytgdlidjjogoiaaa
