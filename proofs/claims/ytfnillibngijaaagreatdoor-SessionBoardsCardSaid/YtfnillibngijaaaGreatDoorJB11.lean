/-
  Texts in one file: MsTell Str. Conditions: the tables and the errors read as the program's text lays them.
-/
import Derived.Test.YtfnillibngijaaaGreatDoorJB10
import Derived.Test.YtfnillibngijaaaGreatDoorJB0
import Derived.Deep.Cut
import Derived.Deep.DeepCutAuto
import Derived.Deep.LoopGhost
import Derived.Test.YtfnillibngijaaaGreatDoorProg
import Derived.Laws.IdiomStrings
import Derived.Laws.Concat
import Derived.Laws.Strings
import Derived.Laws.Strings3
namespace Go.Proofs.YtfnillibngijaaaGreatDoor
open Go.RowKit
open Fdd
set_option linter.unusedVariables false
set_option linter.unusedSimpArgs false
/-- where message's errors lie -/
structure Sents where
  (dialect type_ long map more field text bytes short : Addr)
def SenAt (W : World) (g : Nat) (a : Addr) : Prop := W.cell? ⟨g, 0, none⟩ = some (.iface 237 (.pointer (some a))) ∧ ∃ c t, W.heap[a.block]? = some (.cells c t (0, 0))
theorem SenAt.turn {W W' : World} {g : Nat} {a : Addr} (h : SenAt W g a) (ht : Turn nowhere W W') : SenAt W' g a := by
  obtain ⟨h1, c, t, h2⟩ := h
  exact ⟨(ht.cell (World.block_lt_of_cell? _ _ h1) (fun e => e)).trans h1, c, t, (ht.block a.block (Array.getElem?_eq_some_iff.1 h2).1 (fun e => e)).trans h2⟩
def rowCells : List Value := mrows.flatMap fun r => [.int .i64 r.1, .int .i64 r.2.1, .int .i64 r.2.2]
def strOf (l : List UInt8) : Value := .string ⟨l.toArray⟩
def tongCells : List Value := [.int .i64 0, strOf [], strOf [], .int .i64 1, strOf [48], strOf [], .int .i64 2, strOf [49], strOf [], .int .i64 3, strOf [57], strOf [48, 48]]
structure Sen (s : Sents) (W : World) : Prop where
  dialect : SenAt W 0 s.dialect
  type_ : SenAt W 1 s.type_
  long : SenAt W 2 s.long
  map : SenAt W 3 s.map
  more : SenAt W 4 s.more
  field : SenAt W 7 s.field
  text : SenAt W 10 s.text
  bytes : SenAt W 11 s.bytes
  short : SenAt W 12 s.short
  ne : s.more ≠ s.dialect ∧ s.more ≠ s.type_ ∧ s.more ≠ s.long ∧ s.more ≠ s.map ∧ s.map ≠ s.dialect ∧ s.map ≠ s.type_ ∧ s.map ≠ s.long ∧ s.long ≠ s.dialect ∧ s.long ≠ s.type_ ∧ s.type_ ≠ s.dialect ∧ s.field ≠ s.text ∧ s.field ≠ s.bytes ∧ s.field ≠ s.short ∧ s.short ≠ s.text ∧ s.short ≠ s.bytes ∧ s.bytes ≠ s.text
  etype : W.cell? ⟨9, 0, none⟩ = some (.iface 160 (.agg #[.pointer (some ⟨20, 78, none⟩)]))
structure Tab (W : World) : Prop where
  rows : ∃ b off c, W.cell? ⟨8, 0, none⟩ = some (.slice (some ⟨b, off, none⟩) 17 c) ∧ ∀ i v, rowCells[i]? = some v → W.cell? ⟨b, off + i, none⟩ = some v
  tongues : ∀ i v, tongCells[i]? = some v → W.cell? ⟨6, i, none⟩ = some v
theorem Sen.turn {s : Sents} {W W' : World} (h : Sen s W) (ht : Turn nowhere W W') : Sen s W' where
  dialect := h.dialect.turn ht
  type_ := h.type_.turn ht
  long := h.long.turn ht
  map := h.map.turn ht
  more := h.more.turn ht
  field := h.field.turn ht
  text := h.text.turn ht
  bytes := h.bytes.turn ht
  short := h.short.turn ht
  ne := h.ne
  etype := (ht.cell (World.block_lt_of_cell? _ _ h.etype) (fun e => e)).trans h.etype
theorem Tab.turn {W W' : World} (h : Tab W) (ht : Turn nowhere W W') : Tab W' where
  rows := by
    obtain ⟨b, off, c, h1, h2⟩ := h.rows
    exact ⟨b, off, c, (ht.cell (World.block_lt_of_cell? _ _ h1) (fun e => e)).trans h1, fun i v hv => (ht.cell (World.block_lt_of_cell? _ _ (h2 i v hv)) (fun e => e)).trans (h2 i v hv)⟩
  tongues := fun i v hv => (ht.cell (World.block_lt_of_cell? _ _ (h.tongues i v hv)) (fun e => e)).trans (h.tongues i v hv)
theorem is_eq {a : Addr} {g : Nat} {w : World} (ha : SenAt w g a) :
    Calls Tryz.prog 52 #[.iface 237 (.pointer (some a)), .iface 237 (.pointer (some a))] w fun e w' => e = .returned (.bool true) ∧ w' = w := by
  obtain ⟨_, c, t, h⟩ := ha
  have := is_any a a c c t t w h h
  rw [decide_eq_true rfl] at this
  exact this
theorem is_ne {a b : Addr} {g g' : Nat} {w : World} (ha : SenAt w g a) (hb : SenAt w g' b) (hne : a ≠ b) :
    Calls Tryz.prog 52 #[.iface 237 (.pointer (some a)), .iface 237 (.pointer (some b))] w fun e w' => e = .returned (.bool false) ∧ w' = w := by
  obtain ⟨_, c, t, h⟩ := ha
  obtain ⟨_, c', t', h'⟩ := hb
  have := is_any a b c c' t t' w h h'
  rw [decide_eq_false hne] at this
  exact this
theorem fe_eq {no : Int} {a : Addr} {g : Nat} {w : World} (ha : SenAt w g a) :
    Calls Tryz.prog 52 #[.iface 111 (.agg #[.int .i64 no, .iface 237 (.pointer (some a))]), .iface 237 (.pointer (some a))] w fun e w' => e = .returned (.bool true) ∧ Turn nowhere w w' := by
  obtain ⟨_, c, t, h⟩ := ha
  have := is_fe no a a c c t t w h h
  rw [decide_eq_true rfl] at this
  exact this
theorem fe_ne {no : Int} {a b : Addr} {g g' : Nat} {w : World} (ha : SenAt w g a) (hb : SenAt w g' b) (hne : a ≠ b) :
    Calls Tryz.prog 52 #[.iface 111 (.agg #[.int .i64 no, .iface 237 (.pointer (some a))]), .iface 237 (.pointer (some b))] w fun e w' => e = .returned (.bool false) ∧ Turn nowhere w w' := by
  obtain ⟨_, c, t, h⟩ := ha
  obtain ⟨_, c', t', h'⟩ := hb
  have := is_fe no a b c c' t t' w h h'
  rw [decide_eq_false hne] at this
  exact this
set_option maxRecDepth 20000 in
theorem tellField_field {s : Sents} {w : World} (no : Int) (hs : Sen s w) :
    Calls Tryz.prog 51 #[.agg #[.int .i64 no, .iface 237 (.pointer (some s.field))]] w fun e w' => e = .returned (.int .i64 52) ∧ Turn nowhere w w' := by
  have HS := Lib.hid hs
  have HNE := Lib.hid hs.ne
  clear hs
  go_enter Tryz.func51, Tryz.ntmps51
  go_upto_region 1 with fail
  have ht0 := (Turn.refl nowhere w).alloc (.cells #[.int .i64 no, .iface 237 (.pointer (some s.field))] 111)
  have hb0 := Blk.new w 111 #[.int .i64 no, .iface 237 (.pointer (some s.field))]
  generalize World.alloc w _ = w0 at *
  obtain ⟨b0, hb00⟩ : ∃ b0, b0 = w.heap.size := ⟨_, rfl⟩
  rw [← hb00] at hb0 ⊢
  clear hb00
  have HT := Lib.hid ht0
  have HB := Lib.hid hb0
  clear ht0 hb0
  have c0 : w0.cell? ⟨b0, 0, none⟩ = some (.int .i64 no) := HB.out.cell 0
  have c1 : w0.cell? ⟨b0, 1, none⟩ = some (.iface 237 (.pointer (some s.field))) := HB.out.cell 1
  have cg : w0.cell? ⟨10, 0, none⟩ = some (.iface 237 (.pointer (some s.text))) := (HS.out.turn HT.out).text.1
  go_upto_region 3 with (go_at_call 52; refine (fe_ne (HS.out.turn HT.out).field (HS.out.turn HT.out).text HNE.out.2.2.2.2.2.2.2.2.2.2.1).mono ?_; rintro e w1 ⟨rfl, ht1⟩)
  have HT1 := Lib.hid (HT.out.trans ht1 (fun _ _ e => e))
  have HB1 := Lib.hid (HB.out.turn ht1 (fun e => e))
  clear ht1 c0 c1 cg HT HB
  have HT := HT1
  have HB := HB1
  clear HT1 HB1
  have c0 : w1.cell? ⟨b0, 0, none⟩ = some (.int .i64 no) := HB.out.cell 0
  have c1 : w1.cell? ⟨b0, 1, none⟩ = some (.iface 237 (.pointer (some s.field))) := HB.out.cell 1
  have cg : w1.cell? ⟨11, 0, none⟩ = some (.iface 237 (.pointer (some s.bytes))) := (HS.out.turn HT.out).bytes.1
  go_upto_region 5 with (go_at_call 52; refine (fe_ne (HS.out.turn HT.out).field (HS.out.turn HT.out).bytes HNE.out.2.2.2.2.2.2.2.2.2.2.2.1).mono ?_; rintro e w2 ⟨rfl, ht2⟩)
  have HT2 := Lib.hid (HT.out.trans ht2 (fun _ _ e => e))
  have HB2 := Lib.hid (HB.out.turn ht2 (fun e => e))
  clear ht2 c0 c1 cg HT HB
  have HT := HT2
  have HB := HB2
  clear HT2 HB2
  have c0 : w2.cell? ⟨b0, 0, none⟩ = some (.int .i64 no) := HB.out.cell 0
  have c1 : w2.cell? ⟨b0, 1, none⟩ = some (.iface 237 (.pointer (some s.field))) := HB.out.cell 1
  have cg : w2.cell? ⟨12, 0, none⟩ = some (.iface 237 (.pointer (some s.short))) := (HS.out.turn HT.out).short.1
  go_upto_region 7 with (go_at_call 52; refine (fe_ne (HS.out.turn HT.out).field (HS.out.turn HT.out).short HNE.out.2.2.2.2.2.2.2.2.2.2.2.2.1).mono ?_; rintro e w3 ⟨rfl, ht3⟩)
  have HT3 := Lib.hid (HT.out.trans ht3 (fun _ _ e => e))
  have HB3 := Lib.hid (HB.out.turn ht3 (fun e => e))
  clear ht3 c0 c1 cg HT HB
  have HT := HT3
  have HB := HB3
  clear HT3 HB3
  go_wp2_with fail
  go_ret
  exact ⟨rfl, HT.out⟩
set_option maxRecDepth 20000 in
theorem tellField_text {s : Sents} {w : World} (no : Int) (hs : Sen s w) :
    Calls Tryz.prog 51 #[.agg #[.int .i64 no, .iface 237 (.pointer (some s.text))]] w fun e w' => e = .returned (.int .i64 41) ∧ Turn nowhere w w' := by
  have HS := Lib.hid hs
  have HNE := Lib.hid hs.ne
  clear hs
  go_enter Tryz.func51, Tryz.ntmps51
  go_upto_region 1 with fail
  have ht0 := (Turn.refl nowhere w).alloc (.cells #[.int .i64 no, .iface 237 (.pointer (some s.text))] 111)
  have hb0 := Blk.new w 111 #[.int .i64 no, .iface 237 (.pointer (some s.text))]
  generalize World.alloc w _ = w0 at *
  obtain ⟨b0, hb00⟩ : ∃ b0, b0 = w.heap.size := ⟨_, rfl⟩
  rw [← hb00] at hb0 ⊢
  clear hb00
  have HT := Lib.hid ht0
  have HB := Lib.hid hb0
  clear ht0 hb0
  have c0 : w0.cell? ⟨b0, 0, none⟩ = some (.int .i64 no) := HB.out.cell 0
  have c1 : w0.cell? ⟨b0, 1, none⟩ = some (.iface 237 (.pointer (some s.text))) := HB.out.cell 1
  have cg : w0.cell? ⟨10, 0, none⟩ = some (.iface 237 (.pointer (some s.text))) := (HS.out.turn HT.out).text.1
  go_upto_region 2 with (go_at_call 52; refine (fe_eq (HS.out.turn HT.out).text).mono ?_; rintro e w1 ⟨rfl, ht1⟩)
  have HT1 := Lib.hid (HT.out.trans ht1 (fun _ _ e => e))
  have HB1 := Lib.hid (HB.out.turn ht1 (fun e => e))
  clear ht1 c0 c1 cg HT HB
  have HT := HT1
  have HB := HB1
  clear HT1 HB1
  go_wp2_with fail
  go_ret
  exact ⟨rfl, HT.out⟩
set_option maxRecDepth 20000 in
theorem tellField_bytes {s : Sents} {w : World} (no : Int) (hs : Sen s w) :
    Calls Tryz.prog 51 #[.agg #[.int .i64 no, .iface 237 (.pointer (some s.bytes))]] w fun e w' => e = .returned (.int .i64 42) ∧ Turn nowhere w w' := by
  have HS := Lib.hid hs
  have HNE := Lib.hid hs.ne
  clear hs
  go_enter Tryz.func51, Tryz.ntmps51
  go_upto_region 1 with fail
  have ht0 := (Turn.refl nowhere w).alloc (.cells #[.int .i64 no, .iface 237 (.pointer (some s.bytes))] 111)
  have hb0 := Blk.new w 111 #[.int .i64 no, .iface 237 (.pointer (some s.bytes))]
  generalize World.alloc w _ = w0 at *
  obtain ⟨b0, hb00⟩ : ∃ b0, b0 = w.heap.size := ⟨_, rfl⟩
  rw [← hb00] at hb0 ⊢
  clear hb00
  have HT := Lib.hid ht0
  have HB := Lib.hid hb0
  clear ht0 hb0
  have c0 : w0.cell? ⟨b0, 0, none⟩ = some (.int .i64 no) := HB.out.cell 0
  have c1 : w0.cell? ⟨b0, 1, none⟩ = some (.iface 237 (.pointer (some s.bytes))) := HB.out.cell 1
  have cg : w0.cell? ⟨10, 0, none⟩ = some (.iface 237 (.pointer (some s.text))) := (HS.out.turn HT.out).text.1
  go_upto_region 3 with (go_at_call 52; refine (fe_ne (HS.out.turn HT.out).bytes (HS.out.turn HT.out).text HNE.out.2.2.2.2.2.2.2.2.2.2.2.2.2.2.2).mono ?_; rintro e w1 ⟨rfl, ht1⟩)
  have HT1 := Lib.hid (HT.out.trans ht1 (fun _ _ e => e))
  have HB1 := Lib.hid (HB.out.turn ht1 (fun e => e))
  clear ht1 c0 c1 cg HT HB
  have HT := HT1
  have HB := HB1
  clear HT1 HB1
  have c0 : w1.cell? ⟨b0, 0, none⟩ = some (.int .i64 no) := HB.out.cell 0
  have c1 : w1.cell? ⟨b0, 1, none⟩ = some (.iface 237 (.pointer (some s.bytes))) := HB.out.cell 1
  have cg : w1.cell? ⟨11, 0, none⟩ = some (.iface 237 (.pointer (some s.bytes))) := (HS.out.turn HT.out).bytes.1
  go_upto_region 4 with (go_at_call 52; refine (fe_eq (HS.out.turn HT.out).bytes).mono ?_; rintro e w2 ⟨rfl, ht2⟩)
  have HT2 := Lib.hid (HT.out.trans ht2 (fun _ _ e => e))
  have HB2 := Lib.hid (HB.out.turn ht2 (fun e => e))
  clear ht2 c0 c1 cg HT HB
  have HT := HT2
  have HB := HB2
  clear HT2 HB2
  go_wp2_with fail
  go_ret
  exact ⟨rfl, HT.out⟩
set_option maxRecDepth 20000 in
theorem tellField_short {s : Sents} {w : World} (no : Int) (hs : Sen s w) :
    Calls Tryz.prog 51 #[.agg #[.int .i64 no, .iface 237 (.pointer (some s.short))]] w fun e w' => e = .returned (.int .i64 43) ∧ Turn nowhere w w' := by
  have HS := Lib.hid hs
  have HNE := Lib.hid hs.ne
  clear hs
  go_enter Tryz.func51, Tryz.ntmps51
  go_upto_region 1 with fail
  have ht0 := (Turn.refl nowhere w).alloc (.cells #[.int .i64 no, .iface 237 (.pointer (some s.short))] 111)
  have hb0 := Blk.new w 111 #[.int .i64 no, .iface 237 (.pointer (some s.short))]
  generalize World.alloc w _ = w0 at *
  obtain ⟨b0, hb00⟩ : ∃ b0, b0 = w.heap.size := ⟨_, rfl⟩
  rw [← hb00] at hb0 ⊢
  clear hb00
  have HT := Lib.hid ht0
  have HB := Lib.hid hb0
  clear ht0 hb0
  have c0 : w0.cell? ⟨b0, 0, none⟩ = some (.int .i64 no) := HB.out.cell 0
  have c1 : w0.cell? ⟨b0, 1, none⟩ = some (.iface 237 (.pointer (some s.short))) := HB.out.cell 1
  have cg : w0.cell? ⟨10, 0, none⟩ = some (.iface 237 (.pointer (some s.text))) := (HS.out.turn HT.out).text.1
  go_upto_region 3 with (go_at_call 52; refine (fe_ne (HS.out.turn HT.out).short (HS.out.turn HT.out).text HNE.out.2.2.2.2.2.2.2.2.2.2.2.2.2.1).mono ?_; rintro e w1 ⟨rfl, ht1⟩)
  have HT1 := Lib.hid (HT.out.trans ht1 (fun _ _ e => e))
  have HB1 := Lib.hid (HB.out.turn ht1 (fun e => e))
  clear ht1 c0 c1 cg HT HB
  have HT := HT1
  have HB := HB1
  clear HT1 HB1
  have c0 : w1.cell? ⟨b0, 0, none⟩ = some (.int .i64 no) := HB.out.cell 0
  have c1 : w1.cell? ⟨b0, 1, none⟩ = some (.iface 237 (.pointer (some s.short))) := HB.out.cell 1
  have cg : w1.cell? ⟨11, 0, none⟩ = some (.iface 237 (.pointer (some s.bytes))) := (HS.out.turn HT.out).bytes.1
  go_upto_region 5 with (go_at_call 52; refine (fe_ne (HS.out.turn HT.out).short (HS.out.turn HT.out).bytes HNE.out.2.2.2.2.2.2.2.2.2.2.2.2.2.2.1).mono ?_; rintro e w2 ⟨rfl, ht2⟩)
  have HT2 := Lib.hid (HT.out.trans ht2 (fun _ _ e => e))
  have HB2 := Lib.hid (HB.out.turn ht2 (fun e => e))
  clear ht2 c0 c1 cg HT HB
  have HT := HT2
  have HB := HB2
  clear HT2 HB2
  have c0 : w2.cell? ⟨b0, 0, none⟩ = some (.int .i64 no) := HB.out.cell 0
  have c1 : w2.cell? ⟨b0, 1, none⟩ = some (.iface 237 (.pointer (some s.short))) := HB.out.cell 1
  have cg : w2.cell? ⟨12, 0, none⟩ = some (.iface 237 (.pointer (some s.short))) := (HS.out.turn HT.out).short.1
  go_upto_region 6 with (go_at_call 52; refine (fe_eq (HS.out.turn HT.out).short).mono ?_; rintro e w3 ⟨rfl, ht3⟩)
  have HT3 := Lib.hid (HT.out.trans ht3 (fun _ _ e => e))
  have HB3 := Lib.hid (HB.out.turn ht3 (fun e => e))
  clear ht3 c0 c1 cg HT HB
  have HT := HT3
  have HB := HB3
  clear HT3 HB3
  go_wp2_with fail
  go_ret
  exact ⟨rfl, HT.out⟩
set_option maxRecDepth 20000 in
theorem tell_dialect {s : Sents} {w : World} (hs : Sen s w) :
    Calls Tryz.prog 32 #[.iface 237 (.pointer (some s.dialect))] w fun e w' => e = .returned (.int .i64 50) ∧ Turn nowhere w w' := by
  have HS := Lib.hid hs
  have HNE := Lib.hid hs.ne
  clear hs
  go_enter Tryz.func32, Tryz.ntmps32
  go_upto_region 2 with fail
  have ht0 := (Turn.refl nowhere w).alloc (.cells #[.int .i64 0, .nilIface] 111)
  have hb0 := Blk.new w 111 #[.int .i64 0, .nilIface]
  have hg0 : w.heap.size = w.heap.size := rfl
  generalize World.alloc w _ = w0 at *
  obtain ⟨b0, hb00⟩ : ∃ b0, b0 = w.heap.size := ⟨_, rfl⟩
  rw [← hb00] at hb0 ⊢
  have HG := Lib.hid hb00
  have HT := Lib.hid ht0
  have HB := Lib.hid hb0
  clear ht0 hb0 hb00 hg0
  have he := (HS.out.turn HT.out).etype
  go_upto_region 4 with (go_at_call 50; refine (as_miss s.dialect ⟨b0, 0, none⟩ _ he).mono ?_; rintro e w1 ⟨rfl, ht1⟩)
  have HT1 := Lib.hid (HT.out.trans ht1 (fun _ _ e => e))
  clear ht1 he HT HB
  have HT := HT1
  clear HT1
  have cg : w1.cell? ⟨0, 0, none⟩ = some (.iface 237 (.pointer (some s.dialect))) := (HS.out.turn HT.out).dialect.1
  go_upto_region 5 with (go_at_call 52; refine (is_eq (HS.out.turn HT.out).dialect).mono ?_; rintro e w1 ⟨rfl, rfl⟩)
  clear cg
  go_wp2_with fail
  go_ret
  exact ⟨rfl, HT.out⟩
set_option maxRecDepth 20000 in
theorem tell_type_ {s : Sents} {w : World} (hs : Sen s w) :
    Calls Tryz.prog 32 #[.iface 237 (.pointer (some s.type_))] w fun e w' => e = .returned (.int .i64 51) ∧ Turn nowhere w w' := by
  have HS := Lib.hid hs
  have HNE := Lib.hid hs.ne
  clear hs
  go_enter Tryz.func32, Tryz.ntmps32
  go_upto_region 2 with fail
  have ht0 := (Turn.refl nowhere w).alloc (.cells #[.int .i64 0, .nilIface] 111)
  have hb0 := Blk.new w 111 #[.int .i64 0, .nilIface]
  have hg0 : w.heap.size = w.heap.size := rfl
  generalize World.alloc w _ = w0 at *
  obtain ⟨b0, hb00⟩ : ∃ b0, b0 = w.heap.size := ⟨_, rfl⟩
  rw [← hb00] at hb0 ⊢
  have HG := Lib.hid hb00
  have HT := Lib.hid ht0
  have HB := Lib.hid hb0
  clear ht0 hb0 hb00 hg0
  have he := (HS.out.turn HT.out).etype
  go_upto_region 4 with (go_at_call 50; refine (as_miss s.type_ ⟨b0, 0, none⟩ _ he).mono ?_; rintro e w1 ⟨rfl, ht1⟩)
  have HT1 := Lib.hid (HT.out.trans ht1 (fun _ _ e => e))
  clear ht1 he HT HB
  have HT := HT1
  clear HT1
  have cg : w1.cell? ⟨0, 0, none⟩ = some (.iface 237 (.pointer (some s.dialect))) := (HS.out.turn HT.out).dialect.1
  go_upto_region 6 with (go_at_call 52; refine (is_ne (HS.out.turn HT.out).type_ (HS.out.turn HT.out).dialect HNE.out.2.2.2.2.2.2.2.2.2.1).mono ?_; rintro e w1 ⟨rfl, rfl⟩)
  clear cg
  have cg : w1.cell? ⟨1, 0, none⟩ = some (.iface 237 (.pointer (some s.type_))) := (HS.out.turn HT.out).type_.1
  go_upto_region 7 with (go_at_call 52; refine (is_eq (HS.out.turn HT.out).type_).mono ?_; rintro e w1 ⟨rfl, rfl⟩)
  clear cg
  go_wp2_with fail
  go_ret
  exact ⟨rfl, HT.out⟩
set_option maxRecDepth 20000 in
theorem tell_long {s : Sents} {w : World} (hs : Sen s w) :
    Calls Tryz.prog 32 #[.iface 237 (.pointer (some s.long))] w fun e w' => e = .returned (.int .i64 5) ∧ Turn nowhere w w' := by
  have HS := Lib.hid hs
  have HNE := Lib.hid hs.ne
  clear hs
  go_enter Tryz.func32, Tryz.ntmps32
  go_upto_region 2 with fail
  have ht0 := (Turn.refl nowhere w).alloc (.cells #[.int .i64 0, .nilIface] 111)
  have hb0 := Blk.new w 111 #[.int .i64 0, .nilIface]
  have hg0 : w.heap.size = w.heap.size := rfl
  generalize World.alloc w _ = w0 at *
  obtain ⟨b0, hb00⟩ : ∃ b0, b0 = w.heap.size := ⟨_, rfl⟩
  rw [← hb00] at hb0 ⊢
  have HG := Lib.hid hb00
  have HT := Lib.hid ht0
  have HB := Lib.hid hb0
  clear ht0 hb0 hb00 hg0
  have he := (HS.out.turn HT.out).etype
  go_upto_region 4 with (go_at_call 50; refine (as_miss s.long ⟨b0, 0, none⟩ _ he).mono ?_; rintro e w1 ⟨rfl, ht1⟩)
  have HT1 := Lib.hid (HT.out.trans ht1 (fun _ _ e => e))
  clear ht1 he HT HB
  have HT := HT1
  clear HT1
  have cg : w1.cell? ⟨0, 0, none⟩ = some (.iface 237 (.pointer (some s.dialect))) := (HS.out.turn HT.out).dialect.1
  go_upto_region 6 with (go_at_call 52; refine (is_ne (HS.out.turn HT.out).long (HS.out.turn HT.out).dialect HNE.out.2.2.2.2.2.2.2.1).mono ?_; rintro e w1 ⟨rfl, rfl⟩)
  clear cg
  have cg : w1.cell? ⟨1, 0, none⟩ = some (.iface 237 (.pointer (some s.type_))) := (HS.out.turn HT.out).type_.1
  go_upto_region 8 with (go_at_call 52; refine (is_ne (HS.out.turn HT.out).long (HS.out.turn HT.out).type_ HNE.out.2.2.2.2.2.2.2.2.1).mono ?_; rintro e w1 ⟨rfl, rfl⟩)
  clear cg
  have cg : w1.cell? ⟨2, 0, none⟩ = some (.iface 237 (.pointer (some s.long))) := (HS.out.turn HT.out).long.1
  go_upto_region 9 with (go_at_call 52; refine (is_eq (HS.out.turn HT.out).long).mono ?_; rintro e w1 ⟨rfl, rfl⟩)
  clear cg
  go_wp2_with fail
  go_ret
  exact ⟨rfl, HT.out⟩
set_option maxRecDepth 20000 in
theorem tell_map {s : Sents} {w : World} (hs : Sen s w) :
    Calls Tryz.prog 32 #[.iface 237 (.pointer (some s.map))] w fun e w' => e = .returned (.int .i64 53) ∧ Turn nowhere w w' := by
  have HS := Lib.hid hs
  have HNE := Lib.hid hs.ne
  clear hs
  go_enter Tryz.func32, Tryz.ntmps32
  go_upto_region 2 with fail
  have ht0 := (Turn.refl nowhere w).alloc (.cells #[.int .i64 0, .nilIface] 111)
  have hb0 := Blk.new w 111 #[.int .i64 0, .nilIface]
  have hg0 : w.heap.size = w.heap.size := rfl
  generalize World.alloc w _ = w0 at *
  obtain ⟨b0, hb00⟩ : ∃ b0, b0 = w.heap.size := ⟨_, rfl⟩
  rw [← hb00] at hb0 ⊢
  have HG := Lib.hid hb00
  have HT := Lib.hid ht0
  have HB := Lib.hid hb0
  clear ht0 hb0 hb00 hg0
  have he := (HS.out.turn HT.out).etype
  go_upto_region 4 with (go_at_call 50; refine (as_miss s.map ⟨b0, 0, none⟩ _ he).mono ?_; rintro e w1 ⟨rfl, ht1⟩)
  have HT1 := Lib.hid (HT.out.trans ht1 (fun _ _ e => e))
  clear ht1 he HT HB
  have HT := HT1
  clear HT1
  have cg : w1.cell? ⟨0, 0, none⟩ = some (.iface 237 (.pointer (some s.dialect))) := (HS.out.turn HT.out).dialect.1
  go_upto_region 6 with (go_at_call 52; refine (is_ne (HS.out.turn HT.out).map (HS.out.turn HT.out).dialect HNE.out.2.2.2.2.1).mono ?_; rintro e w1 ⟨rfl, rfl⟩)
  clear cg
  have cg : w1.cell? ⟨1, 0, none⟩ = some (.iface 237 (.pointer (some s.type_))) := (HS.out.turn HT.out).type_.1
  go_upto_region 8 with (go_at_call 52; refine (is_ne (HS.out.turn HT.out).map (HS.out.turn HT.out).type_ HNE.out.2.2.2.2.2.1).mono ?_; rintro e w1 ⟨rfl, rfl⟩)
  clear cg
  have cg : w1.cell? ⟨2, 0, none⟩ = some (.iface 237 (.pointer (some s.long))) := (HS.out.turn HT.out).long.1
  go_upto_region 10 with (go_at_call 52; refine (is_ne (HS.out.turn HT.out).map (HS.out.turn HT.out).long HNE.out.2.2.2.2.2.2.1).mono ?_; rintro e w1 ⟨rfl, rfl⟩)
  clear cg
  have cg : w1.cell? ⟨3, 0, none⟩ = some (.iface 237 (.pointer (some s.map))) := (HS.out.turn HT.out).map.1
  go_upto_region 11 with (go_at_call 52; refine (is_eq (HS.out.turn HT.out).map).mono ?_; rintro e w1 ⟨rfl, rfl⟩)
  clear cg
  go_wp2_with fail
  go_ret
  exact ⟨rfl, HT.out⟩
set_option maxRecDepth 20000 in
theorem tell_more {s : Sents} {w : World} (hs : Sen s w) :
    Calls Tryz.prog 32 #[.iface 237 (.pointer (some s.more))] w fun e w' => e = .returned (.int .i64 54) ∧ Turn nowhere w w' := by
  have HS := Lib.hid hs
  have HNE := Lib.hid hs.ne
  clear hs
  go_enter Tryz.func32, Tryz.ntmps32
  go_upto_region 2 with fail
  have ht0 := (Turn.refl nowhere w).alloc (.cells #[.int .i64 0, .nilIface] 111)
  have hb0 := Blk.new w 111 #[.int .i64 0, .nilIface]
  have hg0 : w.heap.size = w.heap.size := rfl
  generalize World.alloc w _ = w0 at *
  obtain ⟨b0, hb00⟩ : ∃ b0, b0 = w.heap.size := ⟨_, rfl⟩
  rw [← hb00] at hb0 ⊢
  have HG := Lib.hid hb00
  have HT := Lib.hid ht0
  have HB := Lib.hid hb0
  clear ht0 hb0 hb00 hg0
  have he := (HS.out.turn HT.out).etype
  go_upto_region 4 with (go_at_call 50; refine (as_miss s.more ⟨b0, 0, none⟩ _ he).mono ?_; rintro e w1 ⟨rfl, ht1⟩)
  have HT1 := Lib.hid (HT.out.trans ht1 (fun _ _ e => e))
  clear ht1 he HT HB
  have HT := HT1
  clear HT1
  have cg : w1.cell? ⟨0, 0, none⟩ = some (.iface 237 (.pointer (some s.dialect))) := (HS.out.turn HT.out).dialect.1
  go_upto_region 6 with (go_at_call 52; refine (is_ne (HS.out.turn HT.out).more (HS.out.turn HT.out).dialect HNE.out.1).mono ?_; rintro e w1 ⟨rfl, rfl⟩)
  clear cg
  have cg : w1.cell? ⟨1, 0, none⟩ = some (.iface 237 (.pointer (some s.type_))) := (HS.out.turn HT.out).type_.1
  go_upto_region 8 with (go_at_call 52; refine (is_ne (HS.out.turn HT.out).more (HS.out.turn HT.out).type_ HNE.out.2.1).mono ?_; rintro e w1 ⟨rfl, rfl⟩)
  clear cg
  have cg : w1.cell? ⟨2, 0, none⟩ = some (.iface 237 (.pointer (some s.long))) := (HS.out.turn HT.out).long.1
  go_upto_region 10 with (go_at_call 52; refine (is_ne (HS.out.turn HT.out).more (HS.out.turn HT.out).long HNE.out.2.2.1).mono ?_; rintro e w1 ⟨rfl, rfl⟩)
  clear cg
  have cg : w1.cell? ⟨3, 0, none⟩ = some (.iface 237 (.pointer (some s.map))) := (HS.out.turn HT.out).map.1
  go_upto_region 12 with (go_at_call 52; refine (is_ne (HS.out.turn HT.out).more (HS.out.turn HT.out).map HNE.out.2.2.2.1).mono ?_; rintro e w1 ⟨rfl, rfl⟩)
  clear cg
  have cg : w1.cell? ⟨4, 0, none⟩ = some (.iface 237 (.pointer (some s.more))) := (HS.out.turn HT.out).more.1
  go_upto_region 13 with (go_at_call 52; refine (is_eq (HS.out.turn HT.out).more).mono ?_; rintro e w1 ⟨rfl, rfl⟩)
  clear cg
  go_wp2_with fail
  go_ret
  exact ⟨rfl, HT.out⟩
set_option maxRecDepth 20000 in
theorem tell_field {s : Sents} {w : World} (no : Int) (hs : Sen s w) :
    Calls Tryz.prog 32 #[.iface 111 (.agg #[.int .i64 no, .iface 237 (.pointer (some s.field))])] w fun e w' => e = .returned (.int .i64 52) ∧ Turn nowhere w w' := by
  have HS := Lib.hid hs
  have HNE := Lib.hid hs.ne
  clear hs
  go_enter Tryz.func32, Tryz.ntmps32
  go_upto_region 2 with fail
  have ht0 := (Turn.refl nowhere w).alloc (.cells #[.int .i64 0, .nilIface] 111)
  have hb0 := Blk.new w 111 #[.int .i64 0, .nilIface]
  have hg0 : w.heap.size = w.heap.size := rfl
  generalize World.alloc w _ = w0 at *
  obtain ⟨b0, hb00⟩ : ∃ b0, b0 = w.heap.size := ⟨_, rfl⟩
  rw [← hb00] at hb0 ⊢
  have HG := Lib.hid hb00
  have HT := Lib.hid ht0
  have HB := Lib.hid hb0
  clear ht0 hb0 hb00 hg0
  have he := (HS.out.turn HT.out).etype
  go_upto_region 3 with (go_at_call 50; refine (as_hit no (.iface 237 (.pointer (some s.field))) b0 #[.int .i64 0, .nilIface] _ rfl he HB.out rfl).mono ?_; rintro e w1 ⟨rfl, hb1, ht1⟩)
  have HT1 := Lib.hid (HT.out.trans (ht1.mono (G := fun k => k = b0) fun _ _ e => e) (fun k hk e => by
    have := HG.out
    have e : k = b0 := e
    omega))
  have c0 : w1.cell? ⟨b0, 0, none⟩ = some (.int .i64 no) := hb1.cell 0
  have c1 : w1.cell? ⟨b0, 1, none⟩ = some (.iface 237 (.pointer (some s.field))) := hb1.cell 1
  clear ht1 he HT HB hb1
  go_wp2_with (go_at_call 51; refine (tellField_field no (HS.out.turn HT1.out)).mono ?_; rintro e w2 ⟨rfl, ht2⟩)
  go_ret
  exact ⟨rfl, HT1.out.trans ht2 (fun _ _ e => e)⟩
set_option maxRecDepth 20000 in
theorem tell_text {s : Sents} {w : World} (no : Int) (hs : Sen s w) :
    Calls Tryz.prog 32 #[.iface 111 (.agg #[.int .i64 no, .iface 237 (.pointer (some s.text))])] w fun e w' => e = .returned (.int .i64 41) ∧ Turn nowhere w w' := by
  have HS := Lib.hid hs
  have HNE := Lib.hid hs.ne
  clear hs
  go_enter Tryz.func32, Tryz.ntmps32
  go_upto_region 2 with fail
  have ht0 := (Turn.refl nowhere w).alloc (.cells #[.int .i64 0, .nilIface] 111)
  have hb0 := Blk.new w 111 #[.int .i64 0, .nilIface]
  have hg0 : w.heap.size = w.heap.size := rfl
  generalize World.alloc w _ = w0 at *
  obtain ⟨b0, hb00⟩ : ∃ b0, b0 = w.heap.size := ⟨_, rfl⟩
  rw [← hb00] at hb0 ⊢
  have HG := Lib.hid hb00
  have HT := Lib.hid ht0
  have HB := Lib.hid hb0
  clear ht0 hb0 hb00 hg0
  have he := (HS.out.turn HT.out).etype
  go_upto_region 3 with (go_at_call 50; refine (as_hit no (.iface 237 (.pointer (some s.text))) b0 #[.int .i64 0, .nilIface] _ rfl he HB.out rfl).mono ?_; rintro e w1 ⟨rfl, hb1, ht1⟩)
  have HT1 := Lib.hid (HT.out.trans (ht1.mono (G := fun k => k = b0) fun _ _ e => e) (fun k hk e => by
    have := HG.out
    have e : k = b0 := e
    omega))
  have c0 : w1.cell? ⟨b0, 0, none⟩ = some (.int .i64 no) := hb1.cell 0
  have c1 : w1.cell? ⟨b0, 1, none⟩ = some (.iface 237 (.pointer (some s.text))) := hb1.cell 1
  clear ht1 he HT HB hb1
  go_wp2_with (go_at_call 51; refine (tellField_text no (HS.out.turn HT1.out)).mono ?_; rintro e w2 ⟨rfl, ht2⟩)
  go_ret
  exact ⟨rfl, HT1.out.trans ht2 (fun _ _ e => e)⟩
set_option maxRecDepth 20000 in
theorem tell_bytes {s : Sents} {w : World} (no : Int) (hs : Sen s w) :
    Calls Tryz.prog 32 #[.iface 111 (.agg #[.int .i64 no, .iface 237 (.pointer (some s.bytes))])] w fun e w' => e = .returned (.int .i64 42) ∧ Turn nowhere w w' := by
  have HS := Lib.hid hs
  have HNE := Lib.hid hs.ne
  clear hs
  go_enter Tryz.func32, Tryz.ntmps32
  go_upto_region 2 with fail
  have ht0 := (Turn.refl nowhere w).alloc (.cells #[.int .i64 0, .nilIface] 111)
  have hb0 := Blk.new w 111 #[.int .i64 0, .nilIface]
  have hg0 : w.heap.size = w.heap.size := rfl
  generalize World.alloc w _ = w0 at *
  obtain ⟨b0, hb00⟩ : ∃ b0, b0 = w.heap.size := ⟨_, rfl⟩
  rw [← hb00] at hb0 ⊢
  have HG := Lib.hid hb00
  have HT := Lib.hid ht0
  have HB := Lib.hid hb0
  clear ht0 hb0 hb00 hg0
  have he := (HS.out.turn HT.out).etype
  go_upto_region 3 with (go_at_call 50; refine (as_hit no (.iface 237 (.pointer (some s.bytes))) b0 #[.int .i64 0, .nilIface] _ rfl he HB.out rfl).mono ?_; rintro e w1 ⟨rfl, hb1, ht1⟩)
  have HT1 := Lib.hid (HT.out.trans (ht1.mono (G := fun k => k = b0) fun _ _ e => e) (fun k hk e => by
    have := HG.out
    have e : k = b0 := e
    omega))
  have c0 : w1.cell? ⟨b0, 0, none⟩ = some (.int .i64 no) := hb1.cell 0
  have c1 : w1.cell? ⟨b0, 1, none⟩ = some (.iface 237 (.pointer (some s.bytes))) := hb1.cell 1
  clear ht1 he HT HB hb1
  go_wp2_with (go_at_call 51; refine (tellField_bytes no (HS.out.turn HT1.out)).mono ?_; rintro e w2 ⟨rfl, ht2⟩)
  go_ret
  exact ⟨rfl, HT1.out.trans ht2 (fun _ _ e => e)⟩
set_option maxRecDepth 20000 in
theorem tell_short {s : Sents} {w : World} (no : Int) (hs : Sen s w) :
    Calls Tryz.prog 32 #[.iface 111 (.agg #[.int .i64 no, .iface 237 (.pointer (some s.short))])] w fun e w' => e = .returned (.int .i64 43) ∧ Turn nowhere w w' := by
  have HS := Lib.hid hs
  have HNE := Lib.hid hs.ne
  clear hs
  go_enter Tryz.func32, Tryz.ntmps32
  go_upto_region 2 with fail
  have ht0 := (Turn.refl nowhere w).alloc (.cells #[.int .i64 0, .nilIface] 111)
  have hb0 := Blk.new w 111 #[.int .i64 0, .nilIface]
  have hg0 : w.heap.size = w.heap.size := rfl
  generalize World.alloc w _ = w0 at *
  obtain ⟨b0, hb00⟩ : ∃ b0, b0 = w.heap.size := ⟨_, rfl⟩
  rw [← hb00] at hb0 ⊢
  have HG := Lib.hid hb00
  have HT := Lib.hid ht0
  have HB := Lib.hid hb0
  clear ht0 hb0 hb00 hg0
  have he := (HS.out.turn HT.out).etype
  go_upto_region 3 with (go_at_call 50; refine (as_hit no (.iface 237 (.pointer (some s.short))) b0 #[.int .i64 0, .nilIface] _ rfl he HB.out rfl).mono ?_; rintro e w1 ⟨rfl, hb1, ht1⟩)
  have HT1 := Lib.hid (HT.out.trans (ht1.mono (G := fun k => k = b0) fun _ _ e => e) (fun k hk e => by
    have := HG.out
    have e : k = b0 := e
    omega))
  have c0 : w1.cell? ⟨b0, 0, none⟩ = some (.int .i64 no) := hb1.cell 0
  have c1 : w1.cell? ⟨b0, 1, none⟩ = some (.iface 237 (.pointer (some s.short))) := hb1.cell 1
  clear ht1 he HT HB hb1
  go_wp2_with (go_at_call 51; refine (tellField_short no (HS.out.turn HT1.out)).mono ?_; rintro e w2 ⟨rfl, ht2⟩)
  go_ret
  exact ⟨rfl, HT1.out.trans ht2 (fun _ _ e => e)⟩
set_option maxRecDepth 20000 in
theorem tell_nil {s : Sents} {w : World} (hs : Sen s w) :
    Calls Tryz.prog 32 #[.nilIface] w fun e w' => e = .returned (.int .i64 0) ∧ Turn nowhere w w' := by
  have HS := Lib.hid hs
  have HNE := Lib.hid hs.ne
  clear hs
  go_enter Tryz.func32, Tryz.ntmps32
  go_upto_region 2 with fail
  have ht0 := (Turn.refl nowhere w).alloc (.cells #[.int .i64 0, .nilIface] 111)
  have hb0 := Blk.new w 111 #[.int .i64 0, .nilIface]
  have hg0 : w.heap.size = w.heap.size := rfl
  generalize World.alloc w _ = w0 at *
  obtain ⟨b0, hb00⟩ : ∃ b0, b0 = w.heap.size := ⟨_, rfl⟩
  rw [← hb00] at hb0 ⊢
  have HG := Lib.hid hb00
  have HT := Lib.hid ht0
  have HB := Lib.hid hb0
  clear ht0 hb0 hb00 hg0
  go_upto_region 4 with (go_at_call 50; refine (as_nil _ _).mono ?_; rintro e w1 ⟨rfl, rfl⟩)
  clear HB
  have cg : w1.cell? ⟨0, 0, none⟩ = some (.iface 237 (.pointer (some s.dialect))) := (HS.out.turn HT.out).dialect.1
  go_upto_region 6 with (go_at_call 52; refine (is_nil s.dialect _).mono ?_; rintro e w1 ⟨rfl, rfl⟩)
  clear cg
  have cg : w1.cell? ⟨1, 0, none⟩ = some (.iface 237 (.pointer (some s.type_))) := (HS.out.turn HT.out).type_.1
  go_upto_region 8 with (go_at_call 52; refine (is_nil s.type_ _).mono ?_; rintro e w1 ⟨rfl, rfl⟩)
  clear cg
  have cg : w1.cell? ⟨2, 0, none⟩ = some (.iface 237 (.pointer (some s.long))) := (HS.out.turn HT.out).long.1
  go_upto_region 10 with (go_at_call 52; refine (is_nil s.long _).mono ?_; rintro e w1 ⟨rfl, rfl⟩)
  clear cg
  have cg : w1.cell? ⟨3, 0, none⟩ = some (.iface 237 (.pointer (some s.map))) := (HS.out.turn HT.out).map.1
  go_upto_region 12 with (go_at_call 52; refine (is_nil s.map _).mono ?_; rintro e w1 ⟨rfl, rfl⟩)
  clear cg
  have cg : w1.cell? ⟨4, 0, none⟩ = some (.iface 237 (.pointer (some s.more))) := (HS.out.turn HT.out).more.1
  go_upto_region 14 with (go_at_call 52; refine (is_nil s.more _).mono ?_; rintro e w1 ⟨rfl, rfl⟩)
  clear cg
  go_wp2_with fail
  go_ret
  exact ⟨rfl, HT.out⟩
/-- an error of message's, and its number -/
inductive ErrV (s : Sents) : Value → Int → Prop
  | nil : ErrV s .nilIface 0
  | dialect : ErrV s (.iface 237 (.pointer (some s.dialect))) 50
  | type_ : ErrV s (.iface 237 (.pointer (some s.type_))) 51
  | long : ErrV s (.iface 237 (.pointer (some s.long))) 5
  | map : ErrV s (.iface 237 (.pointer (some s.map))) 53
  | more : ErrV s (.iface 237 (.pointer (some s.more))) 54
  | field (no : Int) : ErrV s (.iface 111 (.agg #[.int .i64 no, .iface 237 (.pointer (some s.field))])) 52
  | text (no : Int) : ErrV s (.iface 111 (.agg #[.int .i64 no, .iface 237 (.pointer (some s.text))])) 41
  | bytes (no : Int) : ErrV s (.iface 111 (.agg #[.int .i64 no, .iface 237 (.pointer (some s.bytes))])) 42
  | short (no : Int) : ErrV s (.iface 111 (.agg #[.int .i64 no, .iface 237 (.pointer (some s.short))])) 43
theorem tell_walk {s : Sents} {w : World} {v : Value} {n : Int} (h : ErrV s v n) (hs : Sen s w) :
    Calls Tryz.prog 32 #[v] w fun e w' => e = .returned (.int .i64 n) ∧ Turn nowhere w w' := by
  cases h with
  | nil => exact tell_nil hs
  | dialect => exact tell_dialect hs
  | type_ => exact tell_type_ hs
  | long => exact tell_long hs
  | map => exact tell_map hs
  | more => exact tell_more hs
  | field no => exact tell_field no hs
  | text no => exact tell_text no hs
  | bytes no => exact tell_bytes no hs
  | short no => exact tell_short no hs
end Go.Proofs.YtfnillibngijaaaGreatDoor
namespace Go.Proofs.YtfnillibngijaaaGreatDoor
open Go.RowKit
set_option linter.unusedVariables false
/-- bytes as a string's value -/
def strV (l : List UInt8) : Value := .string ⟨l.toArray⟩
theorem str_size (l : List UInt8) : (ByteArray.mk l.toArray).size = l.length := by simp [ByteArray.size]
theorem str_ext (n m : Nat) (l : List UInt8) : (ByteArray.mk l.toArray).extract n m = ByteArray.mk ((l.take m).drop n).toArray := by
  apply ByteArray.ext
  apply Array.ext'
  rw [ByteArray.data_extract]
  simp [List.extract_eq_take_drop, List.drop_take]
theorem str_to (n : Nat) (l : List UInt8) : (ByteArray.mk l.toArray).extract 0 n = ByteArray.mk (l.take n).toArray := by rw [str_ext, List.drop_zero]
theorem str_from (n : Nat) (l : List UInt8) : (ByteArray.mk l.toArray).extract n (ByteArray.mk l.toArray).size = ByteArray.mk (l.drop n).toArray := by rw [str_ext, str_size, List.take_length]
section
variable {a : Act} {o : Oper} {W : World}
theorem exec_str {x : Operand} {b off n c : Nat} {l : List UInt8} (ho : o.op = .convert 42 9 x) (hx : a.eval x = .slice (some ⟨b, off, none⟩) n c) (hl : l.length = n) (hr : W.rangeAt b off (bcs l)) : (execOp a.eval o).run Tryz.prog W = .ok (.value (strV l)) W := by
  subst hl
  have h := run_convert_bytes_back (P := Tryz.prog) W 42 9 5 ⟨b, off, none⟩ c l Tryz.underlying42 Tryz.underlying5 Tryz.underlying9 (fun j hj => by
    rw [add_nat]
    refine hr j _ ?_
    rw [bcs_at l j hj, List.getD_eq_getElem?_getD, List.getElem?_eq_getElem hj]
    rfl)
  unfold execOp
  simp only [ho, hx, h, Sem.run_bind, Sem.run_pure, Result.andThen_ok, strV]
/-- whatever the slice is -/
theorem exec_strBs {x : Operand} {A : Option Addr} {n c : Nat} {l : List UInt8} (ho : o.op = .convert 42 9 x) (hx : a.eval x = .slice A n c) (hb : Bs W A n l) : (execOp a.eval o).run Tryz.prog W = .ok (.value (strV l)) W := by
  obtain ⟨h1, h2, h3⟩ := hb
  by_cases hp : 0 < n
  · obtain ⟨b, off, rfl, hc⟩ := h3 hp
    exact exec_str ho hx h1 (fun j v hj => by
      have hjl : j < l.length := by
        have := (List.getElem?_eq_some_iff.1 hj).1
        rwa [bcs_length] at this
      rw [bcs_at l j hjl] at hj
      rw [← hj]
      exact hc j (by omega))
  · have h0 : n = 0 := by omega
    subst h0
    have hl : l = [] := List.eq_nil_of_length_eq_zero h1
    subst hl
    have h := run_convert_bytes_string (P := Tryz.prog) W 42 9 5 A 0 c Tryz.underlying42 Tryz.underlying5 Tryz.underlying9
    unfold execOp
    simp only [ho, hx, h, Sem.run_bind]
    cases A <;> rfl
theorem exec_sadd {x y : Operand} {l m : List UInt8} {t u : TypeId} (ho : o.op = .binOp .add t x y u) (hx : a.eval x = strV l) (hy : a.eval y = strV m) (hs : l.length + m.length ≤ 8388608) : (execOp a.eval o).run Tryz.prog W = .ok (.value (strV (l ++ m))) W := by
  have h := run_string_add_lists (P := Tryz.prog) W l m (by omega) (by omega)
  unfold execOp
  simp [ho, hx, hy, strV, eqGuard, binOp, h]
theorem exec_seql {x y : Operand} {l m : List UInt8} {t u : TypeId} (ho : o.op = .binOp .eql t x y u) (hx : a.eval x = strV l) (hy : a.eval y = strV m) : (execOp a.eval o).run Tryz.prog W = .ok (.value (.bool (l == m))) W := by
  unfold execOp
  simp [ho, hx, hy, strV, eqGuard, binOp_string_eql]
theorem exec_sneq {x y : Operand} {l m : List UInt8} {t u : TypeId} (ho : o.op = .binOp .neq t x y u) (hx : a.eval x = strV l) (hy : a.eval y = strV m) : (execOp a.eval o).run Tryz.prog W = .ok (.value (.bool (!(l == m)))) W := by
  unfold execOp
  simp [ho, hx, hy, strV, eqGuard, binOp_string_neq]
theorem exec_sto {x y : Operand} {l : List UInt8} {n : Nat} (ho : o.op = .slice 9 x none (some y) none) (hx : a.eval x = strV l) (hy : a.eval y = .int .i64 (n : Int)) (hn : n ≤ l.length) : (execOp a.eval o).run Tryz.prog W = .ok (.value (strV (l.take n))) W := by
  have h := run_slice_string_h (P := Tryz.prog) W 9 ⟨l.toArray⟩ Tryz.underlying9 .i64 (n : Int) (by omega) (by rw [str_size]; omega)
  rw [Int.toNat_natCast, str_to] at h
  unfold execOp
  simp only [ho, Option.map, hx, hy, strV, run_sliceAt_string (P := Tryz.prog) W 9 _ _ _ _ Tryz.underlying9, h, Sem.run_bind, Sem.run_pure, Result.andThen_ok]
theorem exec_sfrom {x y : Operand} {l : List UInt8} {n : Nat} (ho : o.op = .slice 9 x (some y) none none) (hx : a.eval x = strV l) (hy : a.eval y = .int .i64 (n : Int)) (hn : n ≤ l.length) : (execOp a.eval o).run Tryz.prog W = .ok (.value (strV (l.drop n))) W := by
  have h := run_slice_string_l (P := Tryz.prog) W 9 ⟨l.toArray⟩ Tryz.underlying9 .i64 (n : Int) (by omega) (by rw [str_size]; omega)
  rw [Int.toNat_natCast, str_from] at h
  unfold execOp
  simp only [ho, Option.map, hx, hy, strV, run_sliceAt_string (P := Tryz.prog) W 9 _ _ _ _ Tryz.underlying9, h, Sem.run_bind, Sem.run_pure, Result.andThen_ok]
theorem exec_sidx {x y : Operand} {l : List UInt8} {i : Nat} {k : IntKind} (ho : o.op = .index 9 x y) (hx : a.eval x = strV l) (hy : a.eval y = .int k (i : Int)) (hi : i < l.length) : (execOp a.eval o).run Tryz.prog W = .ok (.value (.int .u8 ((l.getD i 0).toNat : Int))) W := by
  have h := run_index_string (P := Tryz.prog) W 9 ⟨l.toArray⟩ k (i : Int) Tryz.underlying9
  rw [dif_pos ⟨by omega, by rw [str_size]; omega⟩] at h
  unfold execOp
  simp only [ho, hx, hy, strV, h, Sem.run_bind, Sem.run_pure, Result.andThen_ok]
  rw [List.getD_eq_getElem?_getD, List.getElem?_eq_getElem hi]
  rfl
theorem exec_slen {x : Operand} {l : List UInt8} (ho : o.op = .call { callee := .builtin .len, args := #[x], argTypes := #[9] }) (hx : a.eval x = strV l) : (execOp a.eval o).run Tryz.prog W = .ok (.value (.int .i64 (l.length : Int))) W := by
  have h := run_len_string (P := Tryz.prog) W 9 o.type ⟨l.toArray⟩ Tryz.underlying9
  rw [str_size] at h
  unfold execOp
  simp only [ho, resolve, invoke, builtin, Sem.run_bind, Sem.run_pure, Result.andThen_ok, List.map_toArray, List.map_cons, List.map_nil, hx, strV, h]
  rfl
end
end Go.Proofs.YtfnillibngijaaaGreatDoor
