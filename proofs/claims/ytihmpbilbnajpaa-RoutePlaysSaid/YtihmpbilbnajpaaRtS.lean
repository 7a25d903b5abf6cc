/-
  Routes: the table in memory; has, Add, Drop: the walks. No conditions.
-/
import Derived.Test.YtihmpbilbnajpaaRtQ
import Derived.Test.YtihmpbilbnajpaaRtI
namespace Go.Proofs.Ytihmpbilbnajpaa
open Go.RowKit Go.Maps
open Ix
open Rt (R)
set_option linter.unusedVariables false
set_option linter.unusedSimpArgs false
section
variable {P : Program} {a : Act} {o : Oper} {W : World}
theorem exec_mlen {x : Operand} {u r : Value} {t : TypeId} (ho : o.op = .call { callee := .builtin .len, args := #[x], argTypes := #[t] }) (hx : a.eval x = u) (hr : (Builtin.len_ #[t] o.type #[u]).run P W = .ok r W) : (execOp a.eval o).run P W = .ok (.value r) W := by
  unfold execOp
  simp only [ho, resolve, invoke, builtin, Sem.run_bind, Sem.run_pure, Result.andThen_ok, List.map_toArray, List.map_cons, List.map_nil, hx, hr]
theorem exec_mdel {x y : Operand} {u v r : Value} {t k : TypeId} {W' : World} (ho : o.op = .call { callee := .builtin .delete, args := #[x, y], argTypes := #[t, k] }) (hx : a.eval x = u) (hy : a.eval y = v) (hr : (Builtin.delete_ #[t, k] o.type #[u, v]).run P W = .ok r W') : (execOp a.eval o).run P W = .ok (.value r) W' := by
  unfold execOp
  simp only [ho, resolve, invoke, builtin, Sem.run_bind, Sem.run_pure, Result.andThen_ok, List.map_toArray, List.map_cons, List.map_nil, hx, hy, hr]
theorem wpList_mput {ops : Array Oper} {rest : List Oper} {Q : Exit → Act → World → Prop} {w' : World} {m x v : Operand} {M k u : Value} {t : TypeId} (hgd : Region.wanted o (yielded ops a.tmps) = true) (ho : o.op = .mapUpdate t m x v) (hm : a.eval m = M) (hx : a.eval x = k) (hv : a.eval v = u)
    (hrun : (Instr.mapUpdate t M k u).run P W = .ok () w') (hK : wpList P ops Q rest (a.put o.dst undef) w') : wpList P ops Q (o :: rest) a W :=
  wpList_step fun K' hK' => by
    rw [if_pos hgd]
    unfold Oper.wp
    simp [execOp, ho, hm, hx, hv, hrun, Result.andThen]
    exact hK' _ _ hK
end
def RtV.val (e : RtV) : Value := .slice e.A e.n e.c
def LB (es : List RtV) : Nat → Prop := fun b => ∃ e ∈ es, e.val.ownBlock = some b
def kvs (es : List RtV) : List (Key × Value) := es.map fun e => (e.pre, e.val)
/-- a table in memory: its block, its map's, its lists' -/
structure Tb (w : World) (t mb : Nat) (m : Int) (es : List RtV) : Prop where
  blk : Blk w t 57 #[.int .i64 m, .map (some mb)]
  mp : Mp w tK mb (kvs es)
  its : ∀ e ∈ es, e.ok w ∧ Orw w 0 3 1 e.val (e.to_.map one1)
  srt : Rt.Srt (es.map RtV.plain)
  len : es.length ≤ 32
  short : ∀ e ∈ es, e.to_.length ≤ 6
  pok : ∀ e ∈ es, Rt.prefOk e.pre = true
theorem tK_lt (x y : Key) : (tK : KK Try.prog 9 Key).lt x y = klt x y := rfl
theorem kvs_srt {es : List RtV} (h : Rt.Srt (es.map RtV.plain)) : (kvs es).Pairwise fun x y => (tK : KK Try.prog 9 Key).lt x.1 y.1 = true := by
  unfold kvs
  rw [List.pairwise_map]
  have h : (es.map RtV.plain).Pairwise fun a b => klt a.1 b.1 = true := h
  rw [List.pairwise_map] at h
  exact h
theorem kvs_len (es : List RtV) : (kvs es).length = es.length := by unfold kvs; rw [List.length_map]
theorem Tb.ne {w : World} {t mb : Nat} {m : Int} {es : List RtV} (h : Tb w t mb m es) : t ≠ mb := h.mp.ne h.blk
theorem Tb.lne {w : World} {t mb : Nat} {m : Int} {es : List RtV} (h : Tb w t mb m es) {b : Nat} (hb : LB es b) : b ≠ t ∧ b ≠ mb ∧ b < w.heap.size := by
  obtain ⟨e, he, hb⟩ := hb
  have ho := (h.its e he).2
  obtain ⟨cur, hc⟩ := ho.own_blk hb
  exact ⟨fun e => by subst e; exact absurd (Blk.ty hc h.blk) (by decide), h.mp.ne hc, hc.lt⟩
theorem Tb.turn {w w' : World} {G : Nat → Prop} {t mb : Nat} {m : Int} {es : List RtV} (h : Tb w t mb m es) (ht : Turn G w w') (h1 : ¬ G t) (h2 : ¬ G mb) (h3 : ∀ b, LB es b → ¬ G b) : Tb w' t mb m es :=
  ⟨h.blk.turn ht h1, h.mp.turn ht h2, fun e he => ⟨(Its.turn (h.its e he) ht fun b hb => h3 b ⟨e, he, hb⟩).1, (h.its e he).2.turn ht fun b hb => h3 b ⟨e, he, hb⟩⟩, h.srt, h.len, h.short, h.pok⟩
theorem Tb.still {w w' : World} {t mb : Nat} {m : Int} {es : List RtV} (h : Tb w t mb m es) (ht : Turn nowhere w w') : Tb w' t mb m es := h.turn ht (fun e => e) (fun e => e) fun _ _ e => e
theorem tkeys {es : List RtV} {p : Key} (h : ¬ Rt.has p (es.map RtV.plain)) : ∀ y ∈ kvs es, y.1 ≠ p := fun y hy e => by
  obtain ⟨x, hx, rfl⟩ := List.mem_map.1 hy
  exact h ⟨x.plain, List.mem_map_of_mem hx, e⟩
theorem thas {es : List RtV} {p : Key} (h : Rt.has p (es.map RtV.plain)) : ∃ x ∈ es, x.pre = p := by
  obtain ⟨y, hy, e⟩ := h
  obtain ⟨x, hx, rfl⟩ := List.mem_map.1 hy
  exact ⟨x, hx, e⟩
theorem Tb.look {w : World} {t mb : Nat} {m : Int} {es : List RtV} (h : Tb w t mb m es) {x : RtV} (hx : x ∈ es) {p : Key} (hp : x.pre = p) : (Instr.lookup 55 (.map (some mb)) (strV p) true).run Try.prog w = .ok (.tuple #[x.val, .bool true]) w := by
  subst hp
  exact h.mp.look (x := (x.pre, x.val)) Try.underlying55 (zero_ints w) (List.mem_map.2 ⟨x, hx, rfl⟩)
theorem Tb.get {w : World} {t mb : Nat} {m : Int} {es : List RtV} (h : Tb w t mb m es) {x : RtV} (hx : x ∈ es) {p : Key} (hp : x.pre = p) : (Instr.lookup 55 (.map (some mb)) (strV p) false).run Try.prog w = .ok x.val w := by
  subst hp
  exact h.mp.get (x := (x.pre, x.val)) Try.underlying55 (zero_ints w) (List.mem_map.2 ⟨x, hx, rfl⟩)
theorem Tb.lookNo {w : World} {t mb : Nat} {m : Int} {es : List RtV} (h : Tb w t mb m es) {p : Key} (hl : p.length ≤ maxLen) (hp : ¬ Rt.has p (es.map RtV.plain)) : (Instr.lookup 55 (.map (some mb)) (strV p) true).run Try.prog w = .ok (.tuple #[.slice none 0 0, .bool false]) w :=
  h.mp.lookNo (x := p) Try.underlying55 (zero_ints w) hl (tkeys hp)
theorem Tb.far {w w' : World} {t mb : Nat} {m : Int} {es : List RtV} (h : Tb w t mb m es) (ht : Turn (only mb) w w') {b : Nat} (hb : LB es b) : ¬ only mb b := fun e => (h.lne hb).2.1 e
/-- the entry that Add puts in -/
theorem Tb.put {w : World} {t mb : Nat} {m : Int} {es : List RtV} {r : RtV} (h : Tb w t mb m es) (hr : r.ok w ∧ Orw w 0 3 1 r.val (r.to_.map one1)) (hp : ¬ Rt.has r.pre (es.map RtV.plain)) (hl : es.length ≠ 32) (h6 : r.to_.length ≤ 6) (h7 : Rt.prefOk r.pre = true) :
    ∃ w', (Instr.mapUpdate 55 (.map (some mb)) (strV r.pre) r.val).run Try.prog w = .ok () w' ∧ Turn (only mb) w w' ∧ ∃ es', Tb w' t mb m es' ∧ es'.map RtV.plain = Rt.ins r.pre r.to_ (es.map RtV.plain) ∧ ∀ b, LB es' b → LB es b ∨ r.val.ownBlock = some b := by
  obtain ⟨k, hk⟩ : ∃ k, k = Rt.pos r.pre (es.map RtV.plain) := ⟨_, rfl⟩
  have hpl : (es.take k ++ r :: es.drop k).map RtV.plain = Rt.ins r.pre r.to_ (es.map RtV.plain) := by
    unfold Rt.ins
    rw [← hk, List.map_append, List.map_cons, List.map_take, List.map_drop]
    rfl
  have hs : Rt.Srt ((es.take k ++ r :: es.drop k).map RtV.plain) := by rw [hpl]; exact Rt.ins_srt h.srt hp
  have hm : ∀ x, x ∈ es.take k ++ r :: es.drop k ↔ x = r ∨ x ∈ es := fun x => by
    conv => rhs; rw [← List.take_append_drop k es]
    simp only [List.mem_append, List.mem_cons]
    constructor
    · rintro (h | h | h)
      · exact .inr (.inl h)
      · exact .inl h
      · exact .inr (.inr h)
    · rintro (h | h | h)
      · exact .inr (.inl h)
      · exact .inl h
      · exact .inr (.inr h)
  have hlen : (es.take k ++ r :: es.drop k).length = es.length + 1 := by
    rw [List.length_append, List.length_cons, List.length_take, List.length_drop]
    have : k ≤ es.length := by rw [hk]; have := Rt.pos_le r.pre (es.map RtV.plain); rwa [List.length_map] at this
    omega
  obtain ⟨w', hrun, hmp, ht⟩ := h.mp.put (x := r.pre) (l' := kvs (es.take k ++ r :: es.drop k)) Try.underlying55 (by rw [kvs_len]; have := h.len; unfold maxLen; omega) (by show r.pre.length ≤ maxLen; exact hr.1.pl) r.val (kvs_srt hs) fun p => by
    unfold kvs
    simp only [List.mem_map, hm]
    constructor
    · rintro ⟨x, rfl | hx, rfl⟩
      · exact .inl rfl
      · exact .inr ⟨tkeys hp _ (List.mem_map_of_mem hx), x, hx, rfl⟩
    · rintro (rfl | ⟨_, x, hx, rfl⟩)
      · exact ⟨r, .inl rfl, rfl⟩
      · exact ⟨x, .inr hx, rfl⟩
  refine ⟨w', hrun, ht, _, ⟨h.blk.turn ht h.ne, hmp, fun e he => ?_, hs, by rw [hlen]; have := h.len; omega, fun e he => ?_, fun e he => ?_⟩, hpl, fun b hb => ?_⟩
  · rcases (hm e).1 he with rfl | he
    · have hn : ∀ b, e.val.ownBlock = some b → ¬ only mb b := fun b hb e9 => by
        obtain ⟨cur, hc⟩ := hr.2.own_blk hb
        exact h.mp.ne hc e9
      exact ⟨(Its.turn hr ht hn).1, hr.2.turn ht hn⟩
    · exact ⟨(Its.turn (h.its e he) ht fun b hb => h.far ht ⟨e, he, hb⟩).1, (h.its e he).2.turn ht fun b hb => h.far ht ⟨e, he, hb⟩⟩
  · rcases (hm e).1 he with rfl | he
    · exact h6
    · exact h.short e he
  · rcases (hm e).1 he with rfl | he
    · exact h7
    · exact h.pok e he
  · obtain ⟨e, he, hb⟩ := hb
    rcases (hm e).1 he with rfl | he
    · exact .inr hb
    · exact .inl ⟨e, he, hb⟩
theorem Tb.del {w : World} {t mb : Nat} {m : Int} {es : List RtV} {p : Key} (h : Tb w t mb m es) (hl : p.length ≤ maxLen) (ty : TypeId) :
    ∃ w', (Builtin.delete_ #[55, 9] ty #[.map (some mb), strV p]).run Try.prog w = .ok (.tuple #[]) w' ∧ Turn (only mb) w w' ∧ ∃ es', Tb w' t mb m es' ∧ es'.map RtV.plain = Rt.dropL (es.map RtV.plain) p ∧ ∀ b, LB es' b → LB es b := by
  have hpl : (es.filter fun e => e.pre != p).map RtV.plain = Rt.dropL (es.map RtV.plain) p := by
    unfold Rt.dropL
    rw [List.filter_map]
    rfl
  have hs : Rt.Srt ((es.filter fun e => e.pre != p).map RtV.plain) := by rw [hpl]; exact Rt.drop_srt h.srt p
  have hm : ∀ x, x ∈ es.filter (fun e => e.pre != p) → x ∈ es := fun x hx => (List.mem_filter.1 hx).1
  obtain ⟨w', hrun, hmp, ht⟩ := h.mp.del (x := p) (l' := kvs (es.filter fun e => e.pre != p)) Try.underlying55 hl ty (kvs_srt hs) fun q => by
    unfold kvs
    simp only [List.mem_map, List.mem_filter, bne_iff_ne, ne_eq]
    constructor
    · rintro ⟨x, ⟨hx, hn⟩, rfl⟩
      exact ⟨hn, x, hx, rfl⟩
    · rintro ⟨hn, x, hx, rfl⟩
      exact ⟨x, ⟨hx, hn⟩, rfl⟩
  exact ⟨w', hrun, ht, _, ⟨h.blk.turn ht h.ne, hmp, fun e he => ⟨(Its.turn (h.its e (hm e he)) ht fun b hb => h.far ht ⟨e, hm e he, hb⟩).1, (h.its e (hm e he)).2.turn ht fun b hb => h.far ht ⟨e, hm e he, hb⟩⟩, hs, Nat.le_trans (List.length_filter_le _ _) h.len, fun e he => h.short e (hm e he), fun e he => h.pok e (hm e he)⟩, hpl, fun b hb => by
    obtain ⟨e, he, hb⟩ := hb
    exact ⟨e, hm e he, hb⟩⟩
set_option maxRecDepth 20000 in
set_option maxHeartbeats 4000000 in
theorem has_walk {w : World} {t mb : Nat} {m : Int} {es : List RtV} {p : Key} (h : Tb w t mb m es) (hp : p.length ≤ 9223372036854775807) :
    Calls Try.prog 26 #[.pointer (some ⟨t, 0, none⟩), strV p] w fun e w' => e = .returned (.bool (decide (Rt.has p (es.map RtV.plain)))) ∧ Turn nowhere w w' := by
  have HT := Lib.hid h
  by_cases hh : Rt.has p (es.map RtV.plain)
  · obtain ⟨x, hx, hxp⟩ := thas hh
    have HL := Lib.hid (h.look hx hxp)
    have HH := Lib.hid hh
    clear h hp hx hxp hh
    go_enter Try.func26, Try.ntmps26
    go_upto_region 0 with fail
    refine wp_region_lit ?_
    refine wpList_run (v := .bool false) (wanted_none rfl) (gx_assign rfl rfl) ?_
    simp only [Act.put, List.setIfInBounds_toArray, List.set_cons_zero, List.set_cons_succ]
    go_upto_region 1 with fail
    refine wp_region_lit ?_
    refine wpList_run (v := .pointer (some ⟨t, 0, none⟩)) (wanted_none rfl) (exec_move rfl rfl) ?_
    simp only [Act.put, List.setIfInBounds_toArray, List.set_cons_zero, List.set_cons_succ]
    refine wpList_run (v := .pointer (some ⟨t, 0, none⟩)) (wanted_none rfl) (exec_nil rfl rfl) ?_
    simp only [Act.put, List.setIfInBounds_toArray, List.set_cons_zero, List.set_cons_succ]
    refine wpList_run (v := .pointer (some ⟨t, 1, none⟩)) (wanted_none rfl) (exec_field (off := 0) (d := 1) rfl rfl (by kernel_rfl)) ?_
    simp only [Act.put, List.setIfInBounds_toArray, List.set_cons_zero, List.set_cons_succ]
    refine wpList_run (v := .map (some mb)) (wanted_none rfl) (exec_load1 rfl rfl (by kernel_rfl) (HT.out.blk.cell 1)) ?_
    simp only [Act.put, List.setIfInBounds_toArray, List.set_cons_zero, List.set_cons_succ]
    refine wpList_run (v := strV p) (wanted_none rfl) (exec_move rfl rfl) ?_
    simp only [Act.put, List.setIfInBounds_toArray, List.set_cons_zero, List.set_cons_succ]
    refine wpList_run (v := .tuple #[x.val, .bool true]) (wanted_none rfl) (exec_lookup rfl rfl rfl HL.out) ?_
    simp only [Act.put, List.setIfInBounds_toArray, List.set_cons_zero, List.set_cons_succ]
    refine wpList_run (v := .tuple #[x.val, .bool true]) (wanted_none rfl) (exec_move rfl rfl) ?_
    simp only [Act.put, List.setIfInBounds_toArray, List.set_cons_zero, List.set_cons_succ]
    refine wpList_run (v := x.val) (wanted_none rfl) (ix_extract rfl rfl rfl) ?_
    simp only [Act.put, List.setIfInBounds_toArray, List.set_cons_zero, List.set_cons_succ]
    refine wpList_run (v := .bool true) (wanted_none rfl) (ix_extract rfl rfl rfl) ?_
    simp only [Act.put, List.setIfInBounds_toArray, List.set_cons_zero, List.set_cons_succ]
    refine wpList_run (v := x.val) (wanted_none rfl) (gx_assign rfl rfl) ?_
    simp only [Act.put, List.setIfInBounds_toArray, List.set_cons_zero, List.set_cons_succ]
    refine wpList_run (v := .bool true) (wanted_none rfl) (gx_assign rfl rfl) ?_
    simp only [Act.put, List.setIfInBounds_toArray, List.set_cons_zero, List.set_cons_succ]
    go_upto_region 2 with fail
    refine wp_region_lit ?_
    refine wpList_run (v := .bool true) (wanted_none rfl) (exec_move rfl rfl) ?_
    simp only [Act.put, List.setIfInBounds_toArray, List.set_cons_zero, List.set_cons_succ]
    refine wpList_run (v := .bool true) (wanted_none rfl) (gx_assign rfl rfl) ?_
    simp only [Act.put, List.setIfInBounds_toArray, List.set_cons_zero, List.set_cons_succ]
    go_wp2_with fail
    go_ret
    rw [decide_eq_true HH.out]
    exact ⟨rfl, Turn.refl _ _⟩
  · have HL := Lib.hid (h.lookNo hp hh)
    have HH := Lib.hid hh
    clear h hp hh
    go_enter Try.func26, Try.ntmps26
    go_upto_region 0 with fail
    refine wp_region_lit ?_
    refine wpList_run (v := .bool false) (wanted_none rfl) (gx_assign rfl rfl) ?_
    simp only [Act.put, List.setIfInBounds_toArray, List.set_cons_zero, List.set_cons_succ]
    go_upto_region 1 with fail
    refine wp_region_lit ?_
    refine wpList_run (v := .pointer (some ⟨t, 0, none⟩)) (wanted_none rfl) (exec_move rfl rfl) ?_
    simp only [Act.put, List.setIfInBounds_toArray, List.set_cons_zero, List.set_cons_succ]
    refine wpList_run (v := .pointer (some ⟨t, 0, none⟩)) (wanted_none rfl) (exec_nil rfl rfl) ?_
    simp only [Act.put, List.setIfInBounds_toArray, List.set_cons_zero, List.set_cons_succ]
    refine wpList_run (v := .pointer (some ⟨t, 1, none⟩)) (wanted_none rfl) (exec_field (off := 0) (d := 1) rfl rfl (by kernel_rfl)) ?_
    simp only [Act.put, List.setIfInBounds_toArray, List.set_cons_zero, List.set_cons_succ]
    refine wpList_run (v := .map (some mb)) (wanted_none rfl) (exec_load1 rfl rfl (by kernel_rfl) (HT.out.blk.cell 1)) ?_
    simp only [Act.put, List.setIfInBounds_toArray, List.set_cons_zero, List.set_cons_succ]
    refine wpList_run (v := strV p) (wanted_none rfl) (exec_move rfl rfl) ?_
    simp only [Act.put, List.setIfInBounds_toArray, List.set_cons_zero, List.set_cons_succ]
    refine wpList_run (v := .tuple #[.slice none 0 0, .bool false]) (wanted_none rfl) (exec_lookup rfl rfl rfl HL.out) ?_
    simp only [Act.put, List.setIfInBounds_toArray, List.set_cons_zero, List.set_cons_succ]
    refine wpList_run (v := .tuple #[.slice none 0 0, .bool false]) (wanted_none rfl) (exec_move rfl rfl) ?_
    simp only [Act.put, List.setIfInBounds_toArray, List.set_cons_zero, List.set_cons_succ]
    refine wpList_run (v := .slice none 0 0) (wanted_none rfl) (ix_extract rfl rfl rfl) ?_
    simp only [Act.put, List.setIfInBounds_toArray, List.set_cons_zero, List.set_cons_succ]
    refine wpList_run (v := .bool false) (wanted_none rfl) (ix_extract rfl rfl rfl) ?_
    simp only [Act.put, List.setIfInBounds_toArray, List.set_cons_zero, List.set_cons_succ]
    refine wpList_run (v := .slice none 0 0) (wanted_none rfl) (gx_assign rfl rfl) ?_
    simp only [Act.put, List.setIfInBounds_toArray, List.set_cons_zero, List.set_cons_succ]
    refine wpList_run (v := .bool false) (wanted_none rfl) (gx_assign rfl rfl) ?_
    simp only [Act.put, List.setIfInBounds_toArray, List.set_cons_zero, List.set_cons_succ]
    go_upto_region 2 with fail
    refine wp_region_lit ?_
    refine wpList_run (v := .bool false) (wanted_none rfl) (exec_move rfl rfl) ?_
    simp only [Act.put, List.setIfInBounds_toArray, List.set_cons_zero, List.set_cons_succ]
    refine wpList_run (v := .bool false) (wanted_none rfl) (gx_assign rfl rfl) ?_
    simp only [Act.put, List.setIfInBounds_toArray, List.set_cons_zero, List.set_cons_succ]
    go_wp2_with fail
    go_ret
    rw [decide_eq_false HH.out]
    exact ⟨rfl, Turn.refl _ _⟩
set_option maxRecDepth 20000 in
set_option maxHeartbeats 4000000 in
theorem Drop_walk {w : World} {t mb : Nat} {m : Int} {es : List RtV} {p : Key} (h : Tb w t mb m es) (hp : p.length ≤ 9223372036854775807) :
    Calls Try.prog 16 #[.pointer (some ⟨t, 0, none⟩), strV p] w fun e w' => e = .returned (.int .i64 (Rt.dropE (es.map RtV.plain) p)) ∧ ∃ es', Tb w' t mb m es' ∧ es'.map RtV.plain = Rt.dropL (es.map RtV.plain) p ∧ (∀ b, LB es' b → LB es b) ∧ Turn (only mb) w w' := by
  have HT := Lib.hid h
  have HP := Lib.hid hp
  have HHW := Lib.hid (has_walk h hp)
  by_cases hh : Rt.has p (es.map RtV.plain)
  · rw [decide_eq_true hh] at HHW
    have HE := Lib.hid (show Rt.dropE (es.map RtV.plain) p = 0 from if_pos hh)
    clear h hp hh
    go_enter Try.func16, Try.ntmps16
    go_upto_region 0 with fail
    refine wp_region_lit ?_
    refine wpList_run (v := .int .i64 0) (wanted_none rfl) (gx_assign rfl rfl) ?_
    simp only [Act.put, List.setIfInBounds_toArray, List.set_cons_zero, List.set_cons_succ]
    go_upto_region 1 with fail
    refine wp_region_lit ?_
    refine wpList_run (v := .pointer (some ⟨t, 0, none⟩)) (wanted_none rfl) (exec_move rfl rfl) ?_
    simp only [Act.put, List.setIfInBounds_toArray, List.set_cons_zero, List.set_cons_succ]
    refine wpList_run (v := strV p) (wanted_none rfl) (exec_move rfl rfl) ?_
    simp only [Act.put, List.setIfInBounds_toArray, List.set_cons_zero, List.set_cons_succ]
    refine wpList_op rfl fun K9 HK9 => ?_
    go_wp2_with fail
    refine (HHW.out).mono ?_
    rintro e w1 ⟨rfl, ht⟩
    refine HK9.out _ _ ?_
    clear HK9
    try simp only [Act.put, List.setIfInBounds_toArray, List.set_cons_zero, List.set_cons_succ]
    have HTW := Lib.hid (HT.out.still ht)
    have HT1 := Lib.hid ht
    obtain ⟨w2, hrun, ht2, es2, htb, hpl, hlb⟩ := HTW.out.del (p := p) HP.out 0
    have HRUN := Lib.hid hrun
    have HF := Lib.hid (show ∃ es', Tb w2 t mb m es' ∧ es'.map RtV.plain = Rt.dropL (es.map RtV.plain) p ∧ (∀ b, LB es' b → LB es b) ∧ Turn (only mb) w w2 from ⟨es2, htb, hpl, hlb, (ht.mono fun _ _ e => e.elim).trans ht2 fun _ _ e => e⟩)
    clear ht hrun ht2 htb hpl hlb
    refine wpList_run (v := .bool false) (wanted_none rfl) (ix_not (b := true) rfl rfl) ?_
    simp only [Act.put, List.setIfInBounds_toArray, List.set_cons_zero, List.set_cons_succ]
    go_upto_region 3 with fail
    refine wp_region_lit ?_
    refine wpList_run (v := .pointer (some ⟨t, 0, none⟩)) (wanted_none rfl) (exec_move rfl rfl) ?_
    simp only [Act.put, List.setIfInBounds_toArray, List.set_cons_zero, List.set_cons_succ]
    refine wpList_run (v := .pointer (some ⟨t, 0, none⟩)) (wanted_none rfl) (exec_nil rfl rfl) ?_
    simp only [Act.put, List.setIfInBounds_toArray, List.set_cons_zero, List.set_cons_succ]
    refine wpList_run (v := .pointer (some ⟨t, 1, none⟩)) (wanted_none rfl) (exec_field (off := 0) (d := 1) rfl rfl (by kernel_rfl)) ?_
    simp only [Act.put, List.setIfInBounds_toArray, List.set_cons_zero, List.set_cons_succ]
    refine wpList_run (v := .map (some mb)) (wanted_none rfl) (exec_load1 rfl rfl (by kernel_rfl) (HTW.out.blk.cell 1)) ?_
    simp only [Act.put, List.setIfInBounds_toArray, List.set_cons_zero, List.set_cons_succ]
    refine wpList_run (v := strV p) (wanted_none rfl) (exec_move rfl rfl) ?_
    simp only [Act.put, List.setIfInBounds_toArray, List.set_cons_zero, List.set_cons_succ]
    refine wpList_run (v := .tuple #[]) (w' := w2) (wanted_none rfl) (exec_mdel rfl rfl rfl HRUN.out) ?_
    simp only [Act.put, List.setIfInBounds_toArray, List.set_cons_zero, List.set_cons_succ]
    go_upto_region 4 with fail
    refine wp_region_lit ?_
    refine wpList_run (v := .int .i64 0) (wanted_none rfl) (gx_assign rfl rfl) ?_
    simp only [Act.put, List.setIfInBounds_toArray, List.set_cons_zero, List.set_cons_succ]
    go_wp2_with fail
    go_ret
    rw [HE.out]
    exact ⟨rfl, HF.out⟩
  · rw [decide_eq_false hh] at HHW
    have HE := Lib.hid (show Rt.dropE (es.map RtV.plain) p = 113 from if_neg hh)
    have HDL := Lib.hid (dropL_no hh)
    clear h hp hh
    go_enter Try.func16, Try.ntmps16
    go_upto_region 0 with fail
    refine wp_region_lit ?_
    refine wpList_run (v := .int .i64 0) (wanted_none rfl) (gx_assign rfl rfl) ?_
    simp only [Act.put, List.setIfInBounds_toArray, List.set_cons_zero, List.set_cons_succ]
    go_upto_region 1 with fail
    refine wp_region_lit ?_
    refine wpList_run (v := .pointer (some ⟨t, 0, none⟩)) (wanted_none rfl) (exec_move rfl rfl) ?_
    simp only [Act.put, List.setIfInBounds_toArray, List.set_cons_zero, List.set_cons_succ]
    refine wpList_run (v := strV p) (wanted_none rfl) (exec_move rfl rfl) ?_
    simp only [Act.put, List.setIfInBounds_toArray, List.set_cons_zero, List.set_cons_succ]
    refine wpList_op rfl fun K9 HK9 => ?_
    go_wp2_with fail
    refine (HHW.out).mono ?_
    rintro e w1 ⟨rfl, ht⟩
    refine HK9.out _ _ ?_
    clear HK9
    try simp only [Act.put, List.setIfInBounds_toArray, List.set_cons_zero, List.set_cons_succ]
    have HTW := Lib.hid (HT.out.still ht)
    have HT1 := Lib.hid ht
    clear ht
    refine wpList_run (v := .bool true) (wanted_none rfl) (ix_not (b := false) rfl rfl) ?_
    simp only [Act.put, List.setIfInBounds_toArray, List.set_cons_zero, List.set_cons_succ]
    go_upto_region 2 with fail
    refine wp_region_lit ?_
    refine wpList_run (v := .int .i64 113) (wanted_none rfl) (gx_assign rfl rfl) ?_
    simp only [Act.put, List.setIfInBounds_toArray, List.set_cons_zero, List.set_cons_succ]
    go_wp2_with fail
    go_ret
    rw [HE.out]
    exact ⟨rfl, es, HTW.out, HDL.out.symm, fun _ h => h, HT1.out.mono fun _ _ e => e.elim⟩
theorem prefLen {p : Key} (h : Rt.prefOk p = true) : p.length ≤ 8 := by
  unfold Rt.prefOk at h
  simp only [Bool.and_eq_true, decide_eq_true_eq] at h
  exact h.2.2
theorem boxRt (r : RtV) (w : World) : (Instr.box 38 (.agg r.cells.toArray)).run Try.prog w = .ok (.pointer (some ⟨w.heap.size, 0, none⟩)) (w.alloc (.cells r.cells.toArray 38)) := by kernel_rfl
set_option maxRecDepth 20000 in
set_option maxHeartbeats 4000000 in
theorem Add_walk {w : World} {t mb : Nat} {m : Int} {es : List RtV} {r : RtV} (h : Tb w t mb m es) (hr : r.ok w) :
    Calls Try.prog 14 #[.pointer (some ⟨t, 0, none⟩), .agg r.cells.toArray] w fun e w' => e = .returned (.int .i64 (Rt.addE m (es.map RtV.plain) r.pre r.to_)) ∧ ∃ es', Tb w' t mb m es' ∧ es'.map RtV.plain = Rt.addL m (es.map RtV.plain) r.pre r.to_ ∧ (∀ b, LB es' b → LB es b ∨ w.heap.size ≤ b) ∧ Turn (only mb) w w' := by
  obtain ⟨E, hE⟩ : ∃ E, E = Rt.addE m (es.map RtV.plain) r.pre r.to_ := ⟨_, rfl⟩
  have HE := Lib.hid hE
  have ha := (Turn.refl nowhere w).alloc (.cells r.cells.toArray 38)
  have hb0 := Blk.new w 38 r.cells.toArray
  have hbx := boxRt r w
  obtain ⟨g, hg⟩ : ∃ g, g = w.heap.size := ⟨_, rfl⟩
  rw [← hg] at hb0 hbx
  generalize w.alloc (.cells r.cells.toArray 38) = w0 at *
  have HG := Lib.hid hg
  have HB := Lib.hid (show Blk w0 g 38 #[strV r.pre, .slice r.A r.n r.c] from hb0)
  have HBX := Lib.hid hbx
  have HA := Lib.hid ha
  have HT := Lib.hid (h.still ha)
  have HR := Lib.hid (hr.still ha)
  have HNO := Lib.hid (show ∀ w', E ≠ 0 → Turn nowhere w w' → ∃ es', Tb w' t mb m es' ∧ es'.map RtV.plain = Rt.addL m (es.map RtV.plain) r.pre r.to_ ∧ (∀ b, LB es' b → LB es b ∨ w.heap.size ≤ b) ∧ Turn (only mb) w w' from fun w' h0 ht => ⟨es, h.still ht, (Rt.addL_no (by rw [← hE]; exact h0)).symm, fun b hb => .inl hb, ht.mono fun _ _ e => e.elim⟩)
  rw [← hE]
  clear h hr ha hb0 hbx hg hE
  go_enter Try.func14, Try.ntmps14
  go_upto_region 0 with fail
  refine wp_region_lit ?_
  refine wpList_run (v := .pointer (some ⟨g, 0, none⟩)) (w' := w0) (wanted_none rfl) (gx_box rfl rfl HBX.out) ?_
  simp only [Act.put, List.setIfInBounds_toArray, List.set_cons_zero, List.set_cons_succ]
  refine wpList_run (v := .int .i64 0) (wanted_none rfl) (gx_assign rfl rfl) ?_
  simp only [Act.put, List.setIfInBounds_toArray, List.set_cons_zero, List.set_cons_succ]
  go_upto_region 1 with fail
  refine wp_region_lit ?_
  refine wpList_run (v := .pointer (some ⟨g, 0, none⟩)) (wanted_none rfl) (exec_field (off := 0) (d := 0) rfl rfl (by kernel_rfl)) ?_
  simp only [Act.put, List.setIfInBounds_toArray, List.set_cons_zero, List.set_cons_succ]
  refine wpList_run (v := strV r.pre) (wanted_none rfl) (exec_load1 rfl rfl (by kernel_rfl) (HB.out.cell 0)) ?_
  simp only [Act.put, List.setIfInBounds_toArray, List.set_cons_zero, List.set_cons_succ]
  by_cases hpf : Rt.prefOk r.pre = true
  · have HC := Lib.hid (isPrefix_walk (w := w0) (p := r.pre) HR.out.pl)
    rw [hpf] at HC
    have HPF := Lib.hid hpf
    clear hpf
    refine wpList_op rfl fun K9 HK9 => ?_
    go_wp2_with fail
    refine (HC.out).mono ?_
    rintro e w1 ⟨rfl, rfl⟩
    refine HK9.out _ _ ?_
    clear HK9
    try simp only [Act.put, List.setIfInBounds_toArray, List.set_cons_zero, List.set_cons_succ]
    refine wpList_run (v := .bool false) (wanted_none rfl) (ix_not (b := true) rfl rfl) ?_
    simp only [Act.put, List.setIfInBounds_toArray, List.set_cons_zero, List.set_cons_succ]
    refine wpList_run (v := .bool false) (wanted_none rfl) (gx_assign rfl rfl) ?_
    simp only [Act.put, List.setIfInBounds_toArray, List.set_cons_zero, List.set_cons_succ]
    have HM := Lib.hid (mayIssue_walk (c := r.c) HT.out.blk HR.out.ia HR.out.le)
    go_upto_region 3 with fail
    refine wp_region_lit ?_
    refine wpList_run (v := .pointer (some ⟨t, 0, none⟩)) (wanted_none rfl) (exec_move rfl rfl) ?_
    simp only [Act.put, List.setIfInBounds_toArray, List.set_cons_zero, List.set_cons_succ]
    refine wpList_run (v := .pointer (some ⟨g, 1, none⟩)) (wanted_none rfl) (exec_field (off := 0) (d := 1) rfl rfl (by kernel_rfl)) ?_
    simp only [Act.put, List.setIfInBounds_toArray, List.set_cons_zero, List.set_cons_succ]
    refine wpList_run (v := .slice r.A r.n r.c) (wanted_none rfl) (exec_load1 rfl rfl (by kernel_rfl) (HB.out.cell 1)) ?_
    simp only [Act.put, List.setIfInBounds_toArray, List.set_cons_zero, List.set_cons_succ]
    by_cases hto : Rt.toOk m r.to_
    · rw [decide_eq_true hto] at HM
      have HTO := Lib.hid hto
      clear hto
      refine wpList_op rfl fun K9 HK9 => ?_
      go_wp2_with fail
      refine (HM.out).mono ?_
      rintro e w1 ⟨rfl, ht⟩
      refine HK9.out _ _ ?_
      clear HK9
      try simp only [Act.put, List.setIfInBounds_toArray, List.set_cons_zero, List.set_cons_succ]
      have HT1 := Lib.hid (HA.out.trans ht fun _ _ e => e)
      have HTB1 := Lib.hid (HT.out.still ht)
      have HR1 := Lib.hid (HR.out.still ht)
      have HB1 := Lib.hid (HB.out.turn ht fun e => e)
      clear ht
      have HHW := Lib.hid (has_walk HTB1.out HR1.out.pl)
      refine wpList_run (v := .bool false) (wanted_none rfl) (ix_not (b := true) rfl rfl) ?_
      simp only [Act.put, List.setIfInBounds_toArray, List.set_cons_zero, List.set_cons_succ]
      refine wpList_run (v := .bool false) (wanted_none rfl) (gx_assign rfl rfl) ?_
      simp only [Act.put, List.setIfInBounds_toArray, List.set_cons_zero, List.set_cons_succ]
      go_upto_region 5 with fail
      refine wp_region_lit ?_
      refine wpList_run (v := .pointer (some ⟨t, 0, none⟩)) (wanted_none rfl) (exec_move rfl rfl) ?_
      simp only [Act.put, List.setIfInBounds_toArray, List.set_cons_zero, List.set_cons_succ]
      refine wpList_run (v := .pointer (some ⟨g, 0, none⟩)) (wanted_none rfl) (exec_field (off := 0) (d := 0) rfl rfl (by kernel_rfl)) ?_
      simp only [Act.put, List.setIfInBounds_toArray, List.set_cons_zero, List.set_cons_succ]
      refine wpList_run (v := strV r.pre) (wanted_none rfl) (exec_load1 rfl rfl (by kernel_rfl) (HB1.out.cell 0)) ?_
      simp only [Act.put, List.setIfInBounds_toArray, List.set_cons_zero, List.set_cons_succ]
      by_cases hh : Rt.has r.pre (es.map RtV.plain)
      · rw [decide_eq_true hh] at HHW
        have HE0 := Lib.hid (show E = 111 from by rw [HE.out]; unfold Rt.addE; rw [if_neg (by rw [HPF.out]; decide), if_neg (not_not_intro HTO.out), if_pos hh])
        clear hh
        refine wpList_op rfl fun K9 HK9 => ?_
        go_wp2_with fail
        refine (HHW.out).mono ?_
        rintro e w2 ⟨rfl, ht⟩
        refine HK9.out _ _ ?_
        clear HK9
        try simp only [Act.put, List.setIfInBounds_toArray, List.set_cons_zero, List.set_cons_succ]
        have HT2 := Lib.hid (HT1.out.trans ht fun _ _ e => e)
        clear ht
        refine wpList_run (v := .bool true) (wanted_none rfl) (gx_assign rfl rfl) ?_
        simp only [Act.put, List.setIfInBounds_toArray, List.set_cons_zero, List.set_cons_succ]
        go_upto_region 6 with fail
        refine wp_region_lit ?_
        refine wpList_run (v := .int .i64 111) (wanted_none rfl) (gx_assign rfl rfl) ?_
        simp only [Act.put, List.setIfInBounds_toArray, List.set_cons_zero, List.set_cons_succ]
        go_wp2_with fail
        go_ret
        rw [HE0.out]
        exact ⟨rfl, HNO.out _ (by rw [HE0.out]; decide) HT2.out⟩
      · rw [decide_eq_false hh] at HHW
        have HH := Lib.hid hh
        clear hh
        refine wpList_op rfl fun K9 HK9 => ?_
        go_wp2_with fail
        refine (HHW.out).mono ?_
        rintro e w2 ⟨rfl, ht⟩
        refine HK9.out _ _ ?_
        clear HK9
        try simp only [Act.put, List.setIfInBounds_toArray, List.set_cons_zero, List.set_cons_succ]
        have HT2 := Lib.hid (HT1.out.trans ht fun _ _ e => e)
        have HTB2 := Lib.hid (HTB1.out.still ht)
        have HR2 := Lib.hid (HR1.out.still ht)
        have HB2 := Lib.hid (HB1.out.turn ht fun e => e)
        clear ht
        have HLN := Lib.hid (HTB2.out.mp.len (e := 36) Try.underlying55 3)
        rw [kvs_len] at HLN
        refine wpList_run (v := .bool false) (wanted_none rfl) (gx_assign rfl rfl) ?_
        simp only [Act.put, List.setIfInBounds_toArray, List.set_cons_zero, List.set_cons_succ]
        by_cases hl : es.length = 32
        · have HL := Lib.hid (show ((es.length : Nat) : Int) = 32 from by omega)
          have HE0 := Lib.hid (show E = 3 from by rw [HE.out]; unfold Rt.addE; rw [if_neg (by rw [HPF.out]; decide), if_neg (not_not_intro HTO.out), if_neg HH.out, if_pos (by rw [List.length_map]; exact hl)])
          clear hl
          go_upto_region 7 with fail
          refine wp_region_lit ?_
          refine wpList_run (v := .pointer (some ⟨t, 0, none⟩)) (wanted_none rfl) (exec_move rfl rfl) ?_
          simp only [Act.put, List.setIfInBounds_toArray, List.set_cons_zero, List.set_cons_succ]
          refine wpList_run (v := .pointer (some ⟨t, 0, none⟩)) (wanted_none rfl) (exec_nil rfl rfl) ?_
          simp only [Act.put, List.setIfInBounds_toArray, List.set_cons_zero, List.set_cons_succ]
          refine wpList_run (v := .pointer (some ⟨t, 1, none⟩)) (wanted_none rfl) (exec_field (off := 0) (d := 1) rfl rfl (by kernel_rfl)) ?_
          simp only [Act.put, List.setIfInBounds_toArray, List.set_cons_zero, List.set_cons_succ]
          refine wpList_run (v := .map (some mb)) (wanted_none rfl) (exec_load1 rfl rfl (by kernel_rfl) (HTB2.out.blk.cell 1)) ?_
          simp only [Act.put, List.setIfInBounds_toArray, List.set_cons_zero, List.set_cons_succ]
          refine wpList_run (v := .int .i64 (es.length : Int)) (wanted_none rfl) (exec_mlen rfl rfl HLN.out) ?_
          simp only [Act.put, List.setIfInBounds_toArray, List.set_cons_zero, List.set_cons_succ]
          refine wpList_run (v := .bool true) (wanted_none rfl) (ix_eql rfl rfl rfl (decide_eq_true HL.out)) ?_
          simp only [Act.put, List.setIfInBounds_toArray, List.set_cons_zero, List.set_cons_succ]
          refine wpList_run (v := .bool true) (wanted_none rfl) (gx_assign rfl rfl) ?_
          simp only [Act.put, List.setIfInBounds_toArray, List.set_cons_zero, List.set_cons_succ]
          go_upto_region 8 with fail
          refine wp_region_lit ?_
          refine wpList_run (v := .int .i64 3) (wanted_none rfl) (gx_assign rfl rfl) ?_
          simp only [Act.put, List.setIfInBounds_toArray, List.set_cons_zero, List.set_cons_succ]
          go_wp2_with fail
          go_ret
          rw [HE0.out]
          exact ⟨rfl, HNO.out _ (by rw [HE0.out]; decide) HT2.out⟩
        · have HL := Lib.hid hl
          have HE0 := Lib.hid (show E = 0 from by rw [HE.out]; unfold Rt.addE; rw [if_neg (by rw [HPF.out]; decide), if_neg (not_not_intro HTO.out), if_neg HH.out, if_neg (by rw [List.length_map]; exact hl)])
          clear hl
          go_upto_region 7 with fail
          refine wp_region_lit ?_
          refine wpList_run (v := .pointer (some ⟨t, 0, none⟩)) (wanted_none rfl) (exec_move rfl rfl) ?_
          simp only [Act.put, List.setIfInBounds_toArray, List.set_cons_zero, List.set_cons_succ]
          refine wpList_run (v := .pointer (some ⟨t, 0, none⟩)) (wanted_none rfl) (exec_nil rfl rfl) ?_
          simp only [Act.put, List.setIfInBounds_toArray, List.set_cons_zero, List.set_cons_succ]
          refine wpList_run (v := .pointer (some ⟨t, 1, none⟩)) (wanted_none rfl) (exec_field (off := 0) (d := 1) rfl rfl (by kernel_rfl)) ?_
          simp only [Act.put, List.setIfInBounds_toArray, List.set_cons_zero, List.set_cons_succ]
          refine wpList_run (v := .map (some mb)) (wanted_none rfl) (exec_load1 rfl rfl (by kernel_rfl) (HTB2.out.blk.cell 1)) ?_
          simp only [Act.put, List.setIfInBounds_toArray, List.set_cons_zero, List.set_cons_succ]
          refine wpList_run (v := .int .i64 (es.length : Int)) (wanted_none rfl) (exec_mlen rfl rfl HLN.out) ?_
          simp only [Act.put, List.setIfInBounds_toArray, List.set_cons_zero, List.set_cons_succ]
          refine wpList_run (v := .bool false) (wanted_none rfl) (ix_eql rfl rfl rfl (decide_eq_false (fun h => HL.out (by omega)))) ?_
          simp only [Act.put, List.setIfInBounds_toArray, List.set_cons_zero, List.set_cons_succ]
          refine wpList_run (v := .bool false) (wanted_none rfl) (gx_assign rfl rfl) ?_
          simp only [Act.put, List.setIfInBounds_toArray, List.set_cons_zero, List.set_cons_succ]
          go_upto_region 9 with fail
          refine wp_region_till (fun W => Blk W t 57 #[.int .i64 m, .map (some mb)] ∧ Blk W g 38 #[strV r.pre, .slice r.A r.n r.c]) 10 (by kernel_rfl) ?_
          have htd : Turn nowhere w2 w2.drew := (Turn.refl nowhere w2).drew
          obtain ⟨wd, hwd⟩ : ∃ v, v = w2.drew := ⟨_, rfl⟩
          rw [← hwd] at htd ⊢
          clear hwd
          have HT2d := Lib.hid (HT2.out.trans htd fun _ _ e => e)
          have HTB2d := Lib.hid (HTB2.out.still htd)
          have HR2d := Lib.hid (HR2.out.still htd)
          have hS0 : Blk wd t 57 #[.int .i64 m, .map (some mb)] ∧ Blk wd g 38 #[strV r.pre, .slice r.A r.n r.c] := ⟨HTB2d.out.blk, HB2.out.turn htd fun e => e⟩
          clear htd
          refine till_take (i := 0) (v := .pointer (some ⟨t, 0, none⟩)) rfl (by kernel_rfl) (by kernel_rfl) (fun _ _ _ h => h) (.inl ⟨by rfl, fun W hW => exec_move rfl rfl⟩) hS0 ?_
          simp only [Act.put, List.setIfInBounds_toArray, List.set_cons_zero, List.set_cons_succ]
          refine till_take (i := 1) (v := .pointer (some ⟨t, 0, none⟩)) rfl (by kernel_rfl) (by kernel_rfl) (fun _ _ _ h => h) (.inl ⟨by rfl, fun W hW => exec_nil rfl rfl⟩) hS0 ?_
          simp only [Act.put, List.setIfInBounds_toArray, List.set_cons_zero, List.set_cons_succ]
          refine till_take (i := 2) (v := .pointer (some ⟨t, 1, none⟩)) rfl (by kernel_rfl) (by kernel_rfl) (fun _ _ _ h => h) (.inl ⟨by rfl, fun W hW => exec_field (off := 0) (d := 1) rfl rfl (by kernel_rfl)⟩) hS0 ?_
          simp only [Act.put, List.setIfInBounds_toArray, List.set_cons_zero, List.set_cons_succ]
          refine till_take (i := 3) (v := .map (some mb)) rfl (by kernel_rfl) (by kernel_rfl) (fun _ _ _ h => h) (.inl ⟨by rfl, fun W hW => exec_load1 rfl rfl (by kernel_rfl) (hW.1.cell 1)⟩) hS0 ?_
          simp only [Act.put, List.setIfInBounds_toArray, List.set_cons_zero, List.set_cons_succ]
          refine till_take (i := 4) (v := .pointer (some ⟨g, 0, none⟩)) rfl (by kernel_rfl) (by kernel_rfl) (fun _ _ _ h => h) (.inl ⟨by rfl, fun W hW => exec_field (off := 0) (d := 0) rfl rfl (by kernel_rfl)⟩) hS0 ?_
          simp only [Act.put, List.setIfInBounds_toArray, List.set_cons_zero, List.set_cons_succ]
          refine till_take (i := 5) (v := strV r.pre) rfl (by kernel_rfl) (by kernel_rfl) (fun _ _ _ h => h) (.inl ⟨by rfl, fun W hW => exec_load1 rfl rfl (by kernel_rfl) (hW.2.cell 0)⟩) hS0 ?_
          simp only [Act.put, List.setIfInBounds_toArray, List.set_cons_zero, List.set_cons_succ]
          refine till_take (i := 7) (v := .pointer (some ⟨g, 1, none⟩)) rfl (by kernel_rfl) (by kernel_rfl) (fun _ _ _ h => h) (.inl ⟨by rfl, fun W hW => exec_field (off := 0) (d := 1) rfl rfl (by kernel_rfl)⟩) hS0 ?_
          simp only [Act.put, List.setIfInBounds_toArray, List.set_cons_zero, List.set_cons_succ]
          refine till_take (i := 8) (v := .slice r.A r.n r.c) rfl (by kernel_rfl) (by kernel_rfl) (fun _ _ _ h => h) (.inl ⟨by rfl, fun W hW => exec_load1 rfl rfl (by kernel_rfl) (hW.2.cell 1)⟩) hS0 ?_
          simp only [Act.put, List.setIfInBounds_toArray, List.set_cons_zero, List.set_cons_succ]
          have HSC := Lib.hid (clone_walk r.pre wd (by have := HR2d.out.pl; have := prefLen HPF.out; omega))
          refine till_step (i := 6) (by kernel_rfl) rfl rfl ?_
          intro K1 HK1
          go_wp2_with fail
          refine (HSC.out).mono ?_
          rintro e w3 ⟨rfl, ht3⟩
          have hS3 : Blk w3 t 57 #[.int .i64 m, .map (some mb)] ∧ Blk w3 g 38 #[strV r.pre, .slice r.A r.n r.c] := ⟨hS0.1.turn ht3 fun e => e, hS0.2.turn ht3 fun e => e⟩
          have HT3 := Lib.hid (HT2d.out.trans ht3 fun _ _ e => e)
          have HTB3 := Lib.hid (HTB2d.out.still ht3)
          have HIC := Lib.hid (iclone_walk (HR2d.out.still ht3))
          clear ht3
          refine HK1.out _ _ ⟨fun _ => hS3, ?_⟩
          clear HK1
          try simp only [Act.put, List.setIfInBounds_toArray, List.set_cons_zero, List.set_cons_succ]
          refine till_step (i := 9) (by kernel_rfl) rfl rfl ?_
          intro K1 HK1
          go_wp2_with fail
          refine (HIC.out).mono ?_
          rintro e w4 ⟨A4, c4, rfl, how, ht4, hok⟩
          have hS4 : Blk w4 t 57 #[.int .i64 m, .map (some mb)] ∧ Blk w4 g 38 #[strV r.pre, .slice r.A r.n r.c] := ⟨hS3.1.turn ht4 fun e => e, hS3.2.turn ht4 fun e => e⟩
          refine HK1.out _ _ ⟨fun _ => hS4, ?_⟩
          clear HK1
          try simp only [Act.put, List.setIfInBounds_toArray, List.set_cons_zero, List.set_cons_succ]
          obtain ⟨w5, hrun, ht5, es5, htb5, hpl5, hlb5⟩ := (HTB3.out.still ht4).put (r := ⟨r.pre, A4, r.n, c4, r.to_⟩) ⟨hok, how.less (Nat.zero_le _)⟩ HH.out HL.out HTO.out.1.2 HPF.out
          have HRUN := Lib.hid hrun
          have HF := Lib.hid (show ∃ es', Tb w5 t mb m es' ∧ es'.map RtV.plain = Rt.addL m (es.map RtV.plain) r.pre r.to_ ∧ (∀ b, LB es' b → LB es b ∨ w.heap.size ≤ b) ∧ Turn (only mb) w w5 from ⟨es5, htb5, hpl5.trans (Rt.addL_ok (by rw [← HE.out]; exact HE0.out)).symm, fun b hb => (hlb5 b hb).imp (fun h => h) fun h => Nat.le_trans HT3.out.size (how.lt h).1, ((HT3.out.trans ht4 fun _ _ e => e).mono fun _ _ e => e.elim).trans ht5 fun _ _ e => e⟩)
          clear hrun ht5 htb5 hpl5 hlb5 how ht4 hok hS0 hS3
          refine till_tail 10 rfl (by kernel_rfl) ?_
          refine wpList_mput (wanted_none rfl) rfl rfl rfl rfl HRUN.out ?_
          simp only [Act.put, List.setIfInBounds_toArray, List.set_cons_zero, List.set_cons_succ]
          refine NoPanic.normal ?_
          clear hS4
          go_upto_region 10 with fail
          refine wp_region_lit ?_
          refine wpList_run (v := .int .i64 0) (wanted_none rfl) (gx_assign rfl rfl) ?_
          simp only [Act.put, List.setIfInBounds_toArray, List.set_cons_zero, List.set_cons_succ]
          go_wp2_with fail
          go_ret
          rw [HE0.out]
          exact ⟨rfl, HF.out⟩
    · rw [decide_eq_false hto] at HM
      have HE0 := Lib.hid (show E = 112 from by rw [HE.out]; unfold Rt.addE; rw [if_neg (by rw [HPF.out]; decide), if_pos hto])
      clear hto
      refine wpList_op rfl fun K9 HK9 => ?_
      go_wp2_with fail
      refine (HM.out).mono ?_
      rintro e w1 ⟨rfl, ht⟩
      refine HK9.out _ _ ?_
      clear HK9
      try simp only [Act.put, List.setIfInBounds_toArray, List.set_cons_zero, List.set_cons_succ]
      have HT1 := Lib.hid (HA.out.trans ht fun _ _ e => e)
      clear ht
      refine wpList_run (v := .bool true) (wanted_none rfl) (ix_not (b := false) rfl rfl) ?_
      simp only [Act.put, List.setIfInBounds_toArray, List.set_cons_zero, List.set_cons_succ]
      refine wpList_run (v := .bool true) (wanted_none rfl) (gx_assign rfl rfl) ?_
      simp only [Act.put, List.setIfInBounds_toArray, List.set_cons_zero, List.set_cons_succ]
      go_upto_region 4 with fail
      refine wp_region_lit ?_
      refine wpList_run (v := .int .i64 112) (wanted_none rfl) (gx_assign rfl rfl) ?_
      simp only [Act.put, List.setIfInBounds_toArray, List.set_cons_zero, List.set_cons_succ]
      go_wp2_with fail
      go_ret
      rw [HE0.out]
      exact ⟨rfl, HNO.out _ (by rw [HE0.out]; decide) HT1.out⟩
  · have hpf : Rt.prefOk r.pre = false := by simpa using hpf
    have HC := Lib.hid (isPrefix_walk (w := w0) (p := r.pre) HR.out.pl)
    rw [hpf] at HC
    have HE0 := Lib.hid (show E = 110 from by rw [HE.out]; unfold Rt.addE; rw [if_pos hpf])
    clear hpf
    refine wpList_op rfl fun K9 HK9 => ?_
    go_wp2_with fail
    refine (HC.out).mono ?_
    rintro e w1 ⟨rfl, rfl⟩
    refine HK9.out _ _ ?_
    clear HK9
    try simp only [Act.put, List.setIfInBounds_toArray, List.set_cons_zero, List.set_cons_succ]
    refine wpList_run (v := .bool true) (wanted_none rfl) (ix_not (b := false) rfl rfl) ?_
    simp only [Act.put, List.setIfInBounds_toArray, List.set_cons_zero, List.set_cons_succ]
    refine wpList_run (v := .bool true) (wanted_none rfl) (gx_assign rfl rfl) ?_
    simp only [Act.put, List.setIfInBounds_toArray, List.set_cons_zero, List.set_cons_succ]
    go_upto_region 2 with fail
    refine wp_region_lit ?_
    refine wpList_run (v := .int .i64 110) (wanted_none rfl) (gx_assign rfl rfl) ?_
    simp only [Act.put, List.setIfInBounds_toArray, List.set_cons_zero, List.set_cons_succ]
    go_wp2_with fail
    go_ret
    rw [HE0.out]
    exact ⟨rfl, HNO.out _ (by rw [HE0.out]; decide) HA.out⟩
end Go.Proofs.Ytihmpbilbnajpaa
