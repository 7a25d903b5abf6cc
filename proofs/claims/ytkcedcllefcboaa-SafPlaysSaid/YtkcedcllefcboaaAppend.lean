/-
  A ROW OF BYTES THAT THE CALL ITSELF MADE: what it holds, and append of a slice of bytes onto it, the source nil or not. Condition: the sum of the two lengths is at most 2^47.
-/
import Derived.Test.YtkcedcllefcboaaBytes
import Derived.Laws.AppendOwnNone
import Derived.OwnWalk
namespace Go.Proofs.Ytkcedcllefcboaa
open Go.RowKit
/-- bytes as cells -/
def bcs (bs : List UInt8) : List Value := bs.map fun x => Value.int .u8 (x.toNat : Int)
theorem bcs_length (bs : List UInt8) : (bcs bs).length = bs.length := List.length_map ..
theorem bcs_append (a b : List UInt8) : bcs (a ++ b) = bcs a ++ bcs b := List.map_append ..
theorem bcs_at (bs : List UInt8) (i : Nat) (h : i < bs.length) : (bcs bs)[i]? = some (.int .u8 ((bs.getD i 0).toNat : Int)) := by
  unfold bcs
  rw [List.getElem?_map, List.getD_eq_getElem?_getD, List.getElem?_eq_getElem h]
  rfl
theorem bcs_one (bs : List UInt8) : ∀ u ∈ bcs bs, u.oneCell' = true := fun u hu => by
  obtain ⟨_, _, rfl⟩ := List.mem_map.1 hu
  rfl
/-- v is a row of the call's own, from block B on, that holds these bytes -/
def Own (w : World) (B : Nat) (e : TypeId) (v : Value) (bs : List UInt8) : Prop := w.ownsRow B e 1 v bs.length (bcs bs)
theorem add_nat (b off i : Nat) : (⟨b, off, none⟩ : Addr).add i = ⟨b, off + i, none⟩ := by
  by_cases h0 : i = 0 <;> simp [Addr.add, h0]
theorem Own.form {w : World} {B : Nat} {e : TypeId} {v : Value} {bs : List UInt8} (h : Own w B e v bs) : ∃ a n c, v = .slice a n c ∧ Bs w a n bs ∧ n ≤ c ∧ (a = none → c = 0) := by
  obtain ⟨_, h2⟩ := id h
  rcases h2 with ⟨rfl, h0⟩ | ⟨g, cap, cur, rfl, hb, hg, hn, hm, hs, ht⟩
  · have hb : bs = [] := List.eq_nil_of_length_eq_zero h0
    subst hb
    exact ⟨none, 0, 0, rfl, bs_nil w none, Nat.le_refl _, fun _ => rfl⟩
  · refine ⟨_, _, _, rfl, ⟨rfl, Nat.le_trans hn hm, fun _ => ⟨g, 0, rfl, fun i hi => ?_⟩⟩, hn, fun h => by cases h⟩
    have hc := World.ownsRow.cells (g := g) h rfl i _ (bcs_at bs i hi)
    rw [add_nat] at hc
    exact hc
theorem Own.empty (w : World) (B : Nat) (e : TypeId) (hB : B ≤ w.heap.size) : Own (w.alloc (.cells #[] e)) B e (.slice (some ⟨w.heap.size, 0, none⟩) 0 0) [] :=
  World.ownsRow_made w #[] 0 hB (Nat.zero_le _) rfl
theorem Own.below {w w' : World} {B C : Nat} {e : TypeId} {v : Value} {bs : List UInt8} (h : Own w B e v bs) (hb : Below C w w') (hC : w.heap.size ≤ C) : Own w' B e v bs := by
  refine ⟨h.1, ?_⟩
  rcases h.2 with hn | ⟨g, cap, cur, rfl, hb1, hgg, rest⟩
  · exact .inl hn
  · have hlt : g < w.heap.size := (Array.getElem?_eq_some_iff.1 hgg).1
    exact .inr ⟨g, cap, cur, rfl, hb1, by rw [hb.block g (by omega)]; exact hgg, rest⟩
theorem wp_append_bytes {P : Program} (w : World) {o : Oper} {a : Act} {K : Act → World → Prop} {Q : Exit → Act → World → Prop} (s x : Operand) (t : TypeId)
    (ho : o.op = .call { callee := .builtin .append, args := #[s, x], argTypes := #[t, t] })
    (B : Nat) (e : TypeId) (hinfo : (P.info? e).map (fun i => (i.zero, i.size, i.bytes)) = some (some (.int .u8 0), 1, 1)) (ht : P.underlying t = some (.slice e))
    (v : Value) (olds : List UInt8) (hs : a.eval s = v) (hown : Own w B e v olds)
    (A : Option Addr) (m c : Nat) (news : List UInt8) (hx : a.eval x = .slice A m c) (hb : Bs w A m news) (hc : A = none → c = 0)
    (hsum : olds.length + m ≤ 140737488355328) (hbase : B ≤ w.heap.size)
    (h : ∀ v' w', Own w' B e v' (olds ++ news) → Below B w w' → K (a.put o.dst v') w') : o.wp P a w K Q := by
  obtain ⟨i0, hi0, hz0, hz1, hz2⟩ := info_parts hinfo
  obtain ⟨hl, hm, hcell⟩ := hb
  rcases A with _ | ad
  · obtain rfl := hc rfl
    have hm0 : m = 0 := by
      rcases Nat.eq_zero_or_pos m with h0 | h0
      · exact h0
      · obtain ⟨_, _, h1, _⟩ := hcell h0; cases h1
    subst hm0
    have hn : news = [] := List.eq_nil_of_length_eq_zero hl
    subst hn
    rw [List.append_nil] at h
    have hrun := run_append_owned_none (P := P) (w := w) B t o.type e i0 1 ht hi0 v _ _ hown
    unfold Oper.wp
    simp [execOp, ho, resolve, invoke, builtin, hs, hx, hrun, Result.andThen]
    exact h v w hown (Below.refl _ _)
  · refine wp_append_own w s x t ho B e i0 _ 1 1 ht hi0 hz0 hz1 hz2 rfl (by omega) v _ _ hs hown ad m c (bcs news) hx (by rw [bcs_length, hl, Nat.mul_one]) ?_ (bcs_one news) (by simp only [maxLen]; omega) (by omega) hbase ?_
    · intro j u hu
      have hj : j < news.length := by
        have := (List.getElem?_eq_some_iff.1 hu).1
        rwa [bcs_length] at this
      obtain ⟨b, off, e1, hcc⟩ := hcell (by omega)
      injection e1 with e1
      subst e1
      rw [bcs_at news j hj] at hu
      injection hu with hu
      subst hu
      rw [add_nat]
      exact hcc j (by omega)
    · intro v' w' ho' hg _
      refine h v' w' ?_ ((Below.refl _ _).grown hg hbase fun k hk => (hown.lt k hk).1)
      unfold Own
      rw [List.length_append, bcs_append, hl]
      exact ho'
theorem wpList_append_bytes {P : Program} (w : World) {ops : Array Oper} {rest : List Oper} {o : Oper} {a : Act} {Q : Exit → Act → World → Prop} (hgd : Region.wanted o (yielded ops a.tmps) = true) (s x : Operand) (t : TypeId)
    (ho : o.op = .call { callee := .builtin .append, args := #[s, x], argTypes := #[t, t] })
    (B : Nat) (e : TypeId) (hinfo : (P.info? e).map (fun i => (i.zero, i.size, i.bytes)) = some (some (.int .u8 0), 1, 1)) (ht : P.underlying t = some (.slice e))
    (v : Value) (olds : List UInt8) (hs : a.eval s = v) (hown : Own w B e v olds)
    (A : Option Addr) (m c : Nat) (news : List UInt8) (hx : a.eval x = .slice A m c) (hb : Bs w A m news) (hc : A = none → c = 0)
    (hsum : olds.length + m ≤ 140737488355328) (hbase : B ≤ w.heap.size)
    (h : ∀ v' w', Own w' B e v' (olds ++ news) → Below B w w' → wpList P ops Q rest (a.put o.dst v') w') : wpList P ops Q (o :: rest) a w :=
  wpList_step fun K hK => by
    rw [if_pos hgd]
    exact wp_append_bytes w s x t ho B e hinfo ht v olds hs hown A m c news hx hb hc hsum hbase fun v' w' h1 h2 => hK _ _ (h v' w' h1 h2)
end Go.Proofs.Ytkcedcllefcboaa
