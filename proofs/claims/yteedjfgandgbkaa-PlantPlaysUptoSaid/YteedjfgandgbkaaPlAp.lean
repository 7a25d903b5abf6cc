/-
  groatlaw03's PlantApart, walked
-/
import Derived.Test.YteedjfgandgbkaaPlSh
import Derived.Lib.SlBuf
namespace Go.Proofs.Yteedjfgandgbkaa
open Go.RowKit Go.Maps
set_option linter.unusedVariables false
/-- what a sector is of these bytes -/
def secOf (bs : List UInt8) : Sec := ⟨bs.take 64 ++ List.replicate (64 - min bs.length 64) 0, by simp; omega⟩
theorem zero_sec : (zeroSec).1 = List.replicate 64 0 := by decide +kernel
theorem drop_zeros (n m : Nat) : (bcs (List.replicate n 0)).drop m = bcs (List.replicate (n - m) 0) := by simp [bcs]
theorem run_copy_sec {w : World} {a : Option Addr} {len cap g c : Nat} {t ty : TypeId} {bs : List UInt8} (hs : Bs w a len bs) (hb : Blk w g t (bcs zeroSec.1).toArray) :
    ∃ n w', (Builtin.copy_ #[36, 36] ty #[.slice (some ⟨g, 0, none⟩) 64 c, .slice a len cap]).run Try.prog w = .ok (goInt n) w' ∧ Blk w' g t (bcs (secOf bs).1).toArray ∧ Turn (only g) w w' := by
  obtain ⟨hl, hm, hc⟩ := hs
  by_cases h0 : 0 < len
  · obtain ⟨b, off, rfl, hcell⟩ := hc h0
    obtain ⟨m, hm'⟩ : ∃ m, m = Nat.min len 64 := ⟨_, rfl⟩
    have hm1 : m = min len 64 := hm'
    have hm2 : m ≤ 64 ∧ m ≤ len := by omega
    have hlen : (bcs (bs.take 64)).length = m := by rw [bcs_length, List.length_take, hl]; omega
    have hz : (bcs zeroSec.1).toArray.size = 64 := by simp [bcs_length, zeroSec.2]
    have h := run_copy_row (P := Try.prog) w 36 36 ty 5 g 0 64 c ⟨b, off, none⟩ len cap (bcs zeroSec.1).toArray t (bcs (bs.take 64)) Try.underlying36 info_byte hb (hlen.trans hm') (fun j v hj => by
      rw [add_nat]
      have hj1 := (List.getElem?_eq_some_iff.1 hj).1
      have hj2 : j < len := by omega
      have hj3 : j < (bs.take 64).length := by rwa [bcs_length] at hj1
      rw [hcell j hj2, ← hj, bcs_at _ _ hj3, List.getD_eq_getElem?_getD, List.getD_eq_getElem?_getD, List.getElem?_take_of_lt (by omega)]) (by rw [hlen, hz]; omega) (bcs_one _)
    rw [hlen] at h
    have e : ((bcs zeroSec.1).toArray.toList.take 0 ++ bcs (bs.take 64) ++ (bcs zeroSec.1).toArray.toList.drop (0 + m)).toArray = (bcs (secOf bs).1).toArray := by
      rw [zero_sec, Nat.zero_add, List.toList_toArray, drop_zeros, show (secOf bs).1 = bs.take 64 ++ List.replicate (64 - min bs.length 64) 0 from rfl, hl, ← hm1]
      simp only [List.take_zero, List.nil_append]
      rw [show bcs (bs.take 64 ++ List.replicate (64 - m) 0) = bcs (bs.take 64) ++ bcs (List.replicate (64 - m) 0) from by unfold bcs; rw [List.map_append]]
    rw [e] at h
    exact ⟨_, _, h, setRow_heap w g _ _ t _ hb, ⟨rfl, rfl, rfl, by simp, fun k hk hn => setRow_other w g k _ hn⟩⟩
  · have h0 : len = 0 := by omega
    subst h0
    have hbs : bs = [] := List.length_eq_zero_iff.1 hl
    subst hbs
    have h := run_copy_none (P := Try.prog) w 36 36 ty 5 (some ⟨g, 0, none⟩) a 64 c 0 cap Try.underlying36 info_byte rfl
    refine ⟨_, w, h, ?_, Turn.refl _ _⟩
    have e : (secOf []).1 = zeroSec.1 := by decide +kernel
    rw [e]
    exact hb
section
variable {w0 w w' : World} {L : Nat → Prop} {p K g : Nat} {s : AP} {t : TypeId}
/-- one kept block is written -/
theorem St.poke (h : St w0 L w p s K) (ht : Turn (only g) w w') (hg : L g) (h0 : w0.heap.size ≤ g) : St w0 L w' p s K := by
  obtain ⟨F, hp, hF⟩ := h.pl
  refine ⟨⟨F, hp.turn ht (fun k hk e => hF k hk (by rw [show k = g from e]; exact hg)), hF⟩, fun k hk => Nat.lt_of_lt_of_le (h.lt k hk) ht.size, h.lo, h.tr.trans ht (fun k hk e => ?_)⟩
  have e' : k = g := e
  omega
theorem St.bs (h : St w0 L w p s K) {a : Option Addr} {len : Nat} {bs : List UInt8} (hb : Bs w0 a len bs) : Bs w a len bs := bs_below hb (h.tr.below (Nat.le_refl _) (fun _ _ e => e))
theorem two_made (h : St w0 (fun k => k < w0.heap.size) w p s K) (O : Obj) : St w0 (fun k => (k < w0.heap.size ∨ k = w.heap.size) ∨ k = w.heap.size + 1) ((w.alloc O).alloc O) p s K ∧ w0.heap.size ≤ w.heap.size := by
  have h1 := h.keep ((Turn.refl nowhere w).alloc O) (Nat.le_refl _) (by simp)
  have h2 := h1.keep ((Turn.refl nowhere _).alloc O) (Nat.le_refl _) (by simp)
  refine ⟨?_, h.tr.size⟩
  simpa using h2
end
end Go.Proofs.Yteedjfgandgbkaa
