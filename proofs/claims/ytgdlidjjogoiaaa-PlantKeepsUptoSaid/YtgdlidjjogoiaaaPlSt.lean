/-
  A plant among kept blocks: what a law has behind each of its calls. No conditions.
-/
import Derived.Test.YtgdlidjjogoiaaaPlStr
namespace Go.Proofs.Ytgdlidjjogoiaaa
open Go.RowKit Go.Maps
set_option linter.unusedVariables false
structure St (w0 : World) (L : Nat → Prop) (w : World) (p : Nat) (s : AP) (K : Nat) : Prop where
  pl : ∃ F, PlantAt w p F s K ∧ ∀ k, F k → ¬ L k
  lt : ∀ k, L k → k < w.heap.size
  lo : ∀ k, k < w0.heap.size → L k
  tr : Turn nowhere w0 w
def kept (L : Nat → Prop) : Nat → Prop := fun k => ¬ L k
section
variable {w0 w w' : World} {L : Nat → Prop} {p K : Nat} {s : AP}
theorem St.goes (h : St w0 L w p s K) {F : Nat → Prop} (hF : ∀ k, F k → ¬ L k) {s' : AP} {K' : Nat} (hg : Goes2 w p F w' s' K') : St w0 L w' p s' K' ∧ Turn (kept L) w w' := by
  obtain ⟨F', h1, h2, h3⟩ := hg
  refine ⟨⟨⟨F', h1, fun k hk => ?_⟩, fun k hk => Nat.lt_of_lt_of_le (h.lt k hk) h2.size, h.lo, h.tr.trans h2 fun k hk hf => hF k hf (h.lo k hk)⟩, h2.mono fun k _ hf => hF k hf⟩
  rcases h3 k hk with h4 | h4
  · exact hF k h4
  · intro h5
    have := h.lt k h5
    omega
theorem St.still (h : St w0 L w p s K) (ht : Turn nowhere w w') : St w0 L w' p s K := by
  obtain ⟨F, hp, hF⟩ := h.pl
  exact ⟨⟨F, hp.turn ht (fun _ _ e => e), hF⟩, fun k hk => Nat.lt_of_lt_of_le (h.lt k hk) ht.size, h.lo, h.tr.trans ht (fun _ _ e => e)⟩
/-- one more block is kept -/
theorem St.keep (h : St w0 L w p s K) (ht : Turn nowhere w w') {g : Nat} (hg : w.heap.size ≤ g) (hg' : g < w'.heap.size) : St w0 (fun k => L k ∨ k = g) w' p s K := by
  have h' := h.still ht
  obtain ⟨F, hp, hF⟩ := h.pl
  refine ⟨⟨F, hp.turn ht (fun _ _ e => e), fun k hk hl => ?_⟩, fun k hk => ?_, fun k hk => .inl (h.lo k hk), h'.tr⟩
  · rcases hl with hl | rfl
    · exact hF k hk hl
    · have := hp.lt hk
      omega
  · rcases hk with hk | rfl
    · exact h'.lt k hk
    · exact hg'
theorem blk_kept {g : Nat} {t : TypeId} {cs : Array Value} (h : Blk w g t cs) (ht : Turn (kept L) w w') (hg : L g) : Blk w' g t cs := h.turn ht fun e => e hg
theorem bs_blk {g : Nat} {t : TypeId} {l : List UInt8} {n : Nat} (h : Blk w g t (bcs l).toArray) (hn : l.length = n) (hm : n ≤ maxLen) : Bs w (some ⟨g, 0, none⟩) n l :=
  ⟨hn, hm, fun _ => ⟨g, 0, rfl, fun i hi => by
    rw [h.cell]
    have := bcs_at l i (by omega)
    simpa using this⟩⟩
def intsC (zs : List Int) : Array Value := (zs.map fun z => Value.int .i64 z).toArray
theorem ks_blk {F : Nat → Prop} {g : Nat} {t : TypeId} {zs : List Int} {n : Nat} (h : Blk w g t (intsC zs)) (hn : zs.length = n) (hm : n ≤ 100) (hF : ¬ F g) : Ks w F (some ⟨g, 0, none⟩) n zs :=
  ⟨hn, by omega, fun _ => ⟨g, 0, rfl, h.lt, hF, fun i hi => by
    rw [h.cell, Nat.zero_add]
    simp [intsC, List.getD_eq_getElem?_getD, List.getElem?_eq_getElem (show i < zs.length from by omega)]⟩⟩
theorem range_blk {g : Nat} {t : TypeId} {l : List UInt8} (h : Blk w g t (bcs l).toArray) : w.rangeAt g 0 (bcs l) := fun j v hv => by
  rw [h.cell, Nat.zero_add]
  simpa using hv
theorem st_new {g : Nat} {t : TypeId} {zs : List Int} {n : Nat} (hb : Blk w g t (intsC zs)) (hn : zs.length = n) (hz : sizesOk zs) (h0 : Turn nowhere w0 w) :
    Calls Try.prog 8 #[.slice (some ⟨g, 0, none⟩) n n] w fun e w' => ∃ p, e = .returned (.tuple #[.pointer (some ⟨p, 0, none⟩), .int .i64 0]) ∧ St w0 (fun k => k < w0.heap.size) w' p (AP.new zs) 0 ∧ Turn nowhere w w' := by
  have h1 := hz.1
  have h4 := hz.2.1
  refine (new_walk _ n n zs (ks_blk hb hn (by omega) (fun e => e)) (by omega) (by omega)).mono fun e w' hp => ?_
  rcases hp with ⟨_, p, F', he, hP, ht, hF⟩ | ⟨hn, _⟩
  · have h0s := h0.size
    have hts := ht.size
    exact ⟨p, he, ⟨⟨F', hP, fun k hk => by have := hF k hk; omega⟩, fun k hk => by omega, fun k hk => hk, h0.trans ht (fun _ _ e => e)⟩, ht⟩
  · exact (hn hz).elim
theorem st_write (h : St w0 L w p s K) (i : Nat) {dev : Int} (hdev : dev = ((i : Nat) : Int)) (d : AD) (hd : s.ds[i]? = some d) (hon : s.on = true) (place : Int) (hp : 0 ≤ place ∧ place < d.n) (h0 : s.fuse ≠ 0) {g c : Nat} {t : TypeId} (b : Sec) (hb : Blk w g t (bcs b.1).toArray) (hK : K < 1099511627775) :
    Calls Try.prog 14 #[.pointer (some ⟨p, 0, none⟩), .int .i64 dev, .int .i64 place, .slice (some ⟨g, 0, none⟩) 64 c] w fun e w' => e = .returned (.int .i64 0) ∧ St w0 L w' p (s.put i d place b) (K + 1) ∧ Turn (kept L) w w' := by
  subst hdev
  obtain ⟨F, hP, hF⟩ := h.pl
  exact (write_ok hP i d hd hon place hp h0 _ c b (bs_blk hb b.2 (by decide)) hK).mono fun e w' ⟨he, hg⟩ => ⟨he, h.goes hF hg⟩
theorem st_flush (h : St w0 L w p s K) (i : Nat) {dev : Int} (hdev : dev = ((i : Nat) : Int)) (d : AD) (hd : s.ds[i]? = some d) (hon : s.on = true) (h0 : s.fuse ≠ 0) (hK : K < 1099511627775) :
    Calls Try.prog 16 #[.pointer (some ⟨p, 0, none⟩), .int .i64 dev] w fun e w' => e = .returned (.int .i64 0) ∧ St w0 L w' p (s.flushed i d) (K + 1) ∧ Turn (kept L) w w' := by
  subst hdev
  obtain ⟨F, hP, hF⟩ := h.pl
  exact (flush_ok hP i d hd hon h0 hK).mono fun e w' ⟨he, hg⟩ => ⟨he, h.goes hF hg⟩
theorem st_flush_burn (h : St w0 L w p s K) (i : Nat) {dev : Int} (hdev : dev = ((i : Nat) : Int)) (d : AD) (hd : s.ds[i]? = some d) (hon : s.on = true) (h0 : s.fuse = 0) :
    Calls Try.prog 16 #[.pointer (some ⟨p, 0, none⟩), .int .i64 dev] w fun e w' => e = .returned (.int .i64 2) ∧ St w0 L w' p s.burn K ∧ Turn (kept L) w w' := by
  subst hdev
  obtain ⟨F, hP, hF⟩ := h.pl
  exact (flush_burn hP i d hd hon h0).mono fun e w' ⟨he, hg⟩ => ⟨he, h.goes hF hg⟩
theorem st_fuse (h : St w0 L w p s K) (m : Int) (hm : -9223372036854775808 ≤ m ∧ m ≤ 9223372036854775807) :
    Calls Try.prog 19 #[.pointer (some ⟨p, 0, none⟩), .int .i64 m] w fun e w' => e = .returned (.tuple #[]) ∧ St w0 L w' p { s with fuse := if s.on then m else s.fuse } K ∧ Turn (kept L) w w' := by
  obtain ⟨F, hP, hF⟩ := h.pl
  exact (fuseP hP m hm).mono fun e w' ⟨he, hg⟩ => ⟨he, h.goes hF hg⟩
theorem st_boot (h : St w0 L w p s K) {g : Nat} {t : TypeId} (zs : List Int) {n c : Nat} (hb : Blk w g t (intsC zs)) (hg : L g) (hn : zs.length = n) (hm : n ≤ 100) (hK : K < 1099511627776) :
    Calls Try.prog 21 #[.pointer (some ⟨p, 0, none⟩), .slice (some ⟨g, 0, none⟩) n c] w fun e w' => e = .returned (.tuple #[]) ∧ St w0 L w' p (s.boot zs) K ∧ Turn (kept L) w w' := by
  obtain ⟨F, hP, hF⟩ := h.pl
  exact (boot_ok hP _ n c zs (ks_blk hb hn hm (fun hf => hF _ hf hg)) hK).mono fun e w' ⟨he, hg⟩ => ⟨he, h.goes hF hg⟩
theorem st_boot_nil (h : St w0 L w p s K) (a : Option Addr) {c : Nat} (hK : K < 1099511627776) :
    Calls Try.prog 21 #[.pointer (some ⟨p, 0, none⟩), .slice a 0 c] w fun e w' => e = .returned (.tuple #[]) ∧ St w0 L w' p (s.boot []) K ∧ Turn (kept L) w w' := by
  obtain ⟨F, hP, hF⟩ := h.pl
  exact (boot_ok hP _ 0 c [] ⟨rfl, by omega, fun h => by omega⟩ hK).mono fun e w' ⟨he, hg⟩ => ⟨he, h.goes hF hg⟩
theorem st_read (h : St w0 L w p s K) (i : Nat) {dev : Int} (hdev : dev = ((i : Nat) : Int)) (d : AD) (hd : s.ds[i]? = some d) (hon : s.on = true) (place : Int) (hp : 0 ≤ place ∧ place < d.n) :
    Calls Try.prog 18 #[.pointer (some ⟨p, 0, none⟩), .int .i64 dev, .int .i64 place] w fun e w' =>
      ∃ R, e = .returned (.tuple #[.slice (some ⟨R, 0, none⟩) 64 64, .int .i64 0]) ∧ w.heap.size ≤ R ∧ Blk w' R 66 (bcs (d.read place).1).toArray ∧ Turn nowhere w w' := by
  subst hdev
  obtain ⟨F, hP, hF⟩ := h.pl
  exact read_ok hP i d hd hon place hp
theorem st_on (h : St w0 L w p s K) : Calls Try.prog 26 #[.pointer (some ⟨p, 0, none⟩)] w fun e w' => e = .returned (.bool s.on) ∧ w = w' := by
  obtain ⟨F, hP, hF⟩ := h.pl
  exact onP hP
theorem st_steps (h : St w0 L w p s K) : Calls Try.prog 25 #[.pointer (some ⟨p, 0, none⟩)] w fun e w' => e = .returned (.int .i64 s.steps) ∧ w = w' := by
  obtain ⟨F, hP, hF⟩ := h.pl
  exact stepsP hP
end
end Go.Proofs.Ytgdlidjjogoiaaa
