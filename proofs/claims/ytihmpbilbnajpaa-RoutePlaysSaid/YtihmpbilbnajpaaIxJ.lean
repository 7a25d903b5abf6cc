/-
  Index: the mathematics of its trees, six texts in one. No conditions.
-/
import Derived.Lib.Bytealg
namespace Go.Proofs.Ytihmpbilbnajpaa.Ix
set_option linter.unusedVariables false
abbrev Key := List UInt8
abbrev Pr := Key × Int
/-! ### the order of keys -/
def klt : Key → Key → Bool
  | [], [] => false
  | [], _ :: _ => true
  | _ :: _, [] => false
  | x :: a, y :: b => if x.toNat < y.toNat then true else if y.toNat < x.toNat then false else klt a b
theorem klt_irr : ∀ a : Key, klt a a = false
  | [] => rfl
  | x :: a => by
    unfold klt
    rw [if_neg (Nat.lt_irrefl _), if_neg (Nat.lt_irrefl _), klt_irr a]
theorem klt_tr : ∀ {a b c : Key}, klt a b = true → klt b c = true → klt a c = true
  | [], [], _, h, _ => by cases h
  | [], _ :: _, [], _, h => by cases h
  | [], _ :: _, _ :: _, _, _ => rfl
  | _ :: _, [], _, h, _ => by cases h
  | _ :: _, _ :: _, [], _, h => by cases h
  | x :: a, y :: b, z :: c, h, g => by
    unfold klt at h g ⊢
    by_cases h1 : x.toNat < y.toNat
    · by_cases g1 : y.toNat < z.toNat
      · rw [if_pos (by omega)]
      · rw [if_neg g1] at g
        by_cases g2 : z.toNat < y.toNat
        · rw [if_pos g2] at g; cases g
        · rw [if_pos (by omega)]
    · rw [if_neg h1] at h
      by_cases h2 : y.toNat < x.toNat
      · rw [if_pos h2] at h; cases h
      · rw [if_neg h2] at h
        by_cases g1 : y.toNat < z.toNat
        · rw [if_pos (by omega)]
        · rw [if_neg g1] at g
          by_cases g2 : z.toNat < y.toNat
          · rw [if_pos g2] at g; cases g
          · rw [if_neg g2] at g
            rw [if_neg (by omega), if_neg (by omega)]
            exact klt_tr h g
theorem klt_eq : ∀ {a b : Key}, klt a b = false → klt b a = false → a = b
  | [], [], _, _ => rfl
  | [], _ :: _, h, _ => by cases h
  | _ :: _, [], _, h => by cases h
  | x :: a, y :: b, h, g => by
    unfold klt at h g
    by_cases h1 : x.toNat < y.toNat
    · rw [if_pos h1] at h; cases h
    · rw [if_neg h1] at h
      by_cases h2 : y.toNat < x.toNat
      · rw [if_pos h2] at g; cases g
      · rw [if_neg h2] at h
        rw [if_neg h2, if_neg h1] at g
        rw [klt_eq h g, UInt8.toNat_inj.1 (show x.toNat = y.toNat by omega)]
theorem klt_as {a b : Key} (h : klt a b = true) : klt b a = false := by
  cases g : klt b a with
  | false => rfl
  | true =>
    have := klt_tr h g
    rw [klt_irr] at this
    cases this
theorem klt_ne {a b : Key} (h : klt a b = true) : a ≠ b := by
  rintro rfl
  rw [klt_irr] at h
  cases h
/-! ### rows by rising keys -/
def Srt (l : List Pr) : Prop := l.Pairwise fun a b => klt a.1 b.1 = true
/-- all keys below k; all above k -/
def Bel (l : List Pr) (k : Key) : Prop := ∀ p ∈ l, klt p.1 k = true
def Abo (l : List Pr) (k : Key) : Prop := ∀ p ∈ l, klt k p.1 = true
def lget (k : Key) : List Pr → Option Int
  | [] => none
  | p :: l => if p.1 = k then some p.2 else lget k l
def lput (k : Key) (n : Int) : List Pr → List Pr
  | [] => [(k, n)]
  | p :: l => if p.1 = k then (k, n) :: l else if klt k p.1 = true then (k, n) :: p :: l else p :: lput k n l
def ldrop (k : Key) (l : List Pr) : List Pr := l.filter fun p => p.1 != k
theorem Bel.app {a b : List Pr} {k : Key} (h : Bel a k) (g : Bel b k) : Bel (a ++ b) k := fun p hp => by
  rcases List.mem_append.1 hp with hp | hp
  · exact h p hp
  · exact g p hp
theorem Abo.app {a b : List Pr} {k : Key} (h : Abo a k) (g : Abo b k) : Abo (a ++ b) k := fun p hp => by
  rcases List.mem_append.1 hp with hp | hp
  · exact h p hp
  · exact g p hp
theorem lget_bel : ∀ {a : List Pr} {k : Key} (b : List Pr), Bel a k → lget k (a ++ b) = lget k b
  | [], _, _, _ => rfl
  | p :: a, k, b, h => by
    show (if p.1 = k then _ else lget k (a ++ b)) = _
    rw [if_neg (klt_ne (h p (List.mem_cons_self ..))), lget_bel b fun q hq => h q (List.mem_cons_of_mem _ hq)]
theorem lget_abo : ∀ {a b : List Pr} {k : Key}, Abo b k → lget k (a ++ b) = lget k a
  | [], [], _, _ => rfl
  | [], p :: b, k, h => by
    show (if p.1 = k then _ else lget k b) = none
    rw [if_neg (fun e => klt_ne (h p (List.mem_cons_self ..)) e.symm)]
    exact lget_abo (a := []) fun q hq => h q (List.mem_cons_of_mem _ hq)
  | p :: a, b, k, h => by
    show (if p.1 = k then _ else lget k (a ++ b)) = if p.1 = k then _ else lget k a
    rw [lget_abo h]
theorem lget_mid {a b c : List Pr} {k : Key} (ha : Bel a k) (hc : Abo c k) : lget k (a ++ (b ++ c)) = lget k b := by
  rw [lget_bel _ ha, lget_abo hc]
theorem lput_bel : ∀ {a : List Pr} {k : Key} {n : Int} (b : List Pr), Bel a k → lput k n (a ++ b) = a ++ lput k n b
  | [], _, _, _, _ => rfl
  | p :: a, k, n, b, h => by
    have hp := h p (List.mem_cons_self ..)
    show (if p.1 = k then _ else if klt k p.1 = true then _ else p :: lput k n (a ++ b)) = _
    rw [if_neg (klt_ne hp), if_neg (by rw [klt_as hp]; decide), lput_bel b fun q hq => h q (List.mem_cons_of_mem _ hq)]
    rfl
theorem lput_abo : ∀ {a b : List Pr} {k : Key} {n : Int}, Abo b k → lput k n (a ++ b) = lput k n a ++ b
  | [], [], _, _, _ => rfl
  | [], p :: b, k, n, h => by
    have hp := h p (List.mem_cons_self ..)
    show (if p.1 = k then _ else if klt k p.1 = true then (k, n) :: p :: b else _) = _
    rw [if_neg (fun e => klt_ne hp e.symm), if_pos hp]
    rfl
  | p :: a, b, k, n, h => by
    show (if p.1 = k then _ else if klt k p.1 = true then _ else p :: lput k n (a ++ b)) = (if p.1 = k then _ else if klt k p.1 = true then _ else p :: lput k n a) ++ b
    rw [lput_abo h]
    split
    · rfl
    · split <;> rfl
theorem lput_mid {a b c : List Pr} {k : Key} {n : Int} (ha : Bel a k) (hc : Abo c k) : lput k n (a ++ (b ++ c)) = a ++ (lput k n b ++ c) := by
  rw [lput_bel _ ha, lput_abo hc]
theorem ldrop_bel {a : List Pr} {k : Key} (h : Bel a k) : ldrop k a = a := by
  unfold ldrop
  rw [List.filter_eq_self]
  intro p hp
  simpa using klt_ne (h p hp)
theorem ldrop_abo {a : List Pr} {k : Key} (h : Abo a k) : ldrop k a = a := by
  unfold ldrop
  rw [List.filter_eq_self]
  intro p hp
  simpa using fun e => klt_ne (h p hp) e.symm
theorem ldrop_app (a b : List Pr) (k : Key) : ldrop k (a ++ b) = ldrop k a ++ ldrop k b := List.filter_append _ _
theorem ldrop_mid {a b c : List Pr} {k : Key} (ha : Bel a k) (hc : Abo c k) : ldrop k (a ++ (b ++ c)) = a ++ (ldrop k b ++ c) := by
  rw [ldrop_app, ldrop_app, ldrop_bel ha, ldrop_abo hc]
/-- the place of the first pair whose key is not below k -/
def fnd (k : Key) : List Pr → Nat
  | [] => 0
  | p :: l => if klt p.1 k = true then fnd k l + 1 else 0
theorem fnd_le (k : Key) : ∀ l : List Pr, fnd k l ≤ l.length
  | [] => Nat.le_refl _
  | p :: l => by
    unfold fnd
    have := fnd_le k l
    split
    · rw [List.length_cons]; omega
    · exact Nat.zero_le _
theorem fnd_bel (k : Key) : ∀ l : List Pr, Bel (l.take (fnd k l)) k
  | [] => fun p hp => by cases hp
  | q :: l => fun p hp => by
    unfold fnd at hp
    split at hp
    · rename_i h
      rw [List.take_succ_cons] at hp
      rcases List.mem_cons.1 hp with rfl | hp
      · exact h
      · exact fnd_bel k l p hp
    · cases hp
theorem fnd_at {k : Key} : ∀ {l : List Pr} {p : Pr}, l[fnd k l]? = some p → klt p.1 k = false
  | [], p, h => by cases h
  | q :: l, p, h => by
    unfold fnd at h
    split at h
    · exact fnd_at (l := l) (by simpa using h)
    · rename_i hq
      obtain rfl : q = p := by simpa using h
      simpa using hq
theorem srt_app {a b : List Pr} : Srt (a ++ b) ↔ Srt a ∧ Srt b ∧ ∀ x ∈ a, ∀ y ∈ b, klt x.1 y.1 = true := List.pairwise_append
/-- behind the place all keys are above k, but perhaps the first one -/
theorem fnd_abo {k : Key} {l : List Pr} (hs : Srt l) : (∀ p, l[fnd k l]? = some p → p.1 = k → Abo (l.drop (fnd k l + 1)) k) ∧ ((∀ p, l[fnd k l]? = some p → p.1 ≠ k) → Abo (l.drop (fnd k l)) k) := by
  constructor
  · intro p hp e q hq
    obtain ⟨hj, hpe⟩ := List.getElem?_eq_some_iff.1 hp
    have h2 : l.drop (fnd k l) = p :: l.drop (fnd k l + 1) := by rw [List.drop_eq_getElem_cons hj, hpe]
    have h3 : Srt (l.drop (fnd k l)) := hs.sublist (List.drop_sublist _ _)
    rw [h2] at h3
    rw [← e]
    exact (List.pairwise_cons.1 h3).1 q hq
  · intro hne q hq
    cases hl : l[fnd k l]? with
    | none =>
      rw [List.drop_eq_nil_of_le (List.getElem?_eq_none_iff.1 hl)] at hq
      cases hq
    | some p =>
      obtain ⟨hj, hpe⟩ := List.getElem?_eq_some_iff.1 hl
      have h2 : l.drop (fnd k l) = p :: l.drop (fnd k l + 1) := by rw [List.drop_eq_getElem_cons hj, hpe]
      have hk : klt k p.1 = true := by
        cases hkp : klt k p.1 with
        | true => rfl
        | false => exact absurd (klt_eq (fnd_at hl) hkp) (hne p hl)
      have h3 : Srt (l.drop (fnd k l)) := hs.sublist (List.drop_sublist _ _)
      rw [h2] at h3 hq
      rcases List.mem_cons.1 hq with rfl | hq
      · exact hk
      · exact klt_tr hk ((List.pairwise_cons.1 h3).1 q hq)
/-- a row put into, by its place -/
theorem lput_at {k : Key} {n : Int} {l : List Pr} (hs : Srt l) : lput k n l = if (l[fnd k l]?.map (·.1)) = some k then l.set (fnd k l) (k, n) else l.take (fnd k l) ++ (k, n) :: l.drop (fnd k l) := by
  have hb := fnd_bel k l
  obtain ⟨h1, h2⟩ := fnd_abo (k := k) hs
  have e : l = l.take (fnd k l) ++ l.drop (fnd k l) := (List.take_append_drop _ _).symm
  by_cases h : (l[fnd k l]?.map (·.1)) = some k
  · rw [if_pos h]
    obtain ⟨p, hp, hk⟩ := Option.map_eq_some_iff.1 h
    obtain ⟨hj, hpe⟩ := List.getElem?_eq_some_iff.1 hp
    have hd : l.drop (fnd k l) = p :: l.drop (fnd k l + 1) := by rw [List.drop_eq_getElem_cons hj, hpe]
    rw [List.set_eq_take_append_cons_drop, if_pos hj]
    conv => lhs; rw [e, lput_bel _ hb, hd]
    congr 1
    show (if p.1 = k then _ else _) = _
    rw [if_pos hk]
  · rw [if_neg h]
    have ha := h2 fun p hp e => h (by rw [hp, ← e]; rfl)
    conv => lhs; rw [e, lput_bel _ hb, show l.drop (fnd k l) = [] ++ l.drop (fnd k l) from rfl, lput_abo ha]
    rfl
theorem lget_at {k : Key} {l : List Pr} (hs : Srt l) : lget k l = match l[fnd k l]? with
    | some p => if p.1 = k then some p.2 else none
    | none => none := by
  have hb := fnd_bel k l
  obtain ⟨h1, h2⟩ := fnd_abo (k := k) hs
  have e : l = l.take (fnd k l) ++ l.drop (fnd k l) := (List.take_append_drop _ _).symm
  conv => lhs; rw [e, lget_bel _ hb]
  cases hp : l[fnd k l]? with
  | none =>
    rw [List.drop_eq_nil_of_le (List.getElem?_eq_none_iff.1 hp)]
    rfl
  | some p =>
    obtain ⟨hj, hpe⟩ := List.getElem?_eq_some_iff.1 hp
    have hd : l.drop (fnd k l) = p :: l.drop (fnd k l + 1) := by rw [List.drop_eq_getElem_cons hj, hpe]
    by_cases hk : p.1 = k
    · rw [hd]
      show (if p.1 = k then _ else _) = if p.1 = k then _ else _
      rw [if_pos hk, if_pos hk]
    · have ha := h2 fun q hq e => hk (by rw [hp] at hq; injection hq with hq; rw [hq]; exact e)
      rw [show l.drop (fnd k l) = [] ++ l.drop (fnd k l) from rfl, lget_abo ha]
      show none = if p.1 = k then _ else _
      rw [if_neg hk]
end Go.Proofs.Ytihmpbilbnajpaa.Ix
namespace Go.Proofs.Ytihmpbilbnajpaa.Ix
set_option linter.unusedVariables false
/-- a tree of so many levels below its top -/
def Tr : Nat → Type
  | 0 => List Pr × Unit
  | d + 1 => List Pr × List (Tr d)
/-- the pairs of the top node -/
def Tr.ps : ∀ {d : Nat}, Tr d → List Pr
  | 0, t => t.1
  | _ + 1, t => t.1
/-- pairs between lists -/
def inter : List (List Pr) → List Pr → List Pr
  | [], ps => ps
  | a :: zs, [] => a ++ inter zs []
  | a :: zs, p :: ps => a ++ p :: inter zs ps
def pre (L : List (List Pr)) (ps : List Pr) : List Pr := (List.zipWith (fun a p => a ++ [p]) L ps).flatten
def post (ps : List Pr) (L : List (List Pr)) : List Pr := (List.zipWith (fun p a => p :: a) ps L).flatten
theorem pre_cons (a : List Pr) (L : List (List Pr)) (p : Pr) (ps : List Pr) : pre (a :: L) (p :: ps) = a ++ p :: pre L ps := by
  unfold pre
  rw [List.zipWith_cons_cons, List.flatten_cons, List.append_assoc]
  rfl
theorem post_cons (a : List Pr) (L : List (List Pr)) (p : Pr) (ps : List Pr) : post (p :: ps) (a :: L) = p :: a ++ post ps L := by
  unfold post
  rw [List.zipWith_cons_cons, List.flatten_cons]
theorem inter_post : ∀ (a : List Pr) (L : List (List Pr)) (ps : List Pr), L.length = ps.length → inter (a :: L) ps = a ++ post ps L
  | a, [], [], _ => rfl
  | a, b :: L, p :: ps, h => by
    show a ++ p :: inter (b :: L) ps = _
    rw [inter_post b L ps (by simpa using h), post_cons]
    rfl
  | _, [], _ :: _, h => by cases h
  | _, _ :: _, [], h => by cases h
/-- the lists ahead of the place i, the one there, those behind -/
theorem inter_at : ∀ (L M : List (List Pr)) (b : List Pr) (ps qs : List Pr), L.length = ps.length → M.length = qs.length → inter (L ++ b :: M) (ps ++ qs) = pre L ps ++ (b ++ post qs M)
  | [], M, b, [], qs, _, h => inter_post b M qs h
  | a :: L, M, b, p :: ps, qs, h, g => by
    show a ++ p :: inter (L ++ b :: M) (ps ++ qs) = _
    rw [inter_at L M b ps qs (by simpa using h) g, pre_cons]
    simp
  | [], _, _, _ :: _, _, h, _ => by cases h
  | _ :: _, _, _, [], _, h, _ => by cases h
theorem pre_snoc : ∀ (L : List (List Pr)) (ps : List Pr) (a : List Pr) (p : Pr), L.length = ps.length → pre (L ++ [a]) (ps ++ [p]) = pre L ps ++ (a ++ [p])
  | [], [], a, p, _ => by
    show pre (a :: []) (p :: []) = _
    rw [pre_cons]
    rfl
  | b :: L, q :: ps, a, p, h => by
    show pre (b :: (L ++ [a])) (q :: (ps ++ [p])) = _
    rw [pre_cons, pre_snoc L ps a p (by simpa using h), pre_cons]
    simp
  | [], _ :: _, _, _, h => by cases h
  | _ :: _, [], _, _, h => by cases h
/-- what a tree holds, from left to right -/
def flat : ∀ {d : Nat}, Tr d → List Pr
  | 0, t => t.1
  | d + 1, t => inter (t.2.map (flat (d := d))) t.1
/-- each node but the top has m to M pairs, and one kid more, or none; the top has its own bounds -/
def Nd (m M : Nat) : ∀ {d : Nat}, Nat → Nat → Tr d → Prop
  | 0, lo, hi, t => lo ≤ t.1.length ∧ t.1.length ≤ hi
  | d + 1, lo, hi, t => lo ≤ t.1.length ∧ t.1.length ≤ hi ∧ t.2.length = t.1.length + 1 ∧ ∀ k ∈ t.2, Nd m M (d := d) m M k
theorem Nd.mono {m M lo hi lo' hi' : Nat} : ∀ {d : Nat} {t : Tr d}, Nd m M lo hi t → lo' ≤ t.ps.length → t.ps.length ≤ hi' → Nd m M lo' hi' t
  | 0, _, _, h1, h2 => ⟨h1, h2⟩
  | _ + 1, _, h, h1, h2 => ⟨h1, h2, h.2.2.1, h.2.2.2⟩
theorem Nd.lo {m M lo hi : Nat} : ∀ {d : Nat} {t : Tr d}, Nd m M lo hi t → lo ≤ t.ps.length
  | 0, _, h => h.1
  | _ + 1, _, h => h.1
theorem Nd.hi {m M lo hi : Nat} : ∀ {d : Nat} {t : Tr d}, Nd m M lo hi t → t.ps.length ≤ hi
  | 0, _, h => h.2
  | _ + 1, _, h => h.2.1
/-! ### how many keys a tree has -/
theorem inter_len : ∀ (L : List (List Pr)) (ps : List Pr), L.length = ps.length + 1 → (inter L ps).length = ps.length + (L.map List.length).sum
  | [a], [], _ => by simp [inter]
  | a :: b :: L, p :: ps, h => by
    show (a ++ p :: inter (b :: L) ps).length = _
    rw [List.length_append, List.length_cons, inter_len (b :: L) ps (by simpa using h)]
    simp
    omega
  | [], _, h => by cases h
  | [a], _ :: _, h => by cases h
  | _ :: _ :: _, [], h => by cases h
theorem sum_ge {α : Type} (f : α → Nat) (b : Nat) : ∀ l : List α, (∀ x ∈ l, b ≤ f x) → l.length * b ≤ (l.map f).sum
  | [], _ => by simp
  | x :: l, h => by
    have h1 := sum_ge f b l fun y hy => h y (List.mem_cons_of_mem _ hy)
    have h2 := h x (List.mem_cons_self ..)
    rw [List.map_cons, List.sum_cons, List.length_cons, Nat.succ_mul]
    omega
/-- a node that is not the top has at least (m + 1) to the power of its levels, less one, keys -/
theorem flat_ge {m M : Nat} : ∀ {d : Nat} {t : Tr d} {lo hi : Nat}, Nd m M lo hi t → (lo + 1) * (m + 1) ^ d ≤ (flat t).length + 1
  | 0, t, lo, hi, h => by
    show (lo + 1) * 1 ≤ t.1.length + 1
    have := h.1
    omega
  | d + 1, t, lo, hi, h => by
    obtain ⟨h1, h2, h3, h4⟩ := h
    show _ ≤ (inter (t.2.map flat) t.1).length + 1
    rw [inter_len _ _ (by rw [List.length_map]; exact h3), List.map_map]
    have h5 : t.2.length * ((m + 1) ^ (d + 1) - 1) ≤ (t.2.map (List.length ∘ flat)).sum := sum_ge _ _ _ fun k hk => by
      have := flat_ge (h4 k hk)
      rw [Nat.pow_succ, Nat.mul_comm ((m + 1) ^ d)]
      show _ ≤ (flat k).length
      omega
    have hp : 1 ≤ (m + 1) ^ (d + 1) := Nat.one_le_pow _ _ (by omega)
    have h6 : t.2.length * ((m + 1) ^ (d + 1) - 1) + t.2.length = t.2.length * (m + 1) ^ (d + 1) := by
      rw [Nat.mul_sub, Nat.mul_one]
      have : t.2.length ≤ t.2.length * (m + 1) ^ (d + 1) := Nat.le_mul_of_pos_right _ (by omega)
      omega
    have h7 : (lo + 1) * (m + 1) ^ (d + 1) ≤ t.2.length * (m + 1) ^ (d + 1) := Nat.mul_le_mul_right _ (by omega)
    omega
/-! ### what lies ahead of a place is below the key, what lies behind it above -/
theorem mem_pre : ∀ {L : List (List Pr)} {ps : List Pr} {x : Pr}, x ∈ pre L ps → x ∈ ps ∨ ∃ a ∈ L, x ∈ a
  | a :: L, p :: ps, x, h => by
    rw [pre_cons] at h
    rcases List.mem_append.1 h with h | h
    · exact .inr ⟨a, List.mem_cons_self .., h⟩
    · rcases List.mem_cons.1 h with h | h
      · exact .inl (by rw [h]; exact List.mem_cons_self ..)
      · rcases mem_pre h with h | ⟨b, hb, h⟩
        · exact .inl (List.mem_cons_of_mem _ h)
        · exact .inr ⟨b, List.mem_cons_of_mem _ hb, h⟩
  | [], _, _, h => by cases h
  | _ :: _, [], _, h => by cases h
theorem pre_bel {k : Key} : ∀ {L : List (List Pr)} {ps : List Pr}, Srt (pre L ps) → Bel ps k → L.length = ps.length → Bel (pre L ps) k
  | [], [], _, _, _ => fun p hp => by cases hp
  | a :: L, p :: ps, hs, hb, h => by
    rw [pre_cons] at hs ⊢
    have hp : klt p.1 k = true := hb p (List.mem_cons_self ..)
    obtain ⟨_, h2, h3⟩ := srt_app.1 hs
    intro x hx
    rcases List.mem_append.1 hx with hx | hx
    · exact klt_tr (h3 x hx p (List.mem_cons_self ..)) hp
    · rcases List.mem_cons.1 hx with rfl | hx
      · exact hp
      · exact pre_bel (List.pairwise_cons.1 h2).2 (fun q hq => hb q (List.mem_cons_of_mem _ hq)) (by simpa using h) x hx
  | [], _ :: _, _, _, h => by cases h
  | _ :: _, [], _, _, h => by cases h
theorem post_abo {k : Key} {p : Pr} {ps : List Pr} {M : List (List Pr)} (hs : Srt (post (p :: ps) M)) (hk : klt k p.1 = true) : Abo (post (p :: ps) M) k := by
  cases M with
  | nil => intro x hx; cases hx
  | cons a M =>
    rw [post_cons] at hs ⊢
    intro x hx
    rcases List.mem_cons.1 hx with rfl | hx
    · exact hk
    · exact klt_tr hk ((List.pairwise_cons.1 hs).1 x hx)
/-- a tree's top at the place of a key: ahead, the kid there, behind -/
theorem at_fnd {L : List (List Pr)} {ps : List Pr} (k : Key) (h : L.length = ps.length + 1) (hs : Srt (inter L ps)) :
    ∃ A b B, L = A ++ b :: B ∧ A.length = fnd k ps ∧ B.length = (ps.drop (fnd k ps)).length ∧ L[fnd k ps]? = some b ∧ inter L ps = pre A (ps.take (fnd k ps)) ++ (b ++ post (ps.drop (fnd k ps)) B) ∧
      Srt b ∧ Bel (pre A (ps.take (fnd k ps))) k ∧ ((∀ p, ps[fnd k ps]? = some p → p.1 ≠ k) → Abo (post (ps.drop (fnd k ps)) B) k) := by
  obtain ⟨i, hi⟩ : ∃ i, i = fnd k ps := ⟨_, rfl⟩
  have hle : i ≤ ps.length := by rw [hi]; exact fnd_le k ps
  have hlt : i < L.length := by omega
  rw [← hi]
  have e1 : L = L.take i ++ L[i] :: L.drop (i + 1) := by rw [← List.drop_eq_getElem_cons hlt, List.take_append_drop]
  have l1 : (L.take i).length = (ps.take i).length := by rw [List.length_take, List.length_take]; omega
  have l2 : (L.drop (i + 1)).length = (ps.drop i).length := by rw [List.length_drop, List.length_drop]; omega
  have e2 : inter L ps = pre (L.take i) (ps.take i) ++ (L[i] ++ post (ps.drop i) (L.drop (i + 1))) := by
    conv => lhs; rw [e1, ← List.take_append_drop i ps]
    exact inter_at _ _ _ _ _ l1 l2
  have hs2 := hs
  rw [e2] at hs2
  obtain ⟨s1, s2, _⟩ := srt_app.1 hs2
  obtain ⟨s3, s4, _⟩ := srt_app.1 s2
  refine ⟨L.take i, L[i], L.drop (i + 1), e1, by rw [List.length_take]; omega, l2, List.getElem?_eq_getElem hlt, e2, s3, pre_bel s1 (by rw [hi]; exact fnd_bel k ps) l1, fun hne => ?_⟩
  cases hd : ps.drop i with
  | nil =>
    intro x hx
    unfold post at hx
    simp at hx
  | cons p qs =>
    have hp : ps[i]? = some p := by
      have : (ps.drop i)[0]? = some p := by rw [hd]; rfl
      rwa [List.getElem?_drop, Nat.add_zero] at this
    have hk : klt k p.1 = true := by
      cases hkp : klt k p.1 with
      | true => rfl
      | false => exact absurd (klt_eq (fnd_at (by rw [← hi]; exact hp)) hkp) (hne p hp)
    rw [hd] at s4
    exact post_abo s4 hk
end Go.Proofs.Ytihmpbilbnajpaa.Ix
namespace Go.Proofs.Ytihmpbilbnajpaa.Ix
set_option linter.unusedVariables false
/-- two halves of a node, and the pair between them -/
def splitL : ∀ {d : Nat}, Tr d → Tr d
  | 0, t => (t.1.take (t.1.length / 2), ())
  | _ + 1, t => (t.1.take (t.1.length / 2), t.2.take (t.1.length / 2 + 1))
def splitM {d : Nat} (t : Tr d) : Pr := (t.ps)[t.ps.length / 2]?.getD ([], 0)
def splitR : ∀ {d : Nat}, Tr d → Tr d
  | 0, t => (t.1.drop (t.1.length / 2 + 1), ())
  | _ + 1, t => (t.1.drop (t.1.length / 2 + 1), t.2.drop (t.1.length / 2 + 1))
theorem ps_half {ps : List Pr} (h : 1 ≤ ps.length) : ps = ps.take (ps.length / 2) ++ (ps[ps.length / 2]?.getD ([], 0)) :: ps.drop (ps.length / 2 + 1) := by
  have hl : ps.length / 2 < ps.length := by omega
  rw [List.getElem?_eq_getElem hl]
  show ps = ps.take (ps.length / 2) ++ ps[ps.length / 2] :: ps.drop (ps.length / 2 + 1)
  rw [← List.drop_eq_getElem_cons hl, List.take_append_drop]
/-- the lists of a node cut in two -/
theorem inter_two : ∀ {A B : List (List Pr)} {x y : List Pr} {P Q : List Pr} {p : Pr}, A.length = P.length → B.length = Q.length → inter (A ++ x :: y :: B) (P ++ p :: Q) = pre A P ++ (x ++ p :: (y ++ post Q B)) := by
  intro A B x y P Q p h g
  rw [inter_at A (y :: B) x P (p :: Q) h (by simpa using g), post_cons]
  rfl
theorem inter_join : ∀ {A B : List (List Pr)} {x : List Pr} {P Q : List Pr}, A.length = P.length → B.length = Q.length → inter (A ++ x :: B) (P ++ Q) = pre A P ++ (x ++ post Q B) := by
  intro A B x P Q h g
  exact inter_at A B x P Q h g
theorem inter_cut : ∀ {L M : List (List Pr)} {P Q : List Pr} {p : Pr}, L.length = P.length + 1 → M.length = Q.length + 1 → inter (L ++ M) (P ++ p :: Q) = inter L P ++ p :: inter M Q
  | [a], M, [], Q, p, _, _ => by
    show a ++ p :: inter M Q = (a ++ []) ++ p :: inter M Q
    rw [List.append_nil]
  | a :: b :: L, M, q :: P, Q, p, h, g => by
    show a ++ q :: inter ((b :: L) ++ M) (P ++ p :: Q) = (a ++ q :: inter (b :: L) P) ++ p :: inter M Q
    rw [inter_cut (by simpa using h) g]
    simp
  | [], _, _, _, _, h, _ => by cases h
  | [a], _, _ :: _, _, _, h, _ => by cases h
  | _ :: _ :: _, _, [], _, _, h, _ => by cases h
theorem split_flat {m M lo hi : Nat} : ∀ {d : Nat} {t : Tr d}, Nd m M lo hi t → 1 ≤ t.ps.length → flat t = flat (splitL t) ++ splitM t :: flat (splitR t)
  | 0, t, _, h => ps_half h
  | d + 1, t, hn, h => by
    obtain ⟨_, _, h3, _⟩ := hn
    have h : 1 ≤ t.1.length := h
    show inter (t.2.map flat) t.1 = inter ((t.2.take (t.1.length / 2 + 1)).map flat) (t.1.take (t.1.length / 2)) ++ splitM t :: inter ((t.2.drop (t.1.length / 2 + 1)).map flat) (t.1.drop (t.1.length / 2 + 1))
    rw [← inter_cut (by rw [List.length_map, List.length_take, List.length_take]; omega) (by rw [List.length_map, List.length_drop, List.length_drop]; omega), ← List.map_append, List.take_append_drop]
    congr 1
    exact ps_half h
theorem split_nd {m M lo hi : Nat} : ∀ {d : Nat} {t : Tr d}, Nd m M lo hi t → t.ps.length = M + 1 → m = M / 2 → 1 ≤ M → Nd m M m M (splitL t) ∧ Nd m M m M (splitR t)
  | 0, t, hn, h, hm, h1 => by
    have h : t.1.length = M + 1 := h
    constructor
    · show m ≤ (t.1.take (t.1.length / 2)).length ∧ (t.1.take (t.1.length / 2)).length ≤ M
      rw [List.length_take]; omega
    · show m ≤ (t.1.drop (t.1.length / 2 + 1)).length ∧ (t.1.drop (t.1.length / 2 + 1)).length ≤ M
      rw [List.length_drop]; omega
  | d + 1, t, hn, h, hm, h1 => by
    obtain ⟨_, _, h3, h4⟩ := hn
    have h : t.1.length = M + 1 := h
    constructor
    · refine ⟨?_, ?_, ?_, fun k hk => h4 k (List.mem_of_mem_take hk)⟩
      · show m ≤ (t.1.take (t.1.length / 2)).length
        rw [List.length_take]; omega
      · show (t.1.take (t.1.length / 2)).length ≤ M
        rw [List.length_take]; omega
      · show (t.2.take (t.1.length / 2 + 1)).length = (t.1.take (t.1.length / 2)).length + 1
        rw [List.length_take, List.length_take]; omega
    · refine ⟨?_, ?_, ?_, fun k hk => h4 k (List.mem_of_mem_drop hk)⟩
      · show m ≤ (t.1.drop (t.1.length / 2 + 1)).length
        rw [List.length_drop]; omega
      · show (t.1.drop (t.1.length / 2 + 1)).length ≤ M
        rw [List.length_drop]; omega
      · show (t.2.drop (t.1.length / 2 + 1)).length = (t.1.drop (t.1.length / 2 + 1)).length + 1
        rw [List.length_drop, List.length_drop]; omega
/-- put, as the program does it -/
def tput (k : Key) (n : Int) (M : Nat) : ∀ {d : Nat}, Tr d → Tr d
  | 0, t => (if (t.1[fnd k t.1]?).map (·.1) = some k then t.1.set (fnd k t.1) (k, n) else t.1.take (fnd k t.1) ++ (k, n) :: t.1.drop (fnd k t.1), ())
  | d + 1, t =>
    if (t.1[fnd k t.1]?).map (·.1) = some k then (t.1.set (fnd k t.1) (k, n), t.2)
    else match t.2[fnd k t.1]? with
      | none => t
      | some c =>
        if M < (tput k n M c).ps.length then (t.1.take (fnd k t.1) ++ splitM (tput k n M c) :: t.1.drop (fnd k t.1), t.2.take (fnd k t.1) ++ splitL (tput k n M c) :: splitR (tput k n M c) :: t.2.drop (fnd k t.1 + 1))
        else (t.1, t.2.set (fnd k t.1) (tput k n M c))
theorem set_at {α : Type} (l : List α) (i : Nat) (x : α) (h : i < l.length) : l.set i x = l.take i ++ x :: l.drop (i + 1) := by
  rw [List.set_eq_take_append_cons_drop, if_pos h]
/-- a pair of the top whose key is k: its number set -/
theorem inter_set {L : List (List Pr)} {ps : List Pr} {k : Key} {n : Int} (h : L.length = ps.length + 1) (hs : Srt (inter L ps)) (hk : (ps[fnd k ps]?).map (·.1) = some k) : inter L (ps.set (fnd k ps) (k, n)) = lput k n (inter L ps) := by
  obtain ⟨p, hp, hpk⟩ := Option.map_eq_some_iff.1 hk
  obtain ⟨hj, hpe⟩ := List.getElem?_eq_some_iff.1 hp
  obtain ⟨A, b, B, hL, hA, hB, hb, he, _, hbel, _⟩ := at_fnd k h hs
  rw [set_at _ _ _ hj]
  have hd : ps.drop (fnd k ps) = p :: ps.drop (fnd k ps + 1) := by rw [List.drop_eq_getElem_cons hj, hpe]
  rw [hd] at he hB
  cases B with
  | nil => cases hB
  | cons y B =>
    have l1 : A.length = (ps.take (fnd k ps)).length := by rw [List.length_take]; omega
    have l2 : B.length = (ps.drop (fnd k ps + 1)).length := by simpa using hB
    rw [post_cons] at he
    have hbb : Bel (pre A (ps.take (fnd k ps)) ++ b) k := hbel.app fun x hx => by
      rw [he] at hs
      obtain ⟨_, s2, _⟩ := srt_app.1 hs
      have := (srt_app.1 s2).2.2 x hx p (by simp)
      rwa [hpk] at this
    rw [he, hL, inter_two l1 l2, show pre A (ps.take (fnd k ps)) ++ (b ++ (p :: y ++ post (ps.drop (fnd k ps + 1)) B)) = (pre A (ps.take (fnd k ps)) ++ b) ++ (p :: (y ++ post (ps.drop (fnd k ps + 1)) B)) from by simp, lput_bel _ hbb]
    show _ = (pre A (ps.take (fnd k ps)) ++ b) ++ (if p.1 = k then _ else _)
    rw [if_pos hpk]
    simp
theorem tput_ok {k : Key} {n : Int} {m M : Nat} (hm : m = M / 2) (h2 : 2 ≤ M) : ∀ {d : Nat} {t : Tr d} {lo hi : Nat}, Nd m M lo hi t → Srt (flat t) → flat (tput k n M t) = lput k n (flat t) ∧ Nd m M lo (hi + 1) (tput k n M t)
  | 0, t, lo, hi, hn, hs => by
    have hs : Srt t.1 := hs
    constructor
    · show (if _ then _ else _) = lput k n t.1
      rw [lput_at hs]
    · obtain ⟨h3, h4⟩ := hn
      have := fnd_le k t.1
      show lo ≤ (if (t.1[fnd k t.1]?).map (·.1) = some k then t.1.set (fnd k t.1) (k, n) else t.1.take (fnd k t.1) ++ (k, n) :: t.1.drop (fnd k t.1)).length ∧ (if (t.1[fnd k t.1]?).map (·.1) = some k then t.1.set (fnd k t.1) (k, n) else t.1.take (fnd k t.1) ++ (k, n) :: t.1.drop (fnd k t.1)).length ≤ hi + 1
      by_cases hk : (t.1[fnd k t.1]?).map (·.1) = some k
      · rw [if_pos hk, List.length_set]; omega
      · rw [if_neg hk, List.length_append, List.length_cons, List.length_take, List.length_drop]
        omega
  | d + 1, t, lo, hi, hn, hs => by
    obtain ⟨h3, h4, h5, h6⟩ := hn
    have hs : Srt (inter (t.2.map flat) t.1) := hs
    have hlen : (t.2.map (flat (d := d))).length = t.1.length + 1 := by rw [List.length_map]; exact h5
    by_cases hk : (t.1[fnd k t.1]?).map (·.1) = some k
    · have e : tput k n M t = ((t.1.set (fnd k t.1) (k, n), t.2) : Tr (d + 1)) := if_pos hk
      rw [e]
      refine ⟨?_, ?_⟩
      · show inter (t.2.map flat) (t.1.set (fnd k t.1) (k, n)) = lput k n (inter (t.2.map flat) t.1)
        exact inter_set hlen hs hk
      · refine ⟨?_, ?_, ?_, h6⟩
        · show lo ≤ (t.1.set _ _).length
          rw [List.length_set]; exact h3
        · show (t.1.set _ _).length ≤ hi + 1
          rw [List.length_set]; omega
        · show t.2.length = (t.1.set _ _).length + 1
          rw [List.length_set]; exact h5
    · obtain ⟨A, b, B, hL, hA, hB, hb, he, hsb, hbel, habo⟩ := at_fnd k hlen hs
      have habo := habo fun p hp e => hk (by rw [hp, ← e]; rfl)
      have hle := fnd_le k t.1
      obtain ⟨c, hc, hcb⟩ : ∃ c, t.2[fnd k t.1]? = some c ∧ flat c = b := by
        rw [List.getElem?_map] at hb
        cases hq : t.2[fnd k t.1]? with
        | none => rw [hq] at hb; cases hb
        | some c => rw [hq] at hb; exact ⟨c, rfl, by simpa using hb⟩
      obtain ⟨hi2, hce⟩ := List.getElem?_eq_some_iff.1 hc
      have hcm : c ∈ t.2 := by rw [← hce]; exact List.getElem_mem hi2
      obtain ⟨r1, r2⟩ := tput_ok (k := k) (n := n) hm h2 (h6 c hcm) (by rw [hcb]; exact hsb)
      have e : tput k n M t = ((if M < (tput k n M c).ps.length then (t.1.take (fnd k t.1) ++ splitM (tput k n M c) :: t.1.drop (fnd k t.1), t.2.take (fnd k t.1) ++ splitL (tput k n M c) :: splitR (tput k n M c) :: t.2.drop (fnd k t.1 + 1)) else (t.1, t.2.set (fnd k t.1) (tput k n M c))) : Tr (d + 1)) := by
        refine (if_neg hk).trans ?_
        rw [hc]
      have l1 : A.length = (t.1.take (fnd k t.1)).length := by rw [List.length_take]; omega
      have hA2 : A = (t.2.take (fnd k t.1)).map flat := by
        have := congrArg (List.take (fnd k t.1)) hL
        rw [← List.map_take] at this
        rw [this, List.take_left' hA]
      have hB2 : B = (t.2.drop (fnd k t.1 + 1)).map flat := by
        have := congrArg (List.drop (fnd k t.1 + 1)) hL
        rw [← List.map_drop] at this
        rw [this, show A ++ b :: B = (A ++ [b]) ++ B from by simp, List.drop_left' (by simp; omega)]
      have hflat : lput k n (inter (t.2.map flat) t.1) = pre A (t.1.take (fnd k t.1)) ++ (lput k n b ++ post (t.1.drop (fnd k t.1)) B) := by
        rw [he, lput_mid hbel habo]
      by_cases hover : M < (tput k n M c).ps.length
      · rw [e.trans (if_pos hover)]
        have hM1 : (tput k n M c).ps.length = M + 1 := by have := r2.hi; omega
        have hsf := split_flat r2 (by omega)
        obtain ⟨n1, n2⟩ := split_nd r2 hM1 hm (by omega)
        refine ⟨?_, ?_⟩
        · show inter ((t.2.take (fnd k t.1) ++ splitL (tput k n M c) :: splitR (tput k n M c) :: t.2.drop (fnd k t.1 + 1)).map flat) (t.1.take (fnd k t.1) ++ splitM (tput k n M c) :: t.1.drop (fnd k t.1)) = lput k n (inter (t.2.map flat) t.1)
          rw [List.map_append, List.map_cons, List.map_cons, ← hA2, ← hB2, inter_two l1 hB, hflat, ← hcb, ← r1, hsf]
          simp
        · refine ⟨?_, ?_, ?_, ?_⟩
          · show lo ≤ (t.1.take _ ++ _ :: t.1.drop _).length
            rw [List.length_append, List.length_cons, List.length_take, List.length_drop]; omega
          · show (t.1.take _ ++ _ :: t.1.drop _).length ≤ hi + 1
            rw [List.length_append, List.length_cons, List.length_take, List.length_drop]; omega
          · show (t.2.take _ ++ _ :: _ :: t.2.drop _).length = (t.1.take _ ++ _ :: t.1.drop _).length + 1
            simp only [List.length_append, List.length_cons, List.length_take, List.length_drop]; omega
          · intro x hx
            have hx : x ∈ t.2.take _ ++ _ :: _ :: t.2.drop _ := hx
            simp only [List.mem_append, List.mem_cons] at hx
            rcases hx with hx | rfl | rfl | hx
            · exact h6 x (List.mem_of_mem_take hx)
            · exact n1
            · exact n2
            · exact h6 x (List.mem_of_mem_drop hx)
      · rw [e.trans (if_neg hover)]
        refine ⟨?_, ?_⟩
        · show inter ((t.2.set (fnd k t.1) (tput k n M c)).map flat) t.1 = lput k n (inter (t.2.map flat) t.1)
          rw [set_at _ _ _ hi2, List.map_append, List.map_cons, ← hA2, ← hB2, hflat, r1, hcb]
          have hj := inter_join (x := lput k n b) l1 hB
          rw [List.take_append_drop] at hj
          exact hj
        · refine ⟨h3, by show t.1.length ≤ hi + 1; omega, ?_, ?_⟩
          · show (t.2.set _ _).length = t.1.length + 1
            rw [List.length_set]; exact h5
          · intro x hx
            have hx : x ∈ t.2.set _ _ := hx
            rcases List.mem_or_eq_of_mem_set hx with hx | rfl
            · exact h6 x hx
            · exact r2.mono r2.lo (by omega)
end Go.Proofs.Ytihmpbilbnajpaa.Ix
namespace Go.Proofs.Ytihmpbilbnajpaa.Ix
set_option linter.unusedVariables false
def lastP (ps : List Pr) : Pr := ps[ps.length - 1]?.getD ([], 0)
theorem last_cut {α : Type} {l : List α} (h : 1 ≤ l.length) : ∃ x, l[l.length - 1]? = some x ∧ l = l.take (l.length - 1) ++ [x] := by
  have hl : l.length - 1 < l.length := by omega
  refine ⟨l[l.length - 1], List.getElem?_eq_getElem hl, ?_⟩
  have h2 : l.drop (l.length - 1) = [l[l.length - 1]] := by
    rw [List.drop_eq_getElem_cons hl, List.drop_eq_nil_of_le (by omega)]
  conv => lhs; rw [← List.take_append_drop (l.length - 1) l, h2]
theorem last_ps {ps : List Pr} (h : 1 ≤ ps.length) : ps = ps.take (ps.length - 1) ++ [lastP ps] := by
  obtain ⟨x, h1, h2⟩ := last_cut h
  have : lastP ps = x := by unfold lastP; rw [h1]; rfl
  rw [this]; exact h2
/-- a pair handed on from the node ahead -/
def lendL {d : Nat} (l : Tr d) (p : Pr) (c : Tr d) : Tr d × Pr × Tr d :=
  match d, l, c with
  | 0, l, c => ((l.1.take (l.1.length - 1), ()), lastP l.1, (p :: c.1, ()))
  | _ + 1, l, c => ((l.1.take (l.1.length - 1), l.2.take (l.2.length - 1)), lastP l.1, (p :: c.1, (l.2[l.2.length - 1]?).toList ++ c.2))
/-- a pair handed on from the node behind -/
def lendR {d : Nat} (c : Tr d) (p : Pr) (r : Tr d) : Tr d × Pr × Tr d :=
  match d, c, r with
  | 0, c, r => ((c.1 ++ [p], ()), r.1[0]?.getD ([], 0), (r.1.drop 1, ()))
  | _ + 1, c, r => ((c.1 ++ [p], c.2 ++ (r.2[0]?).toList), r.1[0]?.getD ([], 0), (r.1.drop 1, r.2.drop 1))
/-- two nodes and the pair between them in one -/
def joinK {d : Nat} (l : Tr d) (p : Pr) (r : Tr d) : Tr d :=
  match d, l, r with
  | 0, l, r => (l.1 ++ p :: r.1, ())
  | _ + 1, l, r => (l.1 ++ p :: r.1, l.2 ++ r.2)
theorem lendL_ok {m M lo hi lo2 hi2 : Nat} : ∀ {d : Nat} {l c : Tr d} {p : Pr}, Nd m M lo hi l → Nd m M lo2 hi2 c → 1 ≤ l.ps.length →
    flat (lendL l p c).1 ++ (lendL l p c).2.1 :: flat (lendL l p c).2.2 = flat l ++ p :: flat c ∧ Nd m M (lo - 1) (hi - 1) (lendL l p c).1 ∧ Nd m M (lo2 + 1) (hi2 + 1) (lendL l p c).2.2 ∧ (lendL l p c).1.ps.length = l.ps.length - 1 ∧ (lendL l p c).2.2.ps.length = c.ps.length + 1
  | 0, l, c, p, hl, hc, h => by
    obtain ⟨h1, h2⟩ := hl
    obtain ⟨h3, h4⟩ := hc
    have h : 1 ≤ l.1.length := h
    refine ⟨?_, ⟨?_, ?_⟩, ⟨?_, ?_⟩, ?_, rfl⟩
    · show l.1.take (l.1.length - 1) ++ lastP l.1 :: (p :: c.1) = l.1 ++ p :: c.1
      conv => rhs; rw [last_ps h]
      simp
    · show lo - 1 ≤ (l.1.take (l.1.length - 1)).length
      rw [List.length_take]; omega
    · show (l.1.take (l.1.length - 1)).length ≤ hi - 1
      rw [List.length_take]; omega
    · show lo2 + 1 ≤ (p :: c.1).length
      rw [List.length_cons]; omega
    · show (p :: c.1).length ≤ hi2 + 1
      rw [List.length_cons]; omega
    · show (l.1.take (l.1.length - 1)).length = l.1.length - 1
      rw [List.length_take]; omega
  | d + 1, l, c, p, hl, hc, h => by
    obtain ⟨h1, h2, h3, h4⟩ := hl
    obtain ⟨h5, h6, h7, h8⟩ := hc
    have h : 1 ≤ l.1.length := h
    obtain ⟨x, hx, hxl⟩ := last_cut (l := l.2) (by omega)
    have hxm : x ∈ l.2 := by rw [hxl]; simp
    refine ⟨?_, ⟨?_, ?_, ?_, ?_⟩, ⟨?_, ?_, ?_, ?_⟩, ?_, rfl⟩
    · show inter ((l.2.take (l.2.length - 1)).map flat) (l.1.take (l.1.length - 1)) ++ lastP l.1 :: inter (((l.2[l.2.length - 1]?).toList ++ c.2).map flat) (p :: c.1) = inter (l.2.map flat) l.1 ++ p :: inter (c.2.map flat) c.1
      rw [hx]
      show _ ++ lastP l.1 :: (flat x ++ p :: inter (c.2.map flat) c.1) = _
      have e : inter (l.2.map flat) l.1 = inter ((l.2.take (l.2.length - 1)).map flat) (l.1.take (l.1.length - 1)) ++ lastP l.1 :: flat x := by
        conv => lhs; rw [hxl, last_ps h, List.map_append]
        rw [show ([x] : List (Tr d)).map flat = [flat x] from rfl, inter_cut (by rw [List.length_map, List.length_take, List.length_take]; omega) rfl]
        show _ ++ _ :: (flat x ++ inter [] []) = _
        rw [show inter [] [] = ([] : List Pr) from rfl, List.append_nil]
      rw [e]
      simp
    · show lo - 1 ≤ (l.1.take (l.1.length - 1)).length
      rw [List.length_take]; omega
    · show (l.1.take (l.1.length - 1)).length ≤ hi - 1
      rw [List.length_take]; omega
    · show (l.2.take (l.2.length - 1)).length = (l.1.take (l.1.length - 1)).length + 1
      rw [List.length_take, List.length_take]; omega
    · intro k hk
      exact h4 k (List.mem_of_mem_take hk)
    · show lo2 + 1 ≤ (p :: c.1).length
      rw [List.length_cons]; omega
    · show (p :: c.1).length ≤ hi2 + 1
      rw [List.length_cons]; omega
    · show ((l.2[l.2.length - 1]?).toList ++ c.2).length = (p :: c.1).length + 1
      rw [hx]
      simp
      omega
    · intro k hk
      have hk : k ∈ (l.2[l.2.length - 1]?).toList ++ c.2 := hk
      rw [hx] at hk
      rcases List.mem_append.1 hk with hk | hk
      · have : k = x := by simpa using hk
        rw [this]; exact h4 x hxm
      · exact h8 k hk
    · show (l.1.take (l.1.length - 1)).length = l.1.length - 1
      rw [List.length_take]; omega
theorem head_cut {α : Type} {l : List α} (h : 1 ≤ l.length) : ∃ x, l[0]? = some x ∧ l = x :: l.drop 1 := by
  cases l with
  | nil => cases h
  | cons x l => exact ⟨x, rfl, rfl⟩
theorem lendR_ok {m M lo hi lo2 hi2 : Nat} : ∀ {d : Nat} {c r : Tr d} {p : Pr}, Nd m M lo hi c → Nd m M lo2 hi2 r → 1 ≤ r.ps.length →
    flat (lendR c p r).1 ++ (lendR c p r).2.1 :: flat (lendR c p r).2.2 = flat c ++ p :: flat r ∧ Nd m M (lo + 1) (hi + 1) (lendR c p r).1 ∧ Nd m M (lo2 - 1) (hi2 - 1) (lendR c p r).2.2 ∧ (lendR c p r).1.ps.length = c.ps.length + 1 ∧ (lendR c p r).2.2.ps.length = r.ps.length - 1
  | 0, c, r, p, hc, hr, h => by
    obtain ⟨h1, h2⟩ := hc
    obtain ⟨h3, h4⟩ := hr
    have h : 1 ≤ r.1.length := h
    obtain ⟨q, hq, hql⟩ := head_cut h
    refine ⟨?_, ⟨?_, ?_⟩, ⟨?_, ?_⟩, ?_, ?_⟩
    · show (c.1 ++ [p]) ++ r.1[0]?.getD ([], 0) :: r.1.drop 1 = c.1 ++ p :: r.1
      conv => rhs; rw [hql]
      rw [hq]
      simp
    · show lo + 1 ≤ (c.1 ++ [p]).length
      simp; omega
    · show (c.1 ++ [p]).length ≤ hi + 1
      simp; omega
    · show lo2 - 1 ≤ (r.1.drop 1).length
      rw [List.length_drop]; omega
    · show (r.1.drop 1).length ≤ hi2 - 1
      rw [List.length_drop]; omega
    · show (c.1 ++ [p]).length = c.1.length + 1
      simp
    · show (r.1.drop 1).length = r.1.length - 1
      rw [List.length_drop]
  | d + 1, c, r, p, hc, hr, h => by
    obtain ⟨h1, h2, h3, h4⟩ := hc
    obtain ⟨h5, h6, h7, h8⟩ := hr
    have h : 1 ≤ r.1.length := h
    obtain ⟨q, hq, hql⟩ := head_cut h
    obtain ⟨x, hx, hxl⟩ := head_cut (l := r.2) (by omega)
    have hxm : x ∈ r.2 := by rw [hxl]; simp
    refine ⟨?_, ⟨?_, ?_, ?_, ?_⟩, ⟨?_, ?_, ?_, ?_⟩, ?_, ?_⟩
    · show inter ((c.2 ++ (r.2[0]?).toList).map flat) (c.1 ++ [p]) ++ r.1[0]?.getD ([], 0) :: inter ((r.2.drop 1).map flat) (r.1.drop 1) = inter (c.2.map flat) c.1 ++ p :: inter (r.2.map flat) r.1
      have e : inter (r.2.map flat) r.1 = flat x ++ q :: inter ((r.2.drop 1).map flat) (r.1.drop 1) := by
        conv => lhs; rw [hxl, hql]
        rfl
      rw [hx, hq, e]
      show inter ((c.2 ++ [x]).map flat) (c.1 ++ [p]) ++ _ = _
      rw [List.map_append, show ([x] : List (Tr d)).map flat = [flat x] from rfl, inter_cut (by rw [List.length_map]; exact h3) rfl]
      show (_ ++ p :: (flat x ++ inter [] [])) ++ _ = _
      rw [show inter [] [] = ([] : List Pr) from rfl, List.append_nil]
      simp
    · show lo + 1 ≤ (c.1 ++ [p]).length
      simp; omega
    · show (c.1 ++ [p]).length ≤ hi + 1
      simp; omega
    · show (c.2 ++ (r.2[0]?).toList).length = (c.1 ++ [p]).length + 1
      rw [hx]
      simp
      omega
    · intro k hk
      have hk : k ∈ c.2 ++ (r.2[0]?).toList := hk
      rw [hx] at hk
      rcases List.mem_append.1 hk with hk | hk
      · exact h4 k hk
      · have : k = x := by simpa using hk
        rw [this]; exact h8 x hxm
    · show lo2 - 1 ≤ (r.1.drop 1).length
      rw [List.length_drop]; omega
    · show (r.1.drop 1).length ≤ hi2 - 1
      rw [List.length_drop]; omega
    · show (r.2.drop 1).length = (r.1.drop 1).length + 1
      rw [List.length_drop, List.length_drop]; omega
    · intro k hk
      exact h8 k (List.mem_of_mem_drop hk)
    · show (c.1 ++ [p]).length = c.1.length + 1
      simp
    · show (r.1.drop 1).length = r.1.length - 1
      rw [List.length_drop]
theorem joinK_ok {m M lo hi lo2 hi2 : Nat} : ∀ {d : Nat} {l r : Tr d} {p : Pr}, Nd m M lo hi l → Nd m M lo2 hi2 r →
    flat (joinK l p r) = flat l ++ p :: flat r ∧ Nd m M (lo + lo2 + 1) (hi + hi2 + 1) (joinK l p r) ∧ (joinK l p r).ps.length = l.ps.length + r.ps.length + 1
  | 0, l, r, p, hl, hr => by
    obtain ⟨h1, h2⟩ := hl
    obtain ⟨h3, h4⟩ := hr
    refine ⟨rfl, ⟨?_, ?_⟩, ?_⟩
    · show _ ≤ (l.1 ++ p :: r.1).length
      simp; omega
    · show (l.1 ++ p :: r.1).length ≤ _
      simp; omega
    · show (l.1 ++ p :: r.1).length = l.1.length + r.1.length + 1
      simp; omega
  | d + 1, l, r, p, hl, hr => by
    obtain ⟨h1, h2, h3, h4⟩ := hl
    obtain ⟨h5, h6, h7, h8⟩ := hr
    refine ⟨?_, ⟨?_, ?_, ?_, ?_⟩, ?_⟩
    · show inter ((l.2 ++ r.2).map flat) (l.1 ++ p :: r.1) = _
      rw [List.map_append, inter_cut (by rw [List.length_map]; exact h3) (by rw [List.length_map]; exact h7)]
      rfl
    · show _ ≤ (l.1 ++ p :: r.1).length
      simp; omega
    · show (l.1 ++ p :: r.1).length ≤ _
      simp; omega
    · show (l.2 ++ r.2).length = (l.1 ++ p :: r.1).length + 1
      simp; omega
    · intro k hk
      rcases List.mem_append.1 (show k ∈ l.2 ++ r.2 from hk) with hk | hk
      · exact h4 k hk
      · exact h8 k hk
    · show (l.1 ++ p :: r.1).length = l.1.length + r.1.length + 1
      simp; omega
/-! ### two neighbours in a node -/
theorem two_cut {α : Type} {l : List α} {j : Nat} {x y : α} (hx : l[j]? = some x) (hy : l[j + 1]? = some y) : l = l.take j ++ x :: y :: l.drop (j + 2) := by
  obtain ⟨h1, h2⟩ := List.getElem?_eq_some_iff.1 hx
  obtain ⟨h3, h4⟩ := List.getElem?_eq_some_iff.1 hy
  have e1 : l.drop j = x :: l.drop (j + 1) := by rw [List.drop_eq_getElem_cons h1, h2]
  have e2 : l.drop (j + 1) = y :: l.drop (j + 2) := by rw [List.drop_eq_getElem_cons h3, h4]
  rw [← e2, ← e1, List.take_append_drop]
theorem one_cut {α : Type} {l : List α} {j : Nat} {x : α} (hx : l[j]? = some x) : l = l.take j ++ x :: l.drop (j + 1) := by
  obtain ⟨h1, h2⟩ := List.getElem?_eq_some_iff.1 hx
  have e1 : l.drop j = x :: l.drop (j + 1) := by rw [List.drop_eq_getElem_cons h1, h2]
  rw [← e1, List.take_append_drop]
abbrev nodeT {d : Nat} (ps : List Pr) (ks : List (Tr d)) : Tr (d + 1) := (ps, ks)
def sz {d : Nat} (t : Tr (d + 1)) (j : Nat) : Nat := ((t.2[j]?).map (fun c => c.ps.length)).getD 0
def lendLeft {d : Nat} (i : Nat) (t : Tr (d + 1)) : Tr (d + 1) :=
  match t.2[i - 1]?, t.2[i]?, t.1[i - 1]? with
  | some l, some c, some p => (t.1.take (i - 1) ++ (lendL l p c).2.1 :: t.1.drop i, t.2.take (i - 1) ++ (lendL l p c).1 :: (lendL l p c).2.2 :: t.2.drop (i + 1))
  | _, _, _ => t
def lendRight {d : Nat} (i : Nat) (t : Tr (d + 1)) : Tr (d + 1) :=
  match t.2[i]?, t.2[i + 1]?, t.1[i]? with
  | some c, some r, some p => (t.1.take i ++ (lendR c p r).2.1 :: t.1.drop (i + 1), t.2.take i ++ (lendR c p r).1 :: (lendR c p r).2.2 :: t.2.drop (i + 2))
  | _, _, _ => t
def joinAt {d : Nat} (i : Nat) (t : Tr (d + 1)) : Tr (d + 1) :=
  match t.2[i]?, t.2[i + 1]?, t.1[i]? with
  | some l, some r, some p => (t.1.take i ++ t.1.drop (i + 1), t.2.take i ++ joinK l p r :: t.2.drop (i + 2))
  | _, _, _ => t
/-- a kid that has one pair too few is mended -/
def mend {d : Nat} (m i : Nat) (t : Tr (d + 1)) : Tr (d + 1) :=
  if m ≤ sz t i then t
  else if 0 < i ∧ m < sz t (i - 1) then lendLeft i t
  else if i + 1 < t.2.length ∧ m < sz t (i + 1) then lendRight i t
  else if 0 < i then joinAt (i - 1) t
  else joinAt i t
section
variable {d : Nat} {t : Tr (d + 1)} {m M lo hi : Nat}
theorem nb {i : Nat} (hlen : t.2.length = t.1.length + 1) (hi1 : i + 1 < t.2.length) : ∃ x y p, t.2[i]? = some x ∧ t.2[i + 1]? = some y ∧ t.1[i]? = some p ∧ t.2 = t.2.take i ++ x :: y :: t.2.drop (i + 2) ∧ t.1 = t.1.take i ++ p :: t.1.drop (i + 1) ∧
    flat t = pre ((t.2.take i).map flat) (t.1.take i) ++ (flat x ++ p :: (flat y ++ post (t.1.drop (i + 1)) ((t.2.drop (i + 2)).map flat))) ∧
    (∀ x' y' p', flat (nodeT (t.1.take i ++ p' :: t.1.drop (i + 1)) (t.2.take i ++ x' :: y' :: t.2.drop (i + 2))) = pre ((t.2.take i).map flat) (t.1.take i) ++ (flat x' ++ p' :: (flat y' ++ post (t.1.drop (i + 1)) ((t.2.drop (i + 2)).map flat)))) ∧
    (∀ z, flat (nodeT (t.1.take i ++ t.1.drop (i + 1)) (t.2.take i ++ z :: t.2.drop (i + 2))) = pre ((t.2.take i).map flat) (t.1.take i) ++ (flat z ++ post (t.1.drop (i + 1)) ((t.2.drop (i + 2)).map flat))) := by
  have g1 : t.2[i]? = some t.2[i] := List.getElem?_eq_getElem (by omega)
  have g2 : t.2[i + 1]? = some t.2[i + 1] := List.getElem?_eq_getElem hi1
  have g3 : t.1[i]? = some t.1[i] := List.getElem?_eq_getElem (by omega)
  have c1 := two_cut g1 g2
  have c2 := one_cut g3
  have l1 : ((t.2.take i).map (flat (d := d))).length = (t.1.take i).length := by rw [List.length_map, List.length_take, List.length_take]; omega
  have l2 : ((t.2.drop (i + 2)).map (flat (d := d))).length = (t.1.drop (i + 1)).length := by rw [List.length_map, List.length_drop, List.length_drop]; omega
  have hF : ∀ x' y' p', flat (nodeT (t.1.take i ++ p' :: t.1.drop (i + 1)) (t.2.take i ++ x' :: y' :: t.2.drop (i + 2))) = pre ((t.2.take i).map flat) (t.1.take i) ++ (flat x' ++ p' :: (flat y' ++ post (t.1.drop (i + 1)) ((t.2.drop (i + 2)).map flat))) := by
    intro x' y' p'
    show inter ((t.2.take i ++ x' :: y' :: t.2.drop (i + 2)).map flat) (t.1.take i ++ p' :: t.1.drop (i + 1)) = _
    rw [List.map_append, List.map_cons, List.map_cons, inter_two l1 l2]
  refine ⟨_, _, _, g1, g2, g3, c1, c2, ?_, hF, ?_⟩
  · rw [← hF]
    congr 1
    exact Prod.ext c2 c1
  · intro z
    show inter ((t.2.take i ++ z :: t.2.drop (i + 2)).map flat) (t.1.take i ++ t.1.drop (i + 1)) = _
    rw [List.map_append, List.map_cons, inter_join l1 l2]
theorem sz_at {j : Nat} {c : Tr d} (h : t.2[j]? = some c) : sz t j = c.ps.length := by unfold sz; rw [h]; rfl
theorem two_nd {i : Nat} {x y : Tr d} {p : Pr} (hlen : t.2.length = t.1.length + 1) (hi1 : i + 1 < t.2.length) (h1 : lo ≤ t.1.length) (h2 : t.1.length ≤ hi) (hk : ∀ j c, t.2[j]? = some c → j ≠ i → j ≠ i + 1 → Nd m M m M c) (hx : Nd m M m M x) (hy : Nd m M m M y) :
    Nd m M lo hi (nodeT (t.1.take i ++ p :: t.1.drop (i + 1)) (t.2.take i ++ x :: y :: t.2.drop (i + 2))) := by
  refine ⟨?_, ?_, ?_, ?_⟩
  · show lo ≤ (t.1.take i ++ p :: t.1.drop (i + 1)).length
    simp only [List.length_append, List.length_cons, List.length_take, List.length_drop]; omega
  · show (t.1.take i ++ p :: t.1.drop (i + 1)).length ≤ hi
    simp only [List.length_append, List.length_cons, List.length_take, List.length_drop]; omega
  · show (t.2.take i ++ x :: y :: t.2.drop (i + 2)).length = (t.1.take i ++ p :: t.1.drop (i + 1)).length + 1
    simp only [List.length_append, List.length_cons, List.length_take, List.length_drop]; omega
  · intro k hkm
    have hkm : k ∈ t.2.take i ++ x :: y :: t.2.drop (i + 2) := hkm
    simp only [List.mem_append, List.mem_cons] at hkm
    rcases hkm with hkm | rfl | rfl | hkm
    · obtain ⟨j, hj, hje⟩ := List.mem_iff_getElem.1 hkm
      have hj2 : j < i := by rw [List.length_take] at hj; omega
      exact hk j k (by rw [← hje, List.getElem_take]; exact List.getElem?_eq_getElem _) (by omega) (by omega)
    · exact hx
    · exact hy
    · obtain ⟨j, hj, hje⟩ := List.mem_iff_getElem.1 hkm
      exact hk (i + 2 + j) k (by rw [← hje, List.getElem_drop]; exact List.getElem?_eq_getElem _) (by omega) (by omega)
theorem join_nd {i : Nat} {z : Tr d} (hlen : t.2.length = t.1.length + 1) (hi1 : i + 1 < t.2.length) (h1 : lo ≤ t.1.length) (h2 : t.1.length ≤ hi) (hk : ∀ j c, t.2[j]? = some c → j ≠ i → j ≠ i + 1 → Nd m M m M c) (hz : Nd m M m M z) :
    Nd m M (lo - 1) hi (nodeT (t.1.take i ++ t.1.drop (i + 1)) (t.2.take i ++ z :: t.2.drop (i + 2))) := by
  refine ⟨?_, ?_, ?_, ?_⟩
  · show lo - 1 ≤ (t.1.take i ++ t.1.drop (i + 1)).length
    simp only [List.length_append, List.length_take, List.length_drop]; omega
  · show (t.1.take i ++ t.1.drop (i + 1)).length ≤ hi
    simp only [List.length_append, List.length_take, List.length_drop]; omega
  · show (t.2.take i ++ z :: t.2.drop (i + 2)).length = (t.1.take i ++ t.1.drop (i + 1)).length + 1
    simp only [List.length_append, List.length_cons, List.length_take, List.length_drop]; omega
  · intro k hkm
    have hkm : k ∈ t.2.take i ++ z :: t.2.drop (i + 2) := hkm
    simp only [List.mem_append, List.mem_cons] at hkm
    rcases hkm with hkm | rfl | hkm
    · obtain ⟨j, hj, hje⟩ := List.mem_iff_getElem.1 hkm
      have hj2 : j < i := by rw [List.length_take] at hj; omega
      exact hk j k (by rw [← hje, List.getElem_take]; exact List.getElem?_eq_getElem _) (by omega) (by omega)
    · exact hz
    · obtain ⟨j, hj, hje⟩ := List.mem_iff_getElem.1 hkm
      exact hk (i + 2 + j) k (by rw [← hje, List.getElem_drop]; exact List.getElem?_eq_getElem _) (by omega) (by omega)
theorem mend_ok {i : Nat} (hm : m = M / 2) (h2 : 2 ≤ M) (hlen : t.2.length = t.1.length + 1) (hp : 1 ≤ t.1.length) (hlo : lo ≤ t.1.length) (hhi : t.1.length ≤ hi) (hi1 : i < t.2.length)
    (hk : ∀ j c, t.2[j]? = some c → j ≠ i → Nd m M m M c) (hc : ∀ c, t.2[i]? = some c → Nd m M (m - 1) M c) : flat (mend m i t) = flat t ∧ Nd m M (lo - 1) hi (mend m i t) := by
  have gi : t.2[i]? = some t.2[i] := List.getElem?_eq_getElem hi1
  have hci := hc _ gi
  unfold mend
  by_cases c1 : m ≤ sz t i
  · rw [if_pos c1]
    refine ⟨rfl, by omega, hhi, hlen, fun k hkm => ?_⟩
    obtain ⟨j, hj, hje⟩ := List.mem_iff_getElem.1 hkm
    have hg : t.2[j]? = some k := by rw [← hje]; exact List.getElem?_eq_getElem _
    by_cases e : j = i
    · subst e
      rw [sz_at hg] at c1
      exact (hc k hg).mono c1 (hc k hg).hi
    · exact hk j k hg e
  · rw [if_neg c1]
    rw [sz_at gi] at c1
    have hcl := hci.lo
    by_cases c2 : 0 < i ∧ m < sz t (i - 1)
    · rw [if_pos c2]
      obtain ⟨j, rfl⟩ : ∃ j, i = j + 1 := ⟨i - 1, by omega⟩
      obtain ⟨x, y, p, g1, g2, g3, _, _, hf, hF, _⟩ := nb (i := j) hlen hi1
      have hxk := hk j x g1 (by omega)
      have hyk := hc y g2
      obtain ⟨_, c2⟩ := c2
      rw [show j + 1 - 1 = j from rfl, sz_at g1] at c2
      have hye : y = t.2[j + 1] := by rw [g2] at gi; exact Option.some.inj gi
      rw [← hye] at c1
      obtain ⟨q1, q2, q3, q4, q5⟩ := lendL_ok (p := p) hxk hyk (by omega)
      have e : lendLeft (j + 1) t = (nodeT (t.1.take j ++ (lendL x p y).2.1 :: t.1.drop (j + 1)) (t.2.take j ++ (lendL x p y).1 :: (lendL x p y).2.2 :: t.2.drop (j + 2))) := by
        unfold lendLeft
        rw [show j + 1 - 1 = j from rfl, g1, g2, g3]
      rw [e]
      refine ⟨?_, ?_⟩
      · rw [hF, hf]
        congr 1
        have := congrArg (· ++ post (t.1.drop (j + 1)) ((t.2.drop (j + 2)).map flat)) q1
        simpa using this
      · exact (two_nd hlen hi1 hlo hhi (fun j' c hj' a b => hk j' c hj' b) (q2.mono (by omega) (by have := hxk.hi; omega)) (q3.mono (by have := hyk.lo; omega) (by omega))).mono (by
          show lo - 1 ≤ (t.1.take j ++ _ :: t.1.drop (j + 1)).length
          simp only [List.length_append, List.length_cons, List.length_take, List.length_drop]; omega) (by
          show (t.1.take j ++ _ :: t.1.drop (j + 1)).length ≤ hi
          simp only [List.length_append, List.length_cons, List.length_take, List.length_drop]; omega)
    · rw [if_neg c2]
      by_cases c3 : i + 1 < t.2.length ∧ m < sz t (i + 1)
      · rw [if_pos c3]
        obtain ⟨x, y, p, g1, g2, g3, _, _, hf, hF, _⟩ := nb (i := i) hlen c3.1
        have hxk := hc x g1
        have hyk := hk (i + 1) y g2 (by omega)
        obtain ⟨c31, c3⟩ := c3
        rw [sz_at g2] at c3
        have hxe : x = t.2[i] := by rw [g1] at gi; exact Option.some.inj gi
        rw [← hxe] at c1
        obtain ⟨q1, q2, q3, q4, q5⟩ := lendR_ok (p := p) hxk hyk (by omega)
        have e : lendRight i t = (nodeT (t.1.take i ++ (lendR x p y).2.1 :: t.1.drop (i + 1)) (t.2.take i ++ (lendR x p y).1 :: (lendR x p y).2.2 :: t.2.drop (i + 2))) := by
          unfold lendRight
          rw [g1, g2, g3]
        rw [e]
        refine ⟨?_, ?_⟩
        · rw [hF, hf]
          congr 1
          have := congrArg (· ++ post (t.1.drop (i + 1)) ((t.2.drop (i + 2)).map flat)) q1
          simpa using this
        · exact (two_nd hlen c31 hlo hhi (fun j' c hj' a b => hk j' c hj' a) (q2.mono (by have := hxk.lo; omega) (by omega)) (q3.mono (by omega) (by have := hyk.hi; omega))).mono (by
            show lo - 1 ≤ (t.1.take i ++ _ :: t.1.drop (i + 1)).length
            simp only [List.length_append, List.length_cons, List.length_take, List.length_drop]; omega) (by
            show (t.1.take i ++ _ :: t.1.drop (i + 1)).length ≤ hi
            simp only [List.length_append, List.length_cons, List.length_take, List.length_drop]; omega)
      · rw [if_neg c3]
        by_cases c4 : 0 < i
        · rw [if_pos c4]
          obtain ⟨j, rfl⟩ : ∃ j, i = j + 1 := ⟨i - 1, by omega⟩
          obtain ⟨x, y, p, g1, g2, g3, _, _, hf, _, hJ⟩ := nb (i := j) hlen hi1
          have hxk := hk j x g1 (by omega)
          have hyk := hc y g2
          have c2' : ¬ m < x.ps.length := fun e => c2 ⟨by omega, by rw [show j + 1 - 1 = j from rfl, sz_at g1]; exact e⟩
          have hye : y = t.2[j + 1] := by rw [g2] at gi; exact Option.some.inj gi
          rw [← hye] at c1
          obtain ⟨q1, q2, q3⟩ := joinK_ok (p := p) hxk hyk
          have e : joinAt (j + 1 - 1) t = (nodeT (t.1.take j ++ t.1.drop (j + 1)) (t.2.take j ++ joinK x p y :: t.2.drop (j + 2))) := by
            unfold joinAt
            rw [show j + 1 - 1 = j from rfl, g1, g2, g3]
          rw [e]
          refine ⟨?_, ?_⟩
          · rw [hJ, hf, q1]
            simp
          · exact join_nd hlen hi1 hlo hhi (fun j' c hj' a b => hk j' c hj' b) (q2.mono (by have := hxk.lo; omega) (by omega))
        · rw [if_neg c4]
          obtain rfl : i = 0 := by omega
          obtain ⟨x, y, p, g1, g2, g3, _, _, hf, _, hJ⟩ := nb (i := 0) hlen (by omega)
          have hxk := hc x g1
          have hyk := hk 1 y g2 (by omega)
          have c3' : ¬ m < y.ps.length := fun e => c3 ⟨by omega, by rw [sz_at g2]; exact e⟩
          have hxe : x = t.2[0] := by rw [g1] at gi; exact Option.some.inj gi
          rw [← hxe] at c1
          obtain ⟨q1, q2, q3⟩ := joinK_ok (p := p) hxk hyk
          have e : joinAt 0 t = (nodeT (t.1.take 0 ++ t.1.drop (0 + 1)) (t.2.take 0 ++ joinK x p y :: t.2.drop (0 + 2))) := by
            unfold joinAt
            rw [g1, g2, g3]
          rw [e]
          refine ⟨?_, ?_⟩
          · rw [hJ, hf, q1]
            simp
          · exact join_nd hlen (by omega) hlo hhi (fun j' c hj' a b => hk j' c hj' a) (q2.mono (by have := hyk.lo; omega) (by omega))
end
end Go.Proofs.Ytihmpbilbnajpaa.Ix
namespace Go.Proofs.Ytihmpbilbnajpaa.Ix
set_option linter.unusedVariables false
/-- the pair with the highest key taken away -/
def tlast (m : Nat) : ∀ {d : Nat}, Tr d → Pr × Tr d
  | 0, t => (lastP t.1, (t.1.take (t.1.length - 1), ()))
  | d + 1, t => match t.2[t.2.length - 1]? with
    | none => (([], 0), t)
    | some c => ((tlast m c).1, mend m (t.2.length - 1) (nodeT t.1 (t.2.set (t.2.length - 1) (tlast m c).2)))
/-- drop, as the program does it -/
def tdrop (k : Key) (m : Nat) : ∀ {d : Nat}, Tr d → Tr d
  | 0, t => (if (t.1[fnd k t.1]?).map (·.1) = some k then t.1.take (fnd k t.1) ++ t.1.drop (fnd k t.1 + 1) else t.1, ())
  | d + 1, t => match t.2[fnd k t.1]? with
    | none => t
    | some c =>
      if (t.1[fnd k t.1]?).map (·.1) = some k then mend m (fnd k t.1) (nodeT (t.1.set (fnd k t.1) (tlast m c).1) (t.2.set (fnd k t.1) (tlast m c).2))
      else mend m (fnd k t.1) (nodeT t.1 (t.2.set (fnd k t.1) (tdrop k m c)))
theorem set_kids {d : Nat} {ks : List (Tr d)} {i : Nat} {c : Tr d} {m M : Nat} (h : ∀ k ∈ ks, Nd m M m M k) (hc : Nd m M (m - 1) M c) :
    (∀ j x, (ks.set i c)[j]? = some x → j ≠ i → Nd m M m M x) ∧ (∀ x, (ks.set i c)[i]? = some x → Nd m M (m - 1) M x) := by
  constructor
  · intro j x hj hne
    rw [List.getElem?_set_ne (fun e => hne e.symm)] at hj
    exact h x (List.mem_of_getElem? hj)
  · intro x hx
    rw [List.getElem?_set] at hx
    rw [if_pos rfl] at hx
    split at hx
    · obtain rfl := Option.some.inj hx
      exact hc
    · cases hx
theorem tlast_ok {m M : Nat} (hm : m = M / 2) (h2 : 2 ≤ M) : ∀ {d : Nat} {t : Tr d} {lo hi : Nat}, Nd m M lo hi t → 1 ≤ lo → flat t = flat (tlast m t).2 ++ [(tlast m t).1] ∧ Nd m M (lo - 1) hi (tlast m t).2
  | 0, t, lo, hi, hn, h1 => by
    obtain ⟨h3, h4⟩ := hn
    refine ⟨last_ps (ps := t.1) (by omega), ?_, ?_⟩
    · show lo - 1 ≤ (t.1.take (t.1.length - 1)).length
      rw [List.length_take]; omega
    · show (t.1.take (t.1.length - 1)).length ≤ hi
      rw [List.length_take]; omega
  | d + 1, t, lo, hi, hn, h1 => by
    obtain ⟨h3, h4, h5, h6⟩ := hn
    obtain ⟨c, hc, hcl⟩ := last_cut (l := t.2) (by omega)
    have hcm : c ∈ t.2 := List.mem_of_getElem? hc
    obtain ⟨r1, r2⟩ := tlast_ok hm h2 (h6 c hcm) (by omega)
    have e : tlast m t = ((tlast m c).1, mend m (t.2.length - 1) (nodeT t.1 (t.2.set (t.2.length - 1) (tlast m c).2))) := by
      conv => lhs; unfold tlast
      rw [hc]
    rw [e]
    obtain ⟨s1, s2⟩ := set_kids (i := t.2.length - 1) h6 r2
    have hl : (t.2.set (t.2.length - 1) (tlast m c).2).length = t.2.length := List.length_set ..
    obtain ⟨q1, q2⟩ := mend_ok (t := nodeT t.1 (t.2.set (t.2.length - 1) (tlast m c).2)) (lo := lo) (hi := hi) (i := t.2.length - 1) hm h2 (hl.trans h5) (by show 1 ≤ t.1.length; omega) h3 h4 (by show _ < (t.2.set (t.2.length - 1) (tlast m c).2).length; omega) s1 s2
    refine ⟨?_, q2⟩
    rw [q1]
    have hlt : t.2.length - 1 < t.2.length := by omega
    have l1 : ((t.2.take (t.2.length - 1)).map (flat (d := d))).length = (t.1).length := by rw [List.length_map, List.length_take]; omega
    have f1 : flat t = pre ((t.2.take (t.2.length - 1)).map flat) t.1 ++ (flat c ++ post [] []) := by
      show inter (t.2.map flat) t.1 = _
      conv => lhs; rw [hcl, List.map_append]
      have := inter_at ((t.2.take (t.2.length - 1)).map flat) [] (flat c) t.1 [] l1 rfl
      rw [List.append_nil] at this
      exact this
    have f2 : flat (nodeT t.1 (t.2.set (t.2.length - 1) (tlast m c).2)) = pre ((t.2.take (t.2.length - 1)).map flat) t.1 ++ (flat (tlast m c).2 ++ post [] []) := by
      show inter ((t.2.set (t.2.length - 1) (tlast m c).2).map flat) t.1 = _
      rw [set_at _ _ _ hlt, List.drop_eq_nil_of_le (by omega), List.map_append]
      have := inter_at ((t.2.take (t.2.length - 1)).map flat) [] (flat (tlast m c).2) t.1 [] l1 rfl
      rw [List.append_nil] at this
      exact this
    have hp : post [] [] = [] := rfl
    rw [f1, f2, r1, hp]
    simp
theorem ldrop_at {k : Key} {l : List Pr} (hs : Srt l) : ldrop k l = if (l[fnd k l]?.map (·.1)) = some k then l.take (fnd k l) ++ l.drop (fnd k l + 1) else l := by
  have hb := fnd_bel k l
  obtain ⟨h1, h2⟩ := fnd_abo (k := k) hs
  have e : l = l.take (fnd k l) ++ l.drop (fnd k l) := (List.take_append_drop _ _).symm
  by_cases h : (l[fnd k l]?.map (·.1)) = some k
  · rw [if_pos h]
    obtain ⟨p, hp, hk⟩ := Option.map_eq_some_iff.1 h
    obtain ⟨hj, hpe⟩ := List.getElem?_eq_some_iff.1 hp
    have hd : l.drop (fnd k l) = p :: l.drop (fnd k l + 1) := by rw [List.drop_eq_getElem_cons hj, hpe]
    conv => lhs; rw [e, ldrop_app, ldrop_bel hb, hd]
    congr 1
    unfold ldrop
    rw [List.filter_cons_of_neg (by simp [hk])]
    exact ldrop_abo (h1 p hp hk)
  · rw [if_neg h]
    have ha := h2 fun p hp e => h (by rw [hp, ← e]; rfl)
    conv => lhs; rw [e, ldrop_app, ldrop_bel hb, ldrop_abo ha]
    exact e.symm
theorem tdrop_ok {k : Key} {m M : Nat} (hm : m = M / 2) (h2 : 2 ≤ M) : ∀ {d : Nat} {t : Tr d} {lo hi : Nat}, Nd m M lo hi t → 1 ≤ lo → Srt (flat t) → flat (tdrop k m t) = ldrop k (flat t) ∧ Nd m M (lo - 1) hi (tdrop k m t)
  | 0, t, lo, hi, hn, h1, hs => by
    have hs : Srt t.1 := hs
    obtain ⟨h3, h4⟩ := hn
    have hle := fnd_le k t.1
    refine ⟨?_, ?_⟩
    · show (if _ then _ else _) = ldrop k t.1
      rw [ldrop_at hs]
    · show lo - 1 ≤ (if (t.1[fnd k t.1]?).map (·.1) = some k then t.1.take (fnd k t.1) ++ t.1.drop (fnd k t.1 + 1) else t.1).length ∧ (if (t.1[fnd k t.1]?).map (·.1) = some k then t.1.take (fnd k t.1) ++ t.1.drop (fnd k t.1 + 1) else t.1).length ≤ hi
      by_cases hk : (t.1[fnd k t.1]?).map (·.1) = some k
      · rw [if_pos hk, List.length_append, List.length_take, List.length_drop]; omega
      · rw [if_neg hk]; omega
  | d + 1, t, lo, hi, hn, h1, hs => by
    obtain ⟨h3, h4, h5, h6⟩ := hn
    have hs : Srt (inter (t.2.map flat) t.1) := hs
    have hlen : (t.2.map (flat (d := d))).length = t.1.length + 1 := by rw [List.length_map]; exact h5
    obtain ⟨A, b, B, hL, hA, hB, hb, he, hsb, hbel, habo⟩ := at_fnd k hlen hs
    have hle := fnd_le k t.1
    obtain ⟨c, hc, hcb⟩ : ∃ c, t.2[fnd k t.1]? = some c ∧ flat c = b := by
      rw [List.getElem?_map] at hb
      cases hq : t.2[fnd k t.1]? with
      | none => rw [hq] at hb; cases hb
      | some c => rw [hq] at hb; exact ⟨c, rfl, by simpa using hb⟩
    obtain ⟨hi2, hce⟩ := List.getElem?_eq_some_iff.1 hc
    have hcm : c ∈ t.2 := List.mem_of_getElem? hc
    have l1 : A.length = (t.1.take (fnd k t.1)).length := by rw [List.length_take]; omega
    have hA2 : A = (t.2.take (fnd k t.1)).map flat := by
      have := congrArg (List.take (fnd k t.1)) hL
      rw [← List.map_take] at this
      rw [this, List.take_left' hA]
    have hB2 : B = (t.2.drop (fnd k t.1 + 1)).map flat := by
      have := congrArg (List.drop (fnd k t.1 + 1)) hL
      rw [← List.map_drop] at this
      rw [this, show A ++ b :: B = (A ++ [b]) ++ B from by simp, List.drop_left' (by simp; omega)]
    by_cases hk : (t.1[fnd k t.1]?).map (·.1) = some k
    · obtain ⟨r1, r2⟩ := tlast_ok hm h2 (h6 c hcm) (by omega)
      have e : tdrop k m t = mend m (fnd k t.1) (nodeT (t.1.set (fnd k t.1) (tlast m c).1) (t.2.set (fnd k t.1) (tlast m c).2)) := by
        conv => lhs; unfold tdrop
        rw [hc]
        exact if_pos hk
      rw [e]
      obtain ⟨s1, s2⟩ := set_kids (i := fnd k t.1) h6 r2
      have hl : (t.2.set (fnd k t.1) (tlast m c).2).length = t.2.length := List.length_set ..
      have hl2 : (t.1.set (fnd k t.1) (tlast m c).1).length = t.1.length := List.length_set ..
      obtain ⟨q1, q2⟩ := mend_ok (t := nodeT (t.1.set (fnd k t.1) (tlast m c).1) (t.2.set (fnd k t.1) (tlast m c).2)) (lo := lo) (hi := hi) (i := fnd k t.1) hm h2 (by show (t.2.set _ _).length = (t.1.set _ _).length + 1; omega) (by show 1 ≤ (t.1.set _ _).length; omega) (by show lo ≤ (t.1.set _ _).length; omega) (by show (t.1.set _ _).length ≤ hi; omega) (by show _ < (t.2.set _ _).length; omega) s1 s2
      refine ⟨?_, q2⟩
      rw [q1]
      obtain ⟨p, hp, hpk⟩ := Option.map_eq_some_iff.1 hk
      obtain ⟨hj, hpe⟩ := List.getElem?_eq_some_iff.1 hp
      have hd : t.1.drop (fnd k t.1) = p :: t.1.drop (fnd k t.1 + 1) := by rw [List.drop_eq_getElem_cons hj, hpe]
      have hs2 := hs
      rw [he] at hs2
      rw [hd] at he hB hs2
      show inter ((t.2.set (fnd k t.1) (tlast m c).2).map flat) (t.1.set (fnd k t.1) (tlast m c).1) = ldrop k (inter (t.2.map flat) t.1)
      cases hBc : B with
      | nil => rw [hBc] at hB; cases hB
      | cons y B' =>
        rw [hBc] at he hB hs2 hB2
        have l2 : B'.length = (t.1.drop (fnd k t.1 + 1)).length := by simpa using hB
        rw [post_cons] at he hs2
        have hbb : Bel (pre A (t.1.take (fnd k t.1)) ++ b) k := hbel.app fun x hx => by
          obtain ⟨_, s2, _⟩ := srt_app.1 hs2
          have := (srt_app.1 s2).2.2 x hx p (by simp)
          rwa [hpk] at this
        have hab : Abo (y ++ post (t.1.drop (fnd k t.1 + 1)) B') k := fun x hx => by
          obtain ⟨_, s2, _⟩ := srt_app.1 hs2
          obtain ⟨_, s3, _⟩ := srt_app.1 s2
          have := (List.pairwise_cons.1 s3).1 x hx
          rwa [hpk] at this
        rw [set_at _ _ _ hi2, set_at _ _ _ hj, List.map_append, List.map_cons, ← hA2, ← hB2, inter_two l1 l2, he]
        rw [show pre A (t.1.take (fnd k t.1)) ++ (b ++ (p :: y ++ post (t.1.drop (fnd k t.1 + 1)) B')) = (pre A (t.1.take (fnd k t.1)) ++ b) ++ ([p] ++ (y ++ post (t.1.drop (fnd k t.1 + 1)) B')) from by simp, ldrop_app, ldrop_bel hbb, ldrop_app, ldrop_abo hab]
        rw [show ldrop k [p] = [] from by unfold ldrop; rw [List.filter_cons_of_neg (by simp [hpk])]; rfl, ← hcb, r1]
        simp
    · obtain ⟨r1, r2⟩ := tdrop_ok (k := k) hm h2 (h6 c hcm) (by omega) (by rw [hcb]; exact hsb)
      have e : tdrop k m t = mend m (fnd k t.1) (nodeT t.1 (t.2.set (fnd k t.1) (tdrop k m c))) := by
        conv => lhs; unfold tdrop
        rw [hc]
        exact if_neg hk
      rw [e]
      obtain ⟨s1, s2⟩ := set_kids (i := fnd k t.1) h6 r2
      have hl : (t.2.set (fnd k t.1) (tdrop k m c)).length = t.2.length := List.length_set ..
      obtain ⟨q1, q2⟩ := mend_ok (t := nodeT t.1 (t.2.set (fnd k t.1) (tdrop k m c))) (lo := lo) (hi := hi) (i := fnd k t.1) hm h2 (hl.trans h5) (by show 1 ≤ t.1.length; omega) h3 h4 (by show _ < (t.2.set _ _).length; omega) s1 s2
      refine ⟨?_, q2⟩
      rw [q1]
      have habo := habo fun p hp e => hk (by rw [hp, ← e]; rfl)
      show inter ((t.2.set (fnd k t.1) (tdrop k m c)).map flat) t.1 = ldrop k (inter (t.2.map flat) t.1)
      rw [set_at _ _ _ hi2, List.map_append, List.map_cons, ← hA2, ← hB2, he, ldrop_mid hbel habo, ← hcb, ← r1]
      have hj := inter_join (x := flat (tdrop k m c)) l1 hB
      rw [List.take_append_drop] at hj
      exact hj
/-- what is looked up -/
def tget (k : Key) : ∀ {d : Nat}, Tr d → Option Int
  | 0, t => match t.1[fnd k t.1]? with
    | some p => if p.1 = k then some p.2 else none
    | none => none
  | d + 1, t => match t.1[fnd k t.1]?, t.2[fnd k t.1]? with
    | some p, some c => if p.1 = k then some p.2 else tget k c
    | none, some c => tget k c
    | _, none => none
theorem lget_found {L : List (List Pr)} {ps : List Pr} {k : Key} {p : Pr} (h : L.length = ps.length + 1) (hs : Srt (inter L ps)) (hp : ps[fnd k ps]? = some p) (hpk : p.1 = k) : lget k (inter L ps) = some p.2 := by
  obtain ⟨hj, hpe⟩ := List.getElem?_eq_some_iff.1 hp
  obtain ⟨A, b, B, hL, hA, hB, hb, he, _, hbel, _⟩ := at_fnd k h hs
  have hd : ps.drop (fnd k ps) = p :: ps.drop (fnd k ps + 1) := by rw [List.drop_eq_getElem_cons hj, hpe]
  rw [hd] at he hB
  cases B with
  | nil => cases hB
  | cons y B =>
    rw [post_cons] at he
    have hbb : Bel (pre A (ps.take (fnd k ps)) ++ b) k := hbel.app fun x hx => by
      rw [he] at hs
      obtain ⟨_, s2, _⟩ := srt_app.1 hs
      have := (srt_app.1 s2).2.2 x hx p (by simp)
      rwa [hpk] at this
    rw [he, show pre A (ps.take (fnd k ps)) ++ (b ++ (p :: y ++ post (ps.drop (fnd k ps + 1)) B)) = (pre A (ps.take (fnd k ps)) ++ b) ++ (p :: (y ++ post (ps.drop (fnd k ps + 1)) B)) from by simp, lget_bel _ hbb]
    show (if p.1 = k then _ else _) = _
    rw [if_pos hpk]
theorem tget_ok {k : Key} {m M : Nat} : ∀ {d : Nat} {t : Tr d} {lo hi : Nat}, Nd m M lo hi t → Srt (flat t) → tget k t = lget k (flat t)
  | 0, t, lo, hi, hn, hs => by
    have hs : Srt t.1 := hs
    show _ = lget k t.1
    rw [lget_at hs]
    rfl
  | d + 1, t, lo, hi, hn, hs => by
    obtain ⟨h3, h4, h5, h6⟩ := hn
    have hs : Srt (inter (t.2.map flat) t.1) := hs
    have hlen : (t.2.map (flat (d := d))).length = t.1.length + 1 := by rw [List.length_map]; exact h5
    obtain ⟨A, b, B, hL, hA, hB, hb, he, hsb, hbel, habo⟩ := at_fnd k hlen hs
    obtain ⟨c, hc, hcb⟩ : ∃ c, t.2[fnd k t.1]? = some c ∧ flat c = b := by
      rw [List.getElem?_map] at hb
      cases hq : t.2[fnd k t.1]? with
      | none => rw [hq] at hb; cases hb
      | some c => rw [hq] at hb; exact ⟨c, rfl, by simpa using hb⟩
    have hcm : c ∈ t.2 := List.mem_of_getElem? hc
    have r := tget_ok (k := k) (h6 c hcm) (by rw [hcb]; exact hsb)
    show _ = lget k (inter (t.2.map flat) t.1)
    unfold tget
    rw [hc]
    cases hp : t.1[fnd k t.1]? with
    | none =>
      rw [he, lget_mid hbel (habo fun p hp2 => by rw [hp] at hp2; cases hp2), ← hcb]
      exact r
    | some p =>
      by_cases hpk : p.1 = k
      · show (if p.1 = k then _ else _) = _
        rw [if_pos hpk, lget_found hlen hs hp hpk]
      · show (if p.1 = k then _ else _) = _
        rw [if_neg hpk, he, lget_mid hbel (habo fun q hq e => hpk (by rw [hp] at hq; rw [Option.some.inj hq]; exact e)), ← hcb]
        exact r
end Go.Proofs.Ytihmpbilbnajpaa.Ix
namespace Go.Proofs.Ytihmpbilbnajpaa.Ix
set_option linter.unusedVariables false
/-- a pair that is not below the end (an empty end: there is none) -/
def stopAt (to : Key) (p : Pr) : Bool := to != [] && !klt p.1 to
/-- those that are not below from -/
def fdrop (from_ : Key) (l : List Pr) : List Pr := l.filter fun p => !klt p.1 from_
/-- behind l, the rest is told till somebody stops; whether nobody did -/
def scan (to : Key) (go : List Pr → Pr → Bool) : List Pr → List Pr → List Pr × Bool
  | l, [] => (l, true)
  | l, p :: r => if stopAt to p = true then (l, false) else if go l p = true then scan to go (l ++ [p]) r else (l ++ [p], false)
theorem scan_app {to : Key} {go : List Pr → Pr → Bool} : ∀ (a l b : List Pr), scan to go l (a ++ b) = if (scan to go l a).2 = true then scan to go (scan to go l a).1 b else scan to go l a
  | [], l, b => rfl
  | p :: a, l, b => by
    show (if stopAt to p = true then _ else if go l p = true then scan to go (l ++ [p]) (a ++ b) else _) = if (if stopAt to p = true then _ else if go l p = true then scan to go (l ++ [p]) a else _).2 = true then scan to go (if stopAt to p = true then _ else if go l p = true then scan to go (l ++ [p]) a else _).1 b else (if stopAt to p = true then _ else if go l p = true then scan to go (l ++ [p]) a else _)
    by_cases h1 : stopAt to p = true
    · rw [if_pos h1, if_pos h1]
      rfl
    · rw [if_neg h1, if_neg h1]
      by_cases h2 : go l p = true
      · rw [if_pos h2, if_pos h2]
        exact scan_app a (l ++ [p]) b
      · rw [if_neg h2, if_neg h2]
        rfl
theorem fdrop_app (k : Key) (a b : List Pr) : fdrop k (a ++ b) = fdrop k a ++ fdrop k b := List.filter_append _ _
theorem fdrop_bel {k : Key} {a : List Pr} (h : Bel a k) : fdrop k a = [] := by
  unfold fdrop
  rw [List.filter_eq_nil_iff]
  intro p hp
  simp [h p hp]
/-- none of a row is below k -/
def Nlo (l : List Pr) (k : Key) : Prop := ∀ p ∈ l, klt p.1 k = false
theorem fdrop_nlo {k : Key} {a : List Pr} (h : Nlo a k) : fdrop k a = a := by
  unfold fdrop
  rw [List.filter_eq_self]
  intro p hp
  simp [h p hp]
theorem post_nlo {k : Key} {ps : List Pr} {M : List (List Pr)} (hs : Srt (post ps M)) (h : ∀ p, ps[0]? = some p → klt p.1 k = false) : Nlo (post ps M) k := by
  cases ps with
  | nil => intro x hx; unfold post at hx; simp at hx
  | cons p ps =>
    cases M with
    | nil => intro x hx; unfold post at hx; simp at hx
    | cons a M =>
      rw [post_cons] at hs ⊢
      have hp := h p rfl
      intro x hx
      rcases List.mem_cons.1 hx with rfl | hx
      · exact hp
      · have hpx := (List.pairwise_cons.1 hs).1 x hx
        cases hxk : klt x.1 k with
        | false => rfl
        | true =>
          have := klt_tr hpx hxk
          rw [hp] at this
          cases this
/-- from the place of the key on: the kid there from the key on, then pairs and kids, whole -/
theorem fdrop_at {L : List (List Pr)} {ps : List Pr} (k : Key) (h : L.length = ps.length + 1) (hs : Srt (inter L ps)) :
    ∃ A b B, L = A ++ b :: B ∧ A.length = fnd k ps ∧ B.length = (ps.drop (fnd k ps)).length ∧ Srt b ∧ Srt (post (ps.drop (fnd k ps)) B) ∧ fdrop k (inter L ps) = fdrop k b ++ post (ps.drop (fnd k ps)) B ∧ Nlo (post (ps.drop (fnd k ps)) B) k := by
  obtain ⟨A, b, B, hL, hA, hB, hb, he, hsb, hbel, _⟩ := at_fnd k h hs
  have hs2 := hs
  rw [he] at hs2
  obtain ⟨_, s2, _⟩ := srt_app.1 hs2
  obtain ⟨_, s3, _⟩ := srt_app.1 s2
  have hn : Nlo (post (ps.drop (fnd k ps)) B) k := post_nlo s3 fun p hp => by
    rw [List.getElem?_drop, Nat.add_zero] at hp
    exact fnd_at hp
  refine ⟨A, b, B, hL, hA, hB, hsb, s3, ?_, hn⟩
  rw [he, fdrop_app, fdrop_app, fdrop_bel hbel, fdrop_nlo hn]
  rfl
/-- what a range is: by the keys, and by going till the end -/
def rng (from_ to : Key) (l : List Pr) : List Pr := l.filter fun p => !klt p.1 from_ && (to == [] || klt p.1 to)
theorem rng_while {from_ to : Key} {l : List Pr} (hs : Srt l) : rng from_ to l = (fdrop from_ l).takeWhile fun p => !stopAt to p := by
  have key : ∀ l : List Pr, Srt l → (l.filter fun p => (to == [] || klt p.1 to)) = l.takeWhile fun p => !stopAt to p := by
    intro l
    induction l with
    | nil => intro _; rfl
    | cons p l ih =>
      intro hs
      obtain ⟨h1, h2⟩ := List.pairwise_cons.1 hs
      by_cases ht : to = []
      · subst ht
        have e1 : ∀ q : Pr, stopAt [] q = false := fun q => rfl
        rw [List.filter_cons_of_pos (by simp), List.takeWhile_cons_of_pos (by simp [e1]), ih h2]
      · by_cases hp : klt p.1 to = true
        · rw [List.filter_cons_of_pos (by simp [hp]), List.takeWhile_cons_of_pos (by simp [stopAt, hp]), ih h2]
        · have hpf : klt p.1 to = false := by simpa using hp
          rw [List.filter_cons_of_neg (by simp [hpf, ht]), List.takeWhile_cons_of_neg (by simp [stopAt, hpf, ht]), List.filter_eq_nil_iff]
          intro q hq
          have hpq := h1 q hq
          have hqf : klt q.1 to = false := by
            cases e : klt q.1 to with
            | false => rfl
            | true => have := klt_tr hpq e; rw [hpf] at this; cases this
          simp [hqf, ht]
  have h := key (fdrop from_ l) (hs.sublist (List.filter_sublist ..))
  rw [← h]
  unfold rng fdrop
  rw [List.filter_filter]
  congr 1
  funext p
  rw [Bool.and_comm]
/-- nobody but the end stops -/
theorem scan_all {to : Key} : ∀ (r l : List Pr), (scan to (fun _ _ => true) l r).1 = l ++ r.takeWhile fun p => !stopAt to p
  | [], l => (List.append_nil l).symm
  | p :: r, l => by
    show (if stopAt to p = true then _ else if true = true then scan to _ (l ++ [p]) r else _).1 = _
    by_cases h : stopAt to p = true
    · rw [if_pos h, List.takeWhile_cons_of_neg (by simp [h]), List.append_nil]
    · rw [if_neg h, if_pos rfl, scan_all r (l ++ [p]), List.takeWhile_cons_of_pos (by simp [h])]
      simp
/-- it stops behind so many -/
theorem scan_most {to : Key} {n : Nat} : ∀ (r l : List Pr), l.length < n → (scan to (fun l _ => l.length + 1 != n) l r).1 = (l ++ r.takeWhile fun p => !stopAt to p).take n
  | [], l, h => by
    show l = _
    rw [List.takeWhile_nil, List.append_nil, List.take_of_length_le (by omega)]
  | p :: r, l, h => by
    show (if stopAt to p = true then _ else if (l.length + 1 != n) = true then scan to _ (l ++ [p]) r else _).1 = _
    by_cases h1 : stopAt to p = true
    · rw [if_pos h1, List.takeWhile_cons_of_neg (by simp [h1]), List.append_nil, List.take_of_length_le (by omega)]
    · rw [if_neg h1, List.takeWhile_cons_of_pos (by simp [h1])]
      by_cases h2 : l.length + 1 = n
      · rw [if_neg (by simp [h2])]
        show l ++ [p] = _
        rw [show l ++ p :: List.takeWhile (fun p => !stopAt to p) r = (l ++ [p]) ++ List.takeWhile (fun p => !stopAt to p) r from by simp, List.take_left' (by simp [h2])]
      · rw [if_pos (by simp [h2]), scan_most r (l ++ [p]) (by simp; omega)]
        simp
end Go.Proofs.Ytihmpbilbnajpaa.Ix
