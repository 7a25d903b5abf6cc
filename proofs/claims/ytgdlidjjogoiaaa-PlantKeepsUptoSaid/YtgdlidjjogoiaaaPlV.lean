/-
  plant's longestWaiting
-/
import Derived.Test.YtgdlidjjogoiaaaPlU
import Derived.BigGuardPart
namespace Go.Proofs.Ytgdlidjjogoiaaa
open Go.RowKit Go.Maps
set_option linter.unusedVariables false
/-- disk i while a boot goes on: its list of writes may begin in the midst of a block -/
structure MidAt (w : World) (C : Array Value) (i : Nat) (d : AD) (v : DV) (K : Nat) : Prop where
  c0 : C[i * 4]? = some (.int .i64 d.n)
  c1 : C[i * 4 + 1]? = some (.map (some v.fl))
  fl : ∃ n1, n1 + d.ws.length ≤ K ∧ MapAt w kI eS v.fl n1 d.fl
  ws : ∃ A cap, C[i * 4 + 3]? = some (.slice A d.ws.length cap) ∧ d.ws.length ≤ cap ∧ cap ≤ 9223372036854775807 ∧ (0 < d.ws.length → ∃ g off, A = some ⟨g, off, none⟩ ∧ w.rangeAt g off (d.ws.flatMap wtCells) ∧ ∃ cs, Blk w g 69 cs)
  wf : ∀ x ∈ d.ws, (Lit.int .i64 x.2.1).wf = true
  n0 : 1 ≤ d.n ∧ d.n ≤ 65536
structure MidsAt (w : World) (db : Nat) (C : Array Value) (ds : List AD) (dv : Nat → DV) (K : Nat) : Prop where
  blk : Blk w db 62 C
  size : ds.length * 4 ≤ C.size
  at_ : ∀ i d, ds[i]? = some d → MidAt w C i d (dv i) K
  apart : ∀ i j, i < ds.length → j < ds.length → i ≠ j → (dv i).fl ≠ (dv j).fl
def headStep (d : AD) : Int := match d.ws with
  | x :: _ => x.1
  | [] => 0
def stepAt (ds : List AD) (i : Nat) : Int := match ds[i]? with
  | some d => headStep d
  | none => 0
def waitsAt (ds : List AD) (i : Nat) : Nat := match ds[i]? with
  | some d => d.ws.length
  | none => 0
/-- the disk whose first write was done first -/
def pick (ds : List AD) : Nat → Option Nat
  | 0 => none
  | k + 1 => if 0 < waitsAt ds k then (match pick ds k with
      | none => some k
      | some j => if stepAt ds k < stepAt ds j then some k else some j) else pick ds k
def ptrOf (db : Nat) : Option Nat → Value
  | none => .pointer none
  | some j => .pointer (some ⟨db, j * 4, none⟩)
theorem pick_some (ds : List AD) : ∀ k j, pick ds k = some j → j < k ∧ 0 < waitsAt ds j
  | 0, j, h => by cases h
  | k + 1, j, h => by
    unfold pick at h
    split at h
    · rename_i hw
      cases hp : pick ds k with
      | none =>
        rw [hp] at h
        cases h
        exact ⟨by omega, hw⟩
      | some m =>
        rw [hp] at h
        simp only at h
        split at h
        · cases h
          exact ⟨by omega, hw⟩
        · cases h
          have := pick_some ds k _ hp
          exact ⟨by omega, this.2⟩
    · have := pick_some ds k _ h
      exact ⟨by omega, this.2⟩
theorem MidsAt.cells {w : World} {db : Nat} {C : Array Value} {ds : List AD} {dv : Nat → DV} {K : Nat} (h : MidsAt w db C ds dv K) {i : Nat} (hi : i < ds.length) :
    ∃ A cap, w.cell? ⟨db, i * 4 + 3, none⟩ = some (.slice A (waitsAt ds i) cap) ∧ waitsAt ds i ≤ cap ∧ cap ≤ 9223372036854775807 ∧ (0 < waitsAt ds i → ∃ g off, A = some ⟨g, off, none⟩ ∧ w.cell? ⟨g, off, none⟩ = some (.int .i64 (stepAt ds i))) := by
  obtain ⟨A, cap, h1, h2, h3, h4⟩ := (h.at_ i ds[i] (List.getElem?_eq_getElem hi)).ws
  have e : waitsAt ds i = ds[i].ws.length := by simp [waitsAt, hi]
  rw [e]
  refine ⟨A, cap, (h.blk.cell _).trans h1, h2, h3, fun hp => ?_⟩
  obtain ⟨g, off, rfl, hr, _⟩ := h4 hp
  refine ⟨g, off, rfl, ?_⟩
  have e2 : stepAt ds i = headStep ds[i] := by simp [stepAt, hi]
  rw [e2]
  cases hw : ds[i].ws with
  | nil => rw [hw] at hp; simp at hp
  | cons x r =>
    have := hr 0 (.int .i64 x.1) (by rw [hw]; simp [wtCells])
    simpa [headStep, hw] using this
set_option maxHeartbeats 1000000 in
theorem longest_walk (p db c : Nat) (on : Bool) (fuse steps : Int) (ds : List AD) (C : Array Value) (dv : Nat → DV) (K : Nat) (w : World) (hb : Blk w p 58 (plantCells db ds.length c on fuse steps)) (hD : MidsAt w db C ds dv K) (hn : ds.length ≤ 4) :
    Calls Try.prog 37 #[.pointer (some ⟨p, 0, none⟩)] w fun e w' => e = .returned (ptrOf db (pick ds ds.length)) ∧ ∃ m, w' = w.drewN m := by
  have c0 : w.cell? ⟨p, 0, none⟩ = some (.slice (some ⟨db, 0, none⟩) ds.length c) := hb.cell 0
  have hcell := fun i (hi : i < ds.length) => hD.cells hi
  have HC := Lib.hid hcell
  clear hcell hb hD
  generalize hnn : ds.length = n at *
  have HN := Lib.hid hnn
  clear hnn
  go_enter Try.func37, Try.ntmps37
  go_wp2
  go_loopw [3, 11] (fun f i wr => ∃ k m : Nat, k ≤ n ∧ i = .int .i64 k ∧ f = ptrOf db (pick ds k) ∧ wr = w.drewN m) (fun _ i _ => n - (intOf i).toNat)
  case atStart => exact ⟨0, 0, Nat.zero_le _, rfl, rfl, rfl⟩
  case round =>
    obtain ⟨k, m, hk, rfl, rfl, rfl⟩ := hrel
    by_cases hlt : k < n
    · obtain ⟨A, cap, h1, h2, h3, h4⟩ := HC.out k hlt
      have z1 : (0 : Int) ≤ (k : Int) := by omega
      have z2 : (k : Int) < (n : Int) := by omega
      by_cases hw : 0 < waitsAt ds k
      · obtain ⟨g, off, rfl, hg⟩ := h4 hw
        clear h4
        have zw : (0 : Int) < (waitsAt ds k : Int) := by omega
        have zd : decide ((0 : Int) < (waitsAt ds k : Int)) = true := by simp [hw]
        cases hp : pick ds k with
        | none =>
          have e : pick ds (k + 1) = some k := by rw [pick, if_pos hw, hp]
          have E := Lib.hid e
          clear e
          have hnil : ptrOf db (Option.none : Option Nat) = .pointer none := rfl
          rw [hnil]
          have HP := Lib.hid hp
          clear hp hnil
          generalize stepAt ds k = sk at *
          generalize waitsAt ds k = wk at *
          go_wp2_with fail
          go_quiet (fail)
          go_wp2
          go_roundw
          case rel => exact ⟨k + 1, _, by omega, by go_num, by rw [E.out]; rfl, rfl⟩
          case measure => simp [intOf]; omega
        | some j =>
          obtain ⟨hj, hwj⟩ := pick_some ds k j hp
          obtain ⟨Aj, cj, j1, j2, j3, j4⟩ := HC.out j (by omega)
          obtain ⟨gj, oj, rfl, hgj⟩ := j4 hwj
          clear j4
          have zj : (0 : Int) < (waitsAt ds j : Int) := by omega
          have hnil : ptrOf db (some j) = .pointer (some ⟨db, j * 4, Option.none⟩) := rfl
          rw [hnil]
          by_cases hs : stepAt ds k < stepAt ds j
          · have e : pick ds (k + 1) = some k := by rw [pick, if_pos hw, hp]; simp [hs]
            have E := Lib.hid e
            have HP := Lib.hid hp
            clear e hp hnil
            generalize stepAt ds k = sk at *
            generalize stepAt ds j = sj at *
            generalize waitsAt ds k = wk at *
            generalize waitsAt ds j = wj at *
            go_wp2_with fail
            go_quiet (fail)
            go_wp2
            go_roundw
            case rel => exact ⟨k + 1, _, by omega, by go_num, by rw [E.out]; rfl, rfl⟩
            case measure => simp [intOf]; omega
          · have e : pick ds (k + 1) = some j := by rw [pick, if_pos hw, hp]; simp [hs]
            have E := Lib.hid e
            have HP := Lib.hid hp
            clear e hp hnil
            generalize stepAt ds k = sk at *
            generalize stepAt ds j = sj at *
            generalize waitsAt ds k = wk at *
            generalize waitsAt ds j = wj at *
            have hs : sj ≤ sk := by omega
            go_wp2_with fail
            go_quiet (fail)
            go_wp2
            go_roundw
            case rel => exact ⟨k + 1, _, by omega, by go_num, by rw [E.out]; rfl, rfl⟩
            case measure => simp [intOf]; omega
      · have hw0 : waitsAt ds k = 0 := by omega
        rw [hw0] at h1
        have e : pick ds (k + 1) = pick ds k := by rw [pick, if_neg hw]
        have E := Lib.hid e
        clear h4 e hw hw0 h2
        generalize hpp : ptrOf db (pick ds k) = pp
        have HP := Lib.hid hpp
        clear hpp
        go_wp2_with fail
        go_quiet (fail)
        go_wp2
        go_roundw
        case rel => exact ⟨k + 1, _, by omega, by go_num, by rw [E.out]; exact HP.out.symm, rfl⟩
        case measure => simp [intOf]; omega
    · obtain rfl : k = n := by omega
      go_wp2
      go_ret
      exact ⟨rfl, _, rfl⟩
end Go.Proofs.Ytgdlidjjogoiaaa
