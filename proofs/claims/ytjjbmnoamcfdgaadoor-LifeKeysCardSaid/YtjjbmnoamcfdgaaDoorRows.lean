/-
  NARROWER THAN 'FOR EVERY INPUT', by the rows' own cells (each row's printed sentence says how): LifeKeys: laid · LifeSame: laid.
  DERIVED. THE GIVEN ROWS OF THIS SEAT. 2 by the template 'for every input the law returns true; each argument reads behind the call as it read before'; 0 by the template 'total and deterministic' (their statements: YtjjbmnoamcfdgaaDoorTotals.lean).
  GIVEN WITH THE SEED: the statements are not yours to turn. If you find one false, say at which input.
  Laid BY PROGRAM, IN A SANDBOX (cutbox-rows.mjs): the forced cells as the released guide's own fill.sh prints them over the translation d52feca48805f88e… (all of the seat's roots in one cut). By AI agents, Wed Nov 11 2026. No macro, syntax, notation, axiom, sorry.
-/
import Derived.Test.YtjjbmnoamcfdgaaDoorChecked
import GoSem.Claim
import GoSem.ClaimJoined
import GoSem.ClaimMapViews
import Derived.JoinedTies
import Derived.KernelRfl
namespace Go.Proofs.YtjjbmnoamcfdgaaDoor
/- THE CELL 'sum', in the pinned program and in every row, IS THE sha256 OF THE DUMP (.gsa) THAT YtjjbmnoamcfdgaaDoorProg.lean LOADS. Nothing in Lean hashes anything: it is a label: what it is worth is what the hold of that sum in a sandbox is worth. -/
noncomputable def Tryd.pinned : Pinned := { name := "ytjjbmnoamcfdgaadoor", sum := "d52feca48805f88ec2b26142e9ff5b4511b348e9434465e0dc33c7aa4865a664", checked := Tryd.checked }
namespace Rows
def none {H : Type} : Left H := { results := [], args := [] }

/- WHAT THE LISTED PACKAGE-LEVEL VARIABLES READ AS WHEN THE CALL BEGINS. Each datum BY PROGRAM (the guide's laid-datum.mjs) off the statement by which the dump's own 'gosem.cut.vars' lays the variable. In a bare row this is a premise. The card (YtjjbmnoamcfdgaaDoorCards.lean) ties it to the program's text. -/
def laid_groat_life_compared {H : Type} : DataW H := .agg [.lit (.int .i64 2), .lit (.int .i64 3), .lit (.int .i64 4), .lit (.int .i64 7), .lit (.int .i64 11), .lit (.int .i64 32), .lit (.int .i64 49)]

/-- 'groatlaw14.LifeKeys': WHATEVER THE INPUT: true; the input reads as it did. -/
def lifeKeysSpec : ChangeSpec := { name := "lifeKeys", fn := fun _ => fun
  | [d1, d2] => { results := [.lit (.bool true)], args := [d1, d2] }
  | _ => none }
def lifeKeysRow : OpenClaim := { program := "ytjjbmnoamcfdgaadoor", sum := "d52feca48805f88ec2b26142e9ff5b4511b348e9434465e0dc33c7aa4865a664", func := "groat/groatlaw14.LifeKeys", spec := "lifeKeys", named := ["groat/life.compared"], apart := false, laid := [("groat/life.compared", laid_groat_life_compared)] }
def LifeKeysSaid : Prop := lifeKeysRow.holds Tryd.pinned (OpenSpec.ofChange lifeKeysSpec)

/-- ITS FALSE NEIGHBOUR: 'it returns false'. Refute it at one input. -/
def lifeKeysWrong : ChangeSpec := { name := "lifeKeys", fn := fun _ => fun
  | [d1, d2] => { results := [.lit (.bool false)], args := [d1, d2] }
  | _ => none }
def LifeKeysWrongFalsely : Prop := lifeKeysRow.holds Tryd.pinned (OpenSpec.ofChange lifeKeysWrong)

/-- 'groatlaw14.LifeSame': WHATEVER THE INPUT: true; the input reads as it did. -/
def lifeSameSpec : ChangeSpec := { name := "lifeSame", fn := fun _ => fun
  | [d] => { results := [.lit (.bool true)], args := [d] }
  | _ => none }
def lifeSameRow : OpenClaim := { program := "ytjjbmnoamcfdgaadoor", sum := "d52feca48805f88ec2b26142e9ff5b4511b348e9434465e0dc33c7aa4865a664", func := "groat/groatlaw14.LifeSame", spec := "lifeSame", named := ["groat/life.compared"], apart := false, laid := [("groat/life.compared", laid_groat_life_compared)] }
def LifeSameSaid : Prop := lifeSameRow.holds Tryd.pinned (OpenSpec.ofChange lifeSameSpec)

/-- ITS FALSE NEIGHBOUR: 'it returns false'. Refute it at one input. -/
def lifeSameWrong : ChangeSpec := { name := "lifeSame", fn := fun _ => fun
  | [d] => { results := [.lit (.bool false)], args := [d] }
  | _ => none }
def LifeSameWrongFalsely : Prop := lifeSameRow.holds Tryd.pinned (OpenSpec.ofChange lifeSameWrong)

/- THE SECOND FORM. 'bulk': how many values and letters a reading holds, each counted each time it is reached (what is shared counts as often as it is met; a slice's spare places count too). A statement '..UptoSaid' is the law's where the arguments, and the package variables that the reading takes, are together of bulk at most 1048576: NARROWER than '..Said'. Prove '..Said' where nothing that the law and all that it calls make is longer than what came in: it says more and counts as full. Else prove '..UptoSaid'. A law counts once. -/
mutual
def uptoBulk {H : Type} : DataW H → Nat
  | .lit (.string bytes) => bytes.length + 1
  | .lit _ => 1
  | .nil => 1
  | .ptr d => uptoBulk d + 1
  | .slice elems spare => uptoBulkAll elems + uptoBulkAll spare + 1
  | .agg parts => uptoBulkAll parts + 1
  | .iface _ d => uptoBulk d + 1
  | .map entries => uptoBulkEntries entries + 1
  | .held _ => 1
def uptoBulkAll {H : Type} : List (DataW H) → Nat
  | [] => 0
  | d :: r => uptoBulk d + uptoBulkAll r
def uptoBulkEntries {H : Type} : List (Lit × DataW H) → Nat
  | [] => 0
  | x :: r => uptoBulkEntry x + uptoBulkEntries r
def uptoBulkEntry {H : Type} : Lit × DataW H → Nat
  | (.string bytes, d) => bytes.length + uptoBulk d + 1
  | (_, d) => uptoBulk d + 1
 end
def uptoSmall : (H : Type) → List (DataW H) → Bool := fun _ ds => decide (uptoBulkAll ds ≤ 1048576)
def OpenSpec.upto (s : _root_.Go.ChangeSpec) : _root_.Go.OpenSpec := { _root_.Go.OpenSpec.ofChange s with cond := some uptoSmall }

/-- 'groatlaw14.LifeKeys', WHERE WHAT IT READS IS OF BULK AT MOST 1048576: true; the input reads as it did. -/
def lifeKeysUptoRow : OpenClaim := { program := "ytjjbmnoamcfdgaadoor", sum := "d52feca48805f88ec2b26142e9ff5b4511b348e9434465e0dc33c7aa4865a664", func := "groat/groatlaw14.LifeKeys", spec := "lifeKeys", named := ["groat/life.compared"], apart := false, laid := [("groat/life.compared", laid_groat_life_compared)], narrowed := true }
def LifeKeysUptoSaid : Prop := lifeKeysUptoRow.holds Tryd.pinned (OpenSpec.upto lifeKeysSpec)

/-- 'groatlaw14.LifeSame', WHERE WHAT IT READS IS OF BULK AT MOST 1048576: true; the input reads as it did. -/
def lifeSameUptoRow : OpenClaim := { program := "ytjjbmnoamcfdgaadoor", sum := "d52feca48805f88ec2b26142e9ff5b4511b348e9434465e0dc33c7aa4865a664", func := "groat/groatlaw14.LifeSame", spec := "lifeSame", named := ["groat/life.compared"], apart := false, laid := [("groat/life.compared", laid_groat_life_compared)], narrowed := true }
def LifeSameUptoSaid : Prop := lifeSameUptoRow.holds Tryd.pinned (OpenSpec.upto lifeSameSpec)

end Rows
end Go.Proofs.YtjjbmnoamcfdgaaDoor
