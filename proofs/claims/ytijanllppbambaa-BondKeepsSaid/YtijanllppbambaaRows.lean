/-
  No cell of these rows narrows 'for every input' (looked for: loops, veiled, ifaces, maps, wideKeys, modest, calm, conditions, laid).
  DERIVED. THE GIVEN ROWS OF THIS SEAT. 3 by the template 'for every input the law returns true; each argument reads behind the call as it read before'; 0 by the template 'total and deterministic' (their statements: YtijanllppbambaaTotals.lean).
  GIVEN WITH THE SEED: the statements are not yours to turn. If you find one false, say at which input.
  Laid BY PROGRAM, IN A SANDBOX (cutbox-rows.mjs): the forced cells as the released guide's own fill.sh prints them over the translation 7a74fab77b625f02… (all of the seat's roots in one cut). By AI agents, Wed Nov 11 2026. No macro, syntax, notation, axiom, sorry.
-/
import Derived.Test.YtijanllppbambaaChecked
import GoSem.Claim
import GoSem.ClaimJoined
import GoSem.ClaimMapViews
import Derived.JoinedTies
import Derived.KernelRfl
namespace Go.Proofs.Ytijanllppbambaa
/- THE CELL 'sum', in the pinned program and in every row, IS THE sha256 OF THE DUMP (.gsa) THAT YtijanllppbambaaProg.lean LOADS. Nothing in Lean hashes anything: it is a label: what it is worth is what the hold of that sum in a sandbox is worth. -/
noncomputable def Try.pinned : Pinned := { name := "ytijanllppbambaa", sum := "7a74fab77b625f02b925a3b40a6402445a392272facc5547bfb169fc626a030d", checked := Try.checked }
namespace Rows
def none {H : Type} : Left H := { results := [], args := [] }

/-- 'bartizanlaw10.BondPlays': WHATEVER THE INPUT: true; the input reads as it did. -/
def bondPlaysSpec : ChangeSpec := { name := "bondPlays", fn := fun _ => fun
  | [d] => { results := [.lit (.bool true)], args := [d] }
  | _ => none }
def bondPlaysRow : OpenClaim := { program := "ytijanllppbambaa", sum := "7a74fab77b625f02b925a3b40a6402445a392272facc5547bfb169fc626a030d", func := "bartizan/bartizanlaw10.BondPlays", spec := "bondPlays", unfollowed := true, recurses := true, plainKeys := false, apart := false }
def BondPlaysSaid : Prop := bondPlaysRow.holds Try.pinned (OpenSpec.ofChange bondPlaysSpec)

/-- ITS FALSE NEIGHBOUR: 'it returns false'. Refute it at one input. -/
def bondPlaysWrong : ChangeSpec := { name := "bondPlays", fn := fun _ => fun
  | [d] => { results := [.lit (.bool false)], args := [d] }
  | _ => none }
def BondPlaysWrongFalsely : Prop := bondPlaysRow.holds Try.pinned (OpenSpec.ofChange bondPlaysWrong)

/-- 'bartizanlaw10.BondKeeps': WHATEVER THE INPUT: true; the input reads as it did. -/
def bondKeepsSpec : ChangeSpec := { name := "bondKeeps", fn := fun _ => fun
  | [d] => { results := [.lit (.bool true)], args := [d] }
  | _ => none }
def bondKeepsRow : OpenClaim := { program := "ytijanllppbambaa", sum := "7a74fab77b625f02b925a3b40a6402445a392272facc5547bfb169fc626a030d", func := "bartizan/bartizanlaw10.BondKeeps", spec := "bondKeeps", inPlace := ["maps.clone"], plainKeys := false, apart := false }
def BondKeepsSaid : Prop := bondKeepsRow.holds Try.pinned (OpenSpec.ofChange bondKeepsSpec)

/-- ITS FALSE NEIGHBOUR: 'it returns false'. Refute it at one input. -/
def bondKeepsWrong : ChangeSpec := { name := "bondKeeps", fn := fun _ => fun
  | [d] => { results := [.lit (.bool false)], args := [d] }
  | _ => none }
def BondKeepsWrongFalsely : Prop := bondKeepsRow.holds Try.pinned (OpenSpec.ofChange bondKeepsWrong)

/-- 'bartizanlaw10.BondNobody': WHATEVER THE INPUT: true; the input reads as it did. -/
def bondNobodySpec : ChangeSpec := { name := "bondNobody", fn := fun _ => fun
  | [d1, d2, d3] => { results := [.lit (.bool true)], args := [d1, d2, d3] }
  | _ => none }
def bondNobodyRow : OpenClaim := { program := "ytijanllppbambaa", sum := "7a74fab77b625f02b925a3b40a6402445a392272facc5547bfb169fc626a030d", func := "bartizan/bartizanlaw10.BondNobody", spec := "bondNobody", inPlace := ["maps.clone"], unfollowed := true, recurses := true, plainKeys := false, apart := false }
def BondNobodySaid : Prop := bondNobodyRow.holds Try.pinned (OpenSpec.ofChange bondNobodySpec)

/-- ITS FALSE NEIGHBOUR: 'it returns false'. Refute it at one input. -/
def bondNobodyWrong : ChangeSpec := { name := "bondNobody", fn := fun _ => fun
  | [d1, d2, d3] => { results := [.lit (.bool false)], args := [d1, d2, d3] }
  | _ => none }
def BondNobodyWrongFalsely : Prop := bondNobodyRow.holds Try.pinned (OpenSpec.ofChange bondNobodyWrong)

/- THE SECOND FORM. 'bulk': how many values and letters a reading holds, each counted each time it is reached (what is shared counts as often as it is met; a slice's spare places count too). A statement '..UptoSaid' is the law's where the arguments, and the package variables that the reading takes, are together of bulk at most 1048576: NARROWER than '..Said'. Prove '..Said' where nothing that the law and all that it calls make is longer than what came in: it says more and counts as full. Else prove '..UptoSaid'. A law counts once. -/
mutual
def uptoBulk {H : Type} : DataW H → Nat
  | .lit (.string bytes) => bytes.length + 1
  | .lit _ => 1
  | .nil => 1
  | .ptr d => uptoBulk d + 1
  | .slice elems spare => uptoBulkAll elems + uptoBulkAll spare + 1
  | .agg parts => uptoBulkAll parts + 1
  | .iface _ d => uptoBulk d + 1
  | .map entries => uptoBulkEntries entries + 1
  | .held _ => 1
def uptoBulkAll {H : Type} : List (DataW H) → Nat
  | [] => 0
  | d :: r => uptoBulk d + uptoBulkAll r
def uptoBulkEntries {H : Type} : List (Lit × DataW H) → Nat
  | [] => 0
  | x :: r => uptoBulkEntry x + uptoBulkEntries r
def uptoBulkEntry {H : Type} : Lit × DataW H → Nat
  | (.string bytes, d) => bytes.length + uptoBulk d + 1
  | (_, d) => uptoBulk d + 1
 end
def uptoSmall : (H : Type) → List (DataW H) → Bool := fun _ ds => decide (uptoBulkAll ds ≤ 1048576)
def OpenSpec.upto (s : _root_.Go.ChangeSpec) : _root_.Go.OpenSpec := { _root_.Go.OpenSpec.ofChange s with cond := some uptoSmall }

/-- 'bartizanlaw10.BondPlays', WHERE WHAT IT READS IS OF BULK AT MOST 1048576: true; the input reads as it did. -/
def bondPlaysUptoRow : OpenClaim := { program := "ytijanllppbambaa", sum := "7a74fab77b625f02b925a3b40a6402445a392272facc5547bfb169fc626a030d", func := "bartizan/bartizanlaw10.BondPlays", spec := "bondPlays", unfollowed := true, recurses := true, plainKeys := false, apart := false, narrowed := true }
def BondPlaysUptoSaid : Prop := bondPlaysUptoRow.holds Try.pinned (OpenSpec.upto bondPlaysSpec)

/-- 'bartizanlaw10.BondKeeps', WHERE WHAT IT READS IS OF BULK AT MOST 1048576: true; the input reads as it did. -/
def bondKeepsUptoRow : OpenClaim := { program := "ytijanllppbambaa", sum := "7a74fab77b625f02b925a3b40a6402445a392272facc5547bfb169fc626a030d", func := "bartizan/bartizanlaw10.BondKeeps", spec := "bondKeeps", inPlace := ["maps.clone"], plainKeys := false, apart := false, narrowed := true }
def BondKeepsUptoSaid : Prop := bondKeepsUptoRow.holds Try.pinned (OpenSpec.upto bondKeepsSpec)

/-- 'bartizanlaw10.BondNobody', WHERE WHAT IT READS IS OF BULK AT MOST 1048576: true; the input reads as it did. -/
def bondNobodyUptoRow : OpenClaim := { program := "ytijanllppbambaa", sum := "7a74fab77b625f02b925a3b40a6402445a392272facc5547bfb169fc626a030d", func := "bartizan/bartizanlaw10.BondNobody", spec := "bondNobody", inPlace := ["maps.clone"], unfollowed := true, recurses := true, plainKeys := false, apart := false, narrowed := true }
def BondNobodyUptoSaid : Prop := bondNobodyUptoRow.holds Try.pinned (OpenSpec.upto bondNobodySpec)

end Rows
end Go.Proofs.Ytijanllppbambaa
