/-
  No cell of these rows narrows 'for every input' (looked for: loops, veiled, ifaces, maps, wideKeys, modest, calm, conditions, laid).
  DERIVED. THE GIVEN ROWS OF THIS SEAT. 3 by the template 'for every input the law returns true; each argument reads behind the call as it read before'; 0 by the template 'total and deterministic' (their statements: YtdeilkpcmgcbaaaTotals.lean).
  GIVEN WITH THE SEED: the statements are not yours to turn. If you find one false, say at which input.
  Laid BY PROGRAM, IN A SANDBOX (cutbox-rows.mjs): the forced cells as the released guide's own fill.sh prints them over the translation 2334ff48c47dacef… (all of the seat's roots in one cut). By AI agents, Wed Nov 11 2026. No macro, syntax, notation, axiom, sorry.
-/
import Derived.Test.YtdeilkpcmgcbaaaChecked
import GoSem.Claim
import GoSem.ClaimJoined
import GoSem.ClaimMapViews
import Derived.JoinedTies
import Derived.KernelRfl
namespace Go.Proofs.Ytdeilkpcmgcbaaa
/- THE CELL 'sum', in the pinned program and in every row, IS THE sha256 OF THE DUMP (.gsa) THAT YtdeilkpcmgcbaaaProg.lean LOADS. Nothing in Lean hashes anything: it is a label: what it is worth is what the hold of that sum in a sandbox is worth. -/
noncomputable def Try.pinned : Pinned := { name := "ytdeilkpcmgcbaaa", sum := "2334ff48c47dacef8bf18650c5acebfe6e2911401806cde8ec0303bf9357efd1", checked := Try.checked }
namespace Rows
def none {H : Type} : Left H := { results := [], args := [] }

/-- 'bartizanlaw09.ViewPlays': WHATEVER THE INPUT: true; the input reads as it did. -/
def viewPlaysSpec : ChangeSpec := { name := "viewPlays", fn := fun _ => fun
  | [d1, d2] => { results := [.lit (.bool true)], args := [d1, d2] }
  | _ => none }
def viewPlaysRow : OpenClaim := { program := "ytdeilkpcmgcbaaa", sum := "2334ff48c47dacef8bf18650c5acebfe6e2911401806cde8ec0303bf9357efd1", func := "bartizan/bartizanlaw09.ViewPlays", spec := "viewPlays", inPlace := ["maps.clone", "internal/bytealg.Compare"], unfollowed := true, recurses := true, plainKeys := false, apart := false }
def ViewPlaysSaid : Prop := viewPlaysRow.holds Try.pinned (OpenSpec.ofChange viewPlaysSpec)

/-- ITS FALSE NEIGHBOUR: 'it returns false'. Refute it at one input. -/
def viewPlaysWrong : ChangeSpec := { name := "viewPlays", fn := fun _ => fun
  | [d1, d2] => { results := [.lit (.bool false)], args := [d1, d2] }
  | _ => none }
def ViewPlaysWrongFalsely : Prop := viewPlaysRow.holds Try.pinned (OpenSpec.ofChange viewPlaysWrong)

/-- 'bartizanlaw09.ViewSums': WHATEVER THE INPUT: true; the input reads as it did. -/
def viewSumsSpec : ChangeSpec := { name := "viewSums", fn := fun _ => fun
  | [d1, d2] => { results := [.lit (.bool true)], args := [d1, d2] }
  | _ => none }
def viewSumsRow : OpenClaim := { program := "ytdeilkpcmgcbaaa", sum := "2334ff48c47dacef8bf18650c5acebfe6e2911401806cde8ec0303bf9357efd1", func := "bartizan/bartizanlaw09.ViewSums", spec := "viewSums", inPlace := ["internal/bytealg.Compare"], unfollowed := true, recurses := true, plainKeys := false, apart := false }
def ViewSumsSaid : Prop := viewSumsRow.holds Try.pinned (OpenSpec.ofChange viewSumsSpec)

/-- ITS FALSE NEIGHBOUR: 'it returns false'. Refute it at one input. -/
def viewSumsWrong : ChangeSpec := { name := "viewSums", fn := fun _ => fun
  | [d1, d2] => { results := [.lit (.bool false)], args := [d1, d2] }
  | _ => none }
def ViewSumsWrongFalsely : Prop := viewSumsRow.holds Try.pinned (OpenSpec.ofChange viewSumsWrong)

/-- 'bartizanlaw09.ViewNobody': WHATEVER THE INPUT: true; the input reads as it did. -/
def viewNobodySpec : ChangeSpec := { name := "viewNobody", fn := fun _ => fun
  | [d1, d2] => { results := [.lit (.bool true)], args := [d1, d2] }
  | _ => none }
def viewNobodyRow : OpenClaim := { program := "ytdeilkpcmgcbaaa", sum := "2334ff48c47dacef8bf18650c5acebfe6e2911401806cde8ec0303bf9357efd1", func := "bartizan/bartizanlaw09.ViewNobody", spec := "viewNobody", inPlace := ["internal/bytealg.Compare", "maps.clone"], unfollowed := true, recurses := true, plainKeys := false, apart := false }
def ViewNobodySaid : Prop := viewNobodyRow.holds Try.pinned (OpenSpec.ofChange viewNobodySpec)

/-- ITS FALSE NEIGHBOUR: 'it returns false'. Refute it at one input. -/
def viewNobodyWrong : ChangeSpec := { name := "viewNobody", fn := fun _ => fun
  | [d1, d2] => { results := [.lit (.bool false)], args := [d1, d2] }
  | _ => none }
def ViewNobodyWrongFalsely : Prop := viewNobodyRow.holds Try.pinned (OpenSpec.ofChange viewNobodyWrong)

/- THE SECOND FORM. 'bulk': how many values and letters a reading holds, each counted each time it is reached (what is shared counts as often as it is met; a slice's spare places count too). A statement '..UptoSaid' is the law's where the arguments, and the package variables that the reading takes, are together of bulk at most 1048576: NARROWER than '..Said'. Prove '..Said' where nothing that the law and all that it calls make is longer than what came in: it says more and counts as full. Else prove '..UptoSaid'. A law counts once. -/
mutual
def uptoBulk {H : Type} : DataW H → Nat
  | .lit (.string bytes) => bytes.length + 1
  | .lit _ => 1
  | .nil => 1
  | .ptr d => uptoBulk d + 1
  | .slice elems spare => uptoBulkAll elems + uptoBulkAll spare + 1
  | .agg parts => uptoBulkAll parts + 1
  | .iface _ d => uptoBulk d + 1
  | .map entries => uptoBulkEntries entries + 1
  | .held _ => 1
def uptoBulkAll {H : Type} : List (DataW H) → Nat
  | [] => 0
  | d :: r => uptoBulk d + uptoBulkAll r
def uptoBulkEntries {H : Type} : List (Lit × DataW H) → Nat
  | [] => 0
  | x :: r => uptoBulkEntry x + uptoBulkEntries r
def uptoBulkEntry {H : Type} : Lit × DataW H → Nat
  | (.string bytes, d) => bytes.length + uptoBulk d + 1
  | (_, d) => uptoBulk d + 1
 end
def uptoSmall : (H : Type) → List (DataW H) → Bool := fun _ ds => decide (uptoBulkAll ds ≤ 1048576)
def OpenSpec.upto (s : _root_.Go.ChangeSpec) : _root_.Go.OpenSpec := { _root_.Go.OpenSpec.ofChange s with cond := some uptoSmall }

/-- 'bartizanlaw09.ViewPlays', WHERE WHAT IT READS IS OF BULK AT MOST 1048576: true; the input reads as it did. -/
def viewPlaysUptoRow : OpenClaim := { program := "ytdeilkpcmgcbaaa", sum := "2334ff48c47dacef8bf18650c5acebfe6e2911401806cde8ec0303bf9357efd1", func := "bartizan/bartizanlaw09.ViewPlays", spec := "viewPlays", inPlace := ["maps.clone", "internal/bytealg.Compare"], unfollowed := true, recurses := true, plainKeys := false, apart := false, narrowed := true }
def ViewPlaysUptoSaid : Prop := viewPlaysUptoRow.holds Try.pinned (OpenSpec.upto viewPlaysSpec)

/-- 'bartizanlaw09.ViewSums', WHERE WHAT IT READS IS OF BULK AT MOST 1048576: true; the input reads as it did. -/
def viewSumsUptoRow : OpenClaim := { program := "ytdeilkpcmgcbaaa", sum := "2334ff48c47dacef8bf18650c5acebfe6e2911401806cde8ec0303bf9357efd1", func := "bartizan/bartizanlaw09.ViewSums", spec := "viewSums", inPlace := ["internal/bytealg.Compare"], unfollowed := true, recurses := true, plainKeys := false, apart := false, narrowed := true }
def ViewSumsUptoSaid : Prop := viewSumsUptoRow.holds Try.pinned (OpenSpec.upto viewSumsSpec)

/-- 'bartizanlaw09.ViewNobody', WHERE WHAT IT READS IS OF BULK AT MOST 1048576: true; the input reads as it did. -/
def viewNobodyUptoRow : OpenClaim := { program := "ytdeilkpcmgcbaaa", sum := "2334ff48c47dacef8bf18650c5acebfe6e2911401806cde8ec0303bf9357efd1", func := "bartizan/bartizanlaw09.ViewNobody", spec := "viewNobody", inPlace := ["internal/bytealg.Compare", "maps.clone"], unfollowed := true, recurses := true, plainKeys := false, apart := false, narrowed := true }
def ViewNobodyUptoSaid : Prop := viewNobodyUptoRow.holds Try.pinned (OpenSpec.upto viewNobodySpec)

end Rows
end Go.Proofs.Ytdeilkpcmgcbaaa
