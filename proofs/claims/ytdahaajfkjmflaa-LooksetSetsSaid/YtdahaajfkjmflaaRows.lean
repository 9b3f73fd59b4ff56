/-
  No cell of these rows narrows 'for every input' (looked for: loops, veiled, ifaces, maps, wideKeys, modest, calm, conditions, laid).
  DERIVED. THE GIVEN ROWS OF THIS SEAT. 6 by the template 'for every input the law returns true; each argument reads behind the call as it read before'; 0 by the template 'total and deterministic' (their statements: YtdahaajfkjmflaaTotals.lean).
  GIVEN WITH THE SEED: the statements are not yours to turn. If you find one false, say at which input.
  Laid BY PROGRAM, IN A SANDBOX (cutbox-rows.mjs): the forced cells as the released guide's own fill.sh prints them over the translation 355451b51ce5901d… (all of the seat's roots in one cut). By AI agents, Wed Nov 11 2026. No macro, syntax, notation, axiom, sorry.
-/
import Derived.Test.YtdahaajfkjmflaaChecked
import GoSem.Claim
import GoSem.ClaimJoined
import GoSem.ClaimMapViews
import Derived.JoinedTies
import Derived.KernelRfl
namespace Go.Proofs.Ytdahaajfkjmflaa
/- THE CELL 'sum', in the pinned program and in every row, IS THE sha256 OF THE DUMP (.gsa) THAT YtdahaajfkjmflaaProg.lean LOADS. Nothing in Lean hashes anything: it is a label: what it is worth is what the hold of that sum in a sandbox is worth. -/
noncomputable def Try.pinned : Pinned := { name := "ytdahaajfkjmflaa", sum := "355451b51ce5901d5614ee4abc83520dc1926747bad1b00f57ba79cb960dc158", checked := Try.checked }
namespace Rows
def none {H : Type} : Left H := { results := [], args := [] }

/-- 'stenotypelaw14.LooksetSets': WHATEVER THE INPUT: true; the input reads as it did. -/
def looksetSetsSpec : ChangeSpec := { name := "looksetSets", fn := fun _ => fun
  | [d1, d2, d3, d4] => { results := [.lit (.bool true)], args := [d1, d2, d3, d4] }
  | _ => none }
def looksetSetsRow : OpenClaim := { program := "ytdahaajfkjmflaa", sum := "355451b51ce5901d5614ee4abc83520dc1926747bad1b00f57ba79cb960dc158", func := "stenotype/stenotypelaw14.LooksetSets", spec := "looksetSets", unfollowed := true, recurses := true, plainKeys := false, apart := false }
def LooksetSetsSaid : Prop := looksetSetsRow.holds Try.pinned (OpenSpec.ofChange looksetSetsSpec)

/-- ITS FALSE NEIGHBOUR: 'it returns false'. Refute it at one input. -/
def looksetSetsWrong : ChangeSpec := { name := "looksetSets", fn := fun _ => fun
  | [d1, d2, d3, d4] => { results := [.lit (.bool false)], args := [d1, d2, d3, d4] }
  | _ => none }
def LooksetSetsWrongFalsely : Prop := looksetSetsRow.holds Try.pinned (OpenSpec.ofChange looksetSetsWrong)

/-- 'stenotypelaw14.LooksetSums': WHATEVER THE INPUT: true; the input reads as it did. -/
def looksetSumsSpec : ChangeSpec := { name := "looksetSums", fn := fun _ => fun
  | [d1, d2, d3, d4] => { results := [.lit (.bool true)], args := [d1, d2, d3, d4] }
  | _ => none }
def looksetSumsRow : OpenClaim := { program := "ytdahaajfkjmflaa", sum := "355451b51ce5901d5614ee4abc83520dc1926747bad1b00f57ba79cb960dc158", func := "stenotype/stenotypelaw14.LooksetSums", spec := "looksetSums", unfollowed := true, recurses := true, plainKeys := false, apart := false }
def LooksetSumsSaid : Prop := looksetSumsRow.holds Try.pinned (OpenSpec.ofChange looksetSumsSpec)

/-- ITS FALSE NEIGHBOUR: 'it returns false'. Refute it at one input. -/
def looksetSumsWrong : ChangeSpec := { name := "looksetSums", fn := fun _ => fun
  | [d1, d2, d3, d4] => { results := [.lit (.bool false)], args := [d1, d2, d3, d4] }
  | _ => none }
def LooksetSumsWrongFalsely : Prop := looksetSumsRow.holds Try.pinned (OpenSpec.ofChange looksetSumsWrong)

/-- 'stenotypelaw14.LooksetKnown': WHATEVER THE INPUT: true; the input reads as it did. -/
def looksetKnownSpec : ChangeSpec := { name := "looksetKnown", fn := fun _ => fun
  | [] => { results := [.lit (.bool true)], args := [] }
  | _ => none }
def looksetKnownRow : OpenClaim := { program := "ytdahaajfkjmflaa", sum := "355451b51ce5901d5614ee4abc83520dc1926747bad1b00f57ba79cb960dc158", func := "stenotype/stenotypelaw14.LooksetKnown", spec := "looksetKnown", unfollowed := true, recurses := true, plainKeys := false, apart := false }
def LooksetKnownSaid : Prop := looksetKnownRow.holds Try.pinned (OpenSpec.ofChange looksetKnownSpec)

/-- ITS FALSE NEIGHBOUR: 'it returns false'. Refute it at one input. -/
def looksetKnownWrong : ChangeSpec := { name := "looksetKnown", fn := fun _ => fun
  | [] => { results := [.lit (.bool false)], args := [] }
  | _ => none }
def LooksetKnownWrongFalsely : Prop := looksetKnownRow.holds Try.pinned (OpenSpec.ofChange looksetKnownWrong)

/-- 'stenotypelaw14.LooksetJoins': WHATEVER THE INPUT: true; the input reads as it did. -/
def looksetJoinsSpec : ChangeSpec := { name := "looksetJoins", fn := fun _ => fun
  | [d1, d2, d3] => { results := [.lit (.bool true)], args := [d1, d2, d3] }
  | _ => none }
def looksetJoinsRow : OpenClaim := { program := "ytdahaajfkjmflaa", sum := "355451b51ce5901d5614ee4abc83520dc1926747bad1b00f57ba79cb960dc158", func := "stenotype/stenotypelaw14.LooksetJoins", spec := "looksetJoins", unfollowed := true, recurses := true, plainKeys := false, apart := false }
def LooksetJoinsSaid : Prop := looksetJoinsRow.holds Try.pinned (OpenSpec.ofChange looksetJoinsSpec)

/-- ITS FALSE NEIGHBOUR: 'it returns false'. Refute it at one input. -/
def looksetJoinsWrong : ChangeSpec := { name := "looksetJoins", fn := fun _ => fun
  | [d1, d2, d3] => { results := [.lit (.bool false)], args := [d1, d2, d3] }
  | _ => none }
def LooksetJoinsWrongFalsely : Prop := looksetJoinsRow.holds Try.pinned (OpenSpec.ofChange looksetJoinsWrong)

/-- 'stenotypelaw14.LooksetParts': WHATEVER THE INPUT: true; the input reads as it did. -/
def looksetPartsSpec : ChangeSpec := { name := "looksetParts", fn := fun _ => fun
  | [d1, d2, d3, d4] => { results := [.lit (.bool true)], args := [d1, d2, d3, d4] }
  | _ => none }
def looksetPartsRow : OpenClaim := { program := "ytdahaajfkjmflaa", sum := "355451b51ce5901d5614ee4abc83520dc1926747bad1b00f57ba79cb960dc158", func := "stenotype/stenotypelaw14.LooksetParts", spec := "looksetParts", unfollowed := true, recurses := true, plainKeys := false, apart := false }
def LooksetPartsSaid : Prop := looksetPartsRow.holds Try.pinned (OpenSpec.ofChange looksetPartsSpec)

/-- ITS FALSE NEIGHBOUR: 'it returns false'. Refute it at one input. -/
def looksetPartsWrong : ChangeSpec := { name := "looksetParts", fn := fun _ => fun
  | [d1, d2, d3, d4] => { results := [.lit (.bool false)], args := [d1, d2, d3, d4] }
  | _ => none }
def LooksetPartsWrongFalsely : Prop := looksetPartsRow.holds Try.pinned (OpenSpec.ofChange looksetPartsWrong)

/-- 'stenotypelaw14.LooksetCuts': WHATEVER THE INPUT: true; the input reads as it did. -/
def looksetCutsSpec : ChangeSpec := { name := "looksetCuts", fn := fun _ => fun
  | [d1, d2, d3, d4] => { results := [.lit (.bool true)], args := [d1, d2, d3, d4] }
  | _ => none }
def looksetCutsRow : OpenClaim := { program := "ytdahaajfkjmflaa", sum := "355451b51ce5901d5614ee4abc83520dc1926747bad1b00f57ba79cb960dc158", func := "stenotype/stenotypelaw14.LooksetCuts", spec := "looksetCuts", unfollowed := true, recurses := true, plainKeys := false, apart := false }
def LooksetCutsSaid : Prop := looksetCutsRow.holds Try.pinned (OpenSpec.ofChange looksetCutsSpec)

/-- ITS FALSE NEIGHBOUR: 'it returns false'. Refute it at one input. -/
def looksetCutsWrong : ChangeSpec := { name := "looksetCuts", fn := fun _ => fun
  | [d1, d2, d3, d4] => { results := [.lit (.bool false)], args := [d1, d2, d3, d4] }
  | _ => none }
def LooksetCutsWrongFalsely : Prop := looksetCutsRow.holds Try.pinned (OpenSpec.ofChange looksetCutsWrong)

/- THE SECOND FORM. 'bulk': how many values and letters a reading holds, each counted each time it is reached (what is shared counts as often as it is met; a slice's spare places count too). A statement '..UptoSaid' is the law's where the arguments, and the package variables that the reading takes, are together of bulk at most 1048576: NARROWER than '..Said'. Prove '..Said' where nothing that the law and all that it calls make is longer than what came in: it says more and counts as full. Else prove '..UptoSaid'. A law counts once. -/
mutual
def uptoBulk {H : Type} : DataW H → Nat
  | .lit (.string bytes) => bytes.length + 1
  | .lit _ => 1
  | .nil => 1
  | .ptr d => uptoBulk d + 1
  | .slice elems spare => uptoBulkAll elems + uptoBulkAll spare + 1
  | .agg parts => uptoBulkAll parts + 1
  | .iface _ d => uptoBulk d + 1
  | .map entries => uptoBulkEntries entries + 1
  | .held _ => 1
def uptoBulkAll {H : Type} : List (DataW H) → Nat
  | [] => 0
  | d :: r => uptoBulk d + uptoBulkAll r
def uptoBulkEntries {H : Type} : List (Lit × DataW H) → Nat
  | [] => 0
  | x :: r => uptoBulkEntry x + uptoBulkEntries r
def uptoBulkEntry {H : Type} : Lit × DataW H → Nat
  | (.string bytes, d) => bytes.length + uptoBulk d + 1
  | (_, d) => uptoBulk d + 1
 end
def uptoSmall : (H : Type) → List (DataW H) → Bool := fun _ ds => decide (uptoBulkAll ds ≤ 1048576)
def OpenSpec.upto (s : _root_.Go.ChangeSpec) : _root_.Go.OpenSpec := { _root_.Go.OpenSpec.ofChange s with cond := some uptoSmall }

/-- 'stenotypelaw14.LooksetSets', WHERE WHAT IT READS IS OF BULK AT MOST 1048576: true; the input reads as it did. -/
def looksetSetsUptoRow : OpenClaim := { program := "ytdahaajfkjmflaa", sum := "355451b51ce5901d5614ee4abc83520dc1926747bad1b00f57ba79cb960dc158", func := "stenotype/stenotypelaw14.LooksetSets", spec := "looksetSets", unfollowed := true, recurses := true, plainKeys := false, apart := false, narrowed := true }
def LooksetSetsUptoSaid : Prop := looksetSetsUptoRow.holds Try.pinned (OpenSpec.upto looksetSetsSpec)

/-- 'stenotypelaw14.LooksetSums', WHERE WHAT IT READS IS OF BULK AT MOST 1048576: true; the input reads as it did. -/
def looksetSumsUptoRow : OpenClaim := { program := "ytdahaajfkjmflaa", sum := "355451b51ce5901d5614ee4abc83520dc1926747bad1b00f57ba79cb960dc158", func := "stenotype/stenotypelaw14.LooksetSums", spec := "looksetSums", unfollowed := true, recurses := true, plainKeys := false, apart := false, narrowed := true }
def LooksetSumsUptoSaid : Prop := looksetSumsUptoRow.holds Try.pinned (OpenSpec.upto looksetSumsSpec)

/-- 'stenotypelaw14.LooksetKnown', WHERE WHAT IT READS IS OF BULK AT MOST 1048576: true; the input reads as it did. -/
def looksetKnownUptoRow : OpenClaim := { program := "ytdahaajfkjmflaa", sum := "355451b51ce5901d5614ee4abc83520dc1926747bad1b00f57ba79cb960dc158", func := "stenotype/stenotypelaw14.LooksetKnown", spec := "looksetKnown", unfollowed := true, recurses := true, plainKeys := false, apart := false, narrowed := true }
def LooksetKnownUptoSaid : Prop := looksetKnownUptoRow.holds Try.pinned (OpenSpec.upto looksetKnownSpec)

/-- 'stenotypelaw14.LooksetJoins', WHERE WHAT IT READS IS OF BULK AT MOST 1048576: true; the input reads as it did. -/
def looksetJoinsUptoRow : OpenClaim := { program := "ytdahaajfkjmflaa", sum := "355451b51ce5901d5614ee4abc83520dc1926747bad1b00f57ba79cb960dc158", func := "stenotype/stenotypelaw14.LooksetJoins", spec := "looksetJoins", unfollowed := true, recurses := true, plainKeys := false, apart := false, narrowed := true }
def LooksetJoinsUptoSaid : Prop := looksetJoinsUptoRow.holds Try.pinned (OpenSpec.upto looksetJoinsSpec)

/-- 'stenotypelaw14.LooksetParts', WHERE WHAT IT READS IS OF BULK AT MOST 1048576: true; the input reads as it did. -/
def looksetPartsUptoRow : OpenClaim := { program := "ytdahaajfkjmflaa", sum := "355451b51ce5901d5614ee4abc83520dc1926747bad1b00f57ba79cb960dc158", func := "stenotype/stenotypelaw14.LooksetParts", spec := "looksetParts", unfollowed := true, recurses := true, plainKeys := false, apart := false, narrowed := true }
def LooksetPartsUptoSaid : Prop := looksetPartsUptoRow.holds Try.pinned (OpenSpec.upto looksetPartsSpec)

/-- 'stenotypelaw14.LooksetCuts', WHERE WHAT IT READS IS OF BULK AT MOST 1048576: true; the input reads as it did. -/
def looksetCutsUptoRow : OpenClaim := { program := "ytdahaajfkjmflaa", sum := "355451b51ce5901d5614ee4abc83520dc1926747bad1b00f57ba79cb960dc158", func := "stenotype/stenotypelaw14.LooksetCuts", spec := "looksetCuts", unfollowed := true, recurses := true, plainKeys := false, apart := false, narrowed := true }
def LooksetCutsUptoSaid : Prop := looksetCutsUptoRow.holds Try.pinned (OpenSpec.upto looksetCutsSpec)

end Rows
end Go.Proofs.Ytdahaajfkjmflaa
