/-
  No cell of these rows narrows 'for every input' (looked for: loops, veiled, ifaces, maps, wideKeys, modest, calm, conditions, laid).
  DERIVED. THE GIVEN ROWS OF THIS SEAT. 7 by the template 'for every input the law returns true; each argument reads behind the call as it read before'; 0 by the template 'total and deterministic' (their statements: YtcgndcapdodhlaaTotals.lean).
  GIVEN WITH THE SEED: the statements are not yours to turn. If you find one false, say at which input.
  Laid BY PROGRAM, IN A SANDBOX (cutbox-rows.mjs): the forced cells as the released guide's own fill.sh prints them over the translation 8ebb0068338a21bb… (all of the seat's roots in one cut). By AI agents, Wed Nov 11 2026. No macro, syntax, notation, axiom, sorry.
-/
import Derived.Test.YtcgndcapdodhlaaChecked
import GoSem.Claim
import GoSem.ClaimJoined
import GoSem.ClaimMapViews
import Derived.JoinedTies
import Derived.KernelRfl
namespace Go.Proofs.Ytcgndcapdodhlaa
/- THE CELL 'sum', in the pinned program and in every row, IS THE sha256 OF THE DUMP (.gsa) THAT YtcgndcapdodhlaaProg.lean LOADS. Nothing in Lean hashes anything: it is a label: what it is worth is what the hold of that sum in a sandbox is worth. -/
noncomputable def Try.pinned : Pinned := { name := "ytcgndcapdodhlaa", sum := "8ebb0068338a21bb5cd6b29a31771dd1f777322168cf6cf688aca83eeeef54ff", checked := Try.checked }
namespace Rows
def none {H : Type} : Left H := { results := [], args := [] }

/-- 'soundpostlaw09.TempoSampleSpec': WHATEVER THE INPUT: true; the input reads as it did. -/
def tempoSampleSpecSpec : ChangeSpec := { name := "tempoSampleSpec", fn := fun _ => fun
  | [d1, d2] => { results := [.lit (.bool true)], args := [d1, d2] }
  | _ => none }
def tempoSampleSpecRow : OpenClaim := { program := "ytcgndcapdodhlaa", sum := "8ebb0068338a21bb5cd6b29a31771dd1f777322168cf6cf688aca83eeeef54ff", func := "soundpost/soundpostlaw09.TempoSampleSpec", spec := "tempoSampleSpec", unfollowed := true, recurses := true, apart := false }
def TempoSampleSpecSaid : Prop := tempoSampleSpecRow.holds Try.pinned (OpenSpec.ofChange tempoSampleSpecSpec)

/-- ITS FALSE NEIGHBOUR: 'it returns false'. Refute it at one input. -/
def tempoSampleSpecWrong : ChangeSpec := { name := "tempoSampleSpec", fn := fun _ => fun
  | [d1, d2] => { results := [.lit (.bool false)], args := [d1, d2] }
  | _ => none }
def TempoSampleSpecWrongFalsely : Prop := tempoSampleSpecRow.holds Try.pinned (OpenSpec.ofChange tempoSampleSpecWrong)

/-- 'soundpostlaw09.TempoTickSpec': WHATEVER THE INPUT: true; the input reads as it did. -/
def tempoTickSpecSpec : ChangeSpec := { name := "tempoTickSpec", fn := fun _ => fun
  | [d1, d2] => { results := [.lit (.bool true)], args := [d1, d2] }
  | _ => none }
def tempoTickSpecRow : OpenClaim := { program := "ytcgndcapdodhlaa", sum := "8ebb0068338a21bb5cd6b29a31771dd1f777322168cf6cf688aca83eeeef54ff", func := "soundpost/soundpostlaw09.TempoTickSpec", spec := "tempoTickSpec", unfollowed := true, recurses := true, apart := false }
def TempoTickSpecSaid : Prop := tempoTickSpecRow.holds Try.pinned (OpenSpec.ofChange tempoTickSpecSpec)

/-- ITS FALSE NEIGHBOUR: 'it returns false'. Refute it at one input. -/
def tempoTickSpecWrong : ChangeSpec := { name := "tempoTickSpec", fn := fun _ => fun
  | [d1, d2] => { results := [.lit (.bool false)], args := [d1, d2] }
  | _ => none }
def TempoTickSpecWrongFalsely : Prop := tempoTickSpecRow.holds Try.pinned (OpenSpec.ofChange tempoTickSpecWrong)

/-- 'soundpostlaw09.TempoInsertSpec': WHATEVER THE INPUT: true; the input reads as it did. -/
def tempoInsertSpecSpec : ChangeSpec := { name := "tempoInsertSpec", fn := fun _ => fun
  | [d1, d2] => { results := [.lit (.bool true)], args := [d1, d2] }
  | _ => none }
def tempoInsertSpecRow : OpenClaim := { program := "ytcgndcapdodhlaa", sum := "8ebb0068338a21bb5cd6b29a31771dd1f777322168cf6cf688aca83eeeef54ff", func := "soundpost/soundpostlaw09.TempoInsertSpec", spec := "tempoInsertSpec", unfollowed := true, recurses := true, apart := false }
def TempoInsertSpecSaid : Prop := tempoInsertSpecRow.holds Try.pinned (OpenSpec.ofChange tempoInsertSpecSpec)

/-- ITS FALSE NEIGHBOUR: 'it returns false'. Refute it at one input. -/
def tempoInsertSpecWrong : ChangeSpec := { name := "tempoInsertSpec", fn := fun _ => fun
  | [d1, d2] => { results := [.lit (.bool false)], args := [d1, d2] }
  | _ => none }
def TempoInsertSpecWrongFalsely : Prop := tempoInsertSpecRow.holds Try.pinned (OpenSpec.ofChange tempoInsertSpecWrong)

/-- 'soundpostlaw09.TempoInverse': WHATEVER THE INPUT: true; the input reads as it did. -/
def tempoInverseSpec : ChangeSpec := { name := "tempoInverse", fn := fun _ => fun
  | [d1, d2, d3] => { results := [.lit (.bool true)], args := [d1, d2, d3] }
  | _ => none }
def tempoInverseRow : OpenClaim := { program := "ytcgndcapdodhlaa", sum := "8ebb0068338a21bb5cd6b29a31771dd1f777322168cf6cf688aca83eeeef54ff", func := "soundpost/soundpostlaw09.TempoInverse", spec := "tempoInverse", unfollowed := true, recurses := true, apart := false }
def TempoInverseSaid : Prop := tempoInverseRow.holds Try.pinned (OpenSpec.ofChange tempoInverseSpec)

/-- ITS FALSE NEIGHBOUR: 'it returns false'. Refute it at one input. -/
def tempoInverseWrong : ChangeSpec := { name := "tempoInverse", fn := fun _ => fun
  | [d1, d2, d3] => { results := [.lit (.bool false)], args := [d1, d2, d3] }
  | _ => none }
def TempoInverseWrongFalsely : Prop := tempoInverseRow.holds Try.pinned (OpenSpec.ofChange tempoInverseWrong)

/-- 'soundpostlaw09.TempoMonotone': WHATEVER THE INPUT: true; the input reads as it did. -/
def tempoMonotoneSpec : ChangeSpec := { name := "tempoMonotone", fn := fun _ => fun
  | [d1, d2, d3] => { results := [.lit (.bool true)], args := [d1, d2, d3] }
  | _ => none }
def tempoMonotoneRow : OpenClaim := { program := "ytcgndcapdodhlaa", sum := "8ebb0068338a21bb5cd6b29a31771dd1f777322168cf6cf688aca83eeeef54ff", func := "soundpost/soundpostlaw09.TempoMonotone", spec := "tempoMonotone", unfollowed := true, recurses := true, apart := false }
def TempoMonotoneSaid : Prop := tempoMonotoneRow.holds Try.pinned (OpenSpec.ofChange tempoMonotoneSpec)

/-- ITS FALSE NEIGHBOUR: 'it returns false'. Refute it at one input. -/
def tempoMonotoneWrong : ChangeSpec := { name := "tempoMonotone", fn := fun _ => fun
  | [d1, d2, d3] => { results := [.lit (.bool false)], args := [d1, d2, d3] }
  | _ => none }
def TempoMonotoneWrongFalsely : Prop := tempoMonotoneRow.holds Try.pinned (OpenSpec.ofChange tempoMonotoneWrong)

/-- 'soundpostlaw09.TempoInserted': WHATEVER THE INPUT: true; the input reads as it did. -/
def tempoInsertedSpec : ChangeSpec := { name := "tempoInserted", fn := fun _ => fun
  | [d1, d2, d3] => { results := [.lit (.bool true)], args := [d1, d2, d3] }
  | _ => none }
def tempoInsertedRow : OpenClaim := { program := "ytcgndcapdodhlaa", sum := "8ebb0068338a21bb5cd6b29a31771dd1f777322168cf6cf688aca83eeeef54ff", func := "soundpost/soundpostlaw09.TempoInserted", spec := "tempoInserted", unfollowed := true, recurses := true, apart := false }
def TempoInsertedSaid : Prop := tempoInsertedRow.holds Try.pinned (OpenSpec.ofChange tempoInsertedSpec)

/-- ITS FALSE NEIGHBOUR: 'it returns false'. Refute it at one input. -/
def tempoInsertedWrong : ChangeSpec := { name := "tempoInserted", fn := fun _ => fun
  | [d1, d2, d3] => { results := [.lit (.bool false)], args := [d1, d2, d3] }
  | _ => none }
def TempoInsertedWrongFalsely : Prop := tempoInsertedRow.holds Try.pinned (OpenSpec.ofChange tempoInsertedWrong)

/-- 'soundpostlaw09.TempoSplit': WHATEVER THE INPUT: true; the input reads as it did. -/
def tempoSplitSpec : ChangeSpec := { name := "tempoSplit", fn := fun _ => fun
  | [d1, d2, d3] => { results := [.lit (.bool true)], args := [d1, d2, d3] }
  | _ => none }
def tempoSplitRow : OpenClaim := { program := "ytcgndcapdodhlaa", sum := "8ebb0068338a21bb5cd6b29a31771dd1f777322168cf6cf688aca83eeeef54ff", func := "soundpost/soundpostlaw09.TempoSplit", spec := "tempoSplit", unfollowed := true, recurses := true, apart := false }
def TempoSplitSaid : Prop := tempoSplitRow.holds Try.pinned (OpenSpec.ofChange tempoSplitSpec)

/-- ITS FALSE NEIGHBOUR: 'it returns false'. Refute it at one input. -/
def tempoSplitWrong : ChangeSpec := { name := "tempoSplit", fn := fun _ => fun
  | [d1, d2, d3] => { results := [.lit (.bool false)], args := [d1, d2, d3] }
  | _ => none }
def TempoSplitWrongFalsely : Prop := tempoSplitRow.holds Try.pinned (OpenSpec.ofChange tempoSplitWrong)

/- THE SECOND FORM. 'bulk': how many values and letters a reading holds, each counted each time it is reached (what is shared counts as often as it is met; a slice's spare places count too). A statement '..UptoSaid' is the law's where the arguments, and the package variables that the reading takes, are together of bulk at most 1048576: NARROWER than '..Said'. Prove '..Said' where nothing that the law and all that it calls make is longer than what came in: it says more and counts as full. Else prove '..UptoSaid'. A law counts once. -/
mutual
def uptoBulk {H : Type} : DataW H → Nat
  | .lit (.string bytes) => bytes.length + 1
  | .lit _ => 1
  | .nil => 1
  | .ptr d => uptoBulk d + 1
  | .slice elems spare => uptoBulkAll elems + uptoBulkAll spare + 1
  | .agg parts => uptoBulkAll parts + 1
  | .iface _ d => uptoBulk d + 1
  | .map entries => uptoBulkEntries entries + 1
  | .held _ => 1
def uptoBulkAll {H : Type} : List (DataW H) → Nat
  | [] => 0
  | d :: r => uptoBulk d + uptoBulkAll r
def uptoBulkEntries {H : Type} : List (Lit × DataW H) → Nat
  | [] => 0
  | x :: r => uptoBulkEntry x + uptoBulkEntries r
def uptoBulkEntry {H : Type} : Lit × DataW H → Nat
  | (.string bytes, d) => bytes.length + uptoBulk d + 1
  | (_, d) => uptoBulk d + 1
 end
def uptoSmall : (H : Type) → List (DataW H) → Bool := fun _ ds => decide (uptoBulkAll ds ≤ 1048576)
def OpenSpec.upto (s : _root_.Go.ChangeSpec) : _root_.Go.OpenSpec := { _root_.Go.OpenSpec.ofChange s with cond := some uptoSmall }

/-- 'soundpostlaw09.TempoSampleSpec', WHERE WHAT IT READS IS OF BULK AT MOST 1048576: true; the input reads as it did. -/
def tempoSampleSpecUptoRow : OpenClaim := { program := "ytcgndcapdodhlaa", sum := "8ebb0068338a21bb5cd6b29a31771dd1f777322168cf6cf688aca83eeeef54ff", func := "soundpost/soundpostlaw09.TempoSampleSpec", spec := "tempoSampleSpec", unfollowed := true, recurses := true, apart := false, narrowed := true }
def TempoSampleSpecUptoSaid : Prop := tempoSampleSpecUptoRow.holds Try.pinned (OpenSpec.upto tempoSampleSpecSpec)

/-- 'soundpostlaw09.TempoTickSpec', WHERE WHAT IT READS IS OF BULK AT MOST 1048576: true; the input reads as it did. -/
def tempoTickSpecUptoRow : OpenClaim := { program := "ytcgndcapdodhlaa", sum := "8ebb0068338a21bb5cd6b29a31771dd1f777322168cf6cf688aca83eeeef54ff", func := "soundpost/soundpostlaw09.TempoTickSpec", spec := "tempoTickSpec", unfollowed := true, recurses := true, apart := false, narrowed := true }
def TempoTickSpecUptoSaid : Prop := tempoTickSpecUptoRow.holds Try.pinned (OpenSpec.upto tempoTickSpecSpec)

/-- 'soundpostlaw09.TempoInsertSpec', WHERE WHAT IT READS IS OF BULK AT MOST 1048576: true; the input reads as it did. -/
def tempoInsertSpecUptoRow : OpenClaim := { program := "ytcgndcapdodhlaa", sum := "8ebb0068338a21bb5cd6b29a31771dd1f777322168cf6cf688aca83eeeef54ff", func := "soundpost/soundpostlaw09.TempoInsertSpec", spec := "tempoInsertSpec", unfollowed := true, recurses := true, apart := false, narrowed := true }
def TempoInsertSpecUptoSaid : Prop := tempoInsertSpecUptoRow.holds Try.pinned (OpenSpec.upto tempoInsertSpecSpec)

/-- 'soundpostlaw09.TempoInverse', WHERE WHAT IT READS IS OF BULK AT MOST 1048576: true; the input reads as it did. -/
def tempoInverseUptoRow : OpenClaim := { program := "ytcgndcapdodhlaa", sum := "8ebb0068338a21bb5cd6b29a31771dd1f777322168cf6cf688aca83eeeef54ff", func := "soundpost/soundpostlaw09.TempoInverse", spec := "tempoInverse", unfollowed := true, recurses := true, apart := false, narrowed := true }
def TempoInverseUptoSaid : Prop := tempoInverseUptoRow.holds Try.pinned (OpenSpec.upto tempoInverseSpec)

/-- 'soundpostlaw09.TempoMonotone', WHERE WHAT IT READS IS OF BULK AT MOST 1048576: true; the input reads as it did. -/
def tempoMonotoneUptoRow : OpenClaim := { program := "ytcgndcapdodhlaa", sum := "8ebb0068338a21bb5cd6b29a31771dd1f777322168cf6cf688aca83eeeef54ff", func := "soundpost/soundpostlaw09.TempoMonotone", spec := "tempoMonotone", unfollowed := true, recurses := true, apart := false, narrowed := true }
def TempoMonotoneUptoSaid : Prop := tempoMonotoneUptoRow.holds Try.pinned (OpenSpec.upto tempoMonotoneSpec)

/-- 'soundpostlaw09.TempoInserted', WHERE WHAT IT READS IS OF BULK AT MOST 1048576: true; the input reads as it did. -/
def tempoInsertedUptoRow : OpenClaim := { program := "ytcgndcapdodhlaa", sum := "8ebb0068338a21bb5cd6b29a31771dd1f777322168cf6cf688aca83eeeef54ff", func := "soundpost/soundpostlaw09.TempoInserted", spec := "tempoInserted", unfollowed := true, recurses := true, apart := false, narrowed := true }
def TempoInsertedUptoSaid : Prop := tempoInsertedUptoRow.holds Try.pinned (OpenSpec.upto tempoInsertedSpec)

/-- 'soundpostlaw09.TempoSplit', WHERE WHAT IT READS IS OF BULK AT MOST 1048576: true; the input reads as it did. -/
def tempoSplitUptoRow : OpenClaim := { program := "ytcgndcapdodhlaa", sum := "8ebb0068338a21bb5cd6b29a31771dd1f777322168cf6cf688aca83eeeef54ff", func := "soundpost/soundpostlaw09.TempoSplit", spec := "tempoSplit", unfollowed := true, recurses := true, apart := false, narrowed := true }
def TempoSplitUptoSaid : Prop := tempoSplitUptoRow.holds Try.pinned (OpenSpec.upto tempoSplitSpec)

end Rows
end Go.Proofs.Ytcgndcapdodhlaa
