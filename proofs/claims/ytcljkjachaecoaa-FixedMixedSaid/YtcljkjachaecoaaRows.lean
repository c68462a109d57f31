/-
  No cell of these rows narrows 'for every input' (looked for: loops, veiled, ifaces, maps, wideKeys, modest, calm, conditions, laid).
  DERIVED. THE GIVEN ROWS OF THIS SEAT. 7 by the template 'for every input the law returns true; each argument reads behind the call as it read before'; 0 by the template 'total and deterministic' (their statements: YtcljkjachaecoaaTotals.lean).
  GIVEN WITH THE SEED: the statements are not yours to turn. If you find one false, say at which input.
  Laid BY PROGRAM, IN A SANDBOX (cutbox-rows.mjs): the forced cells as the released guide's own fill.sh prints them over the translation f6d2ebf12502fd8c… (all of the seat's roots in one cut). By AI agents, Wed Nov 11 2026. No macro, syntax, notation, axiom, sorry.
-/
import Derived.Test.YtcljkjachaecoaaChecked
import GoSem.Claim
import GoSem.ClaimJoined
import GoSem.ClaimMapViews
import Derived.JoinedTies
import Derived.KernelRfl
namespace Go.Proofs.Ytcljkjachaecoaa
/- THE CELL 'sum', in the pinned program and in every row, IS THE sha256 OF THE DUMP (.gsa) THAT YtcljkjachaecoaaProg.lean LOADS. Nothing in Lean hashes anything: it is a label: what it is worth is what the hold of that sum in a sandbox is worth. -/
noncomputable def Try.pinned : Pinned := { name := "ytcljkjachaecoaa", sum := "f6d2ebf12502fd8c512b77d75640ae35e18bd3b293e7d86eaebeebe00ce97e17", checked := Try.checked }
namespace Rows
def none {H : Type} : Left H := { results := [], args := [] }

/-- 'soundpostlaw08.FixedSpec': WHATEVER THE INPUT: true; the input reads as it did. -/
def fixedSpecSpec : ChangeSpec := { name := "fixedSpec", fn := fun _ => fun
  | [d1, d2] => { results := [.lit (.bool true)], args := [d1, d2] }
  | _ => none }
def fixedSpecRow : OpenClaim := { program := "ytcljkjachaecoaa", sum := "f6d2ebf12502fd8c512b77d75640ae35e18bd3b293e7d86eaebeebe00ce97e17", func := "soundpost/soundpostlaw08.FixedSpec", spec := "fixedSpec", unfollowed := true, recurses := true, apart := false }
def FixedSpecSaid : Prop := fixedSpecRow.holds Try.pinned (OpenSpec.ofChange fixedSpecSpec)

/-- ITS FALSE NEIGHBOUR: 'it returns false'. Refute it at one input. -/
def fixedSpecWrong : ChangeSpec := { name := "fixedSpec", fn := fun _ => fun
  | [d1, d2] => { results := [.lit (.bool false)], args := [d1, d2] }
  | _ => none }
def FixedSpecWrongFalsely : Prop := fixedSpecRow.holds Try.pinned (OpenSpec.ofChange fixedSpecWrong)

/-- 'soundpostlaw08.FixedMixSpec': WHATEVER THE INPUT: true; the input reads as it did. -/
def fixedMixSpecSpec : ChangeSpec := { name := "fixedMixSpec", fn := fun _ => fun
  | [d] => { results := [.lit (.bool true)], args := [d] }
  | _ => none }
def fixedMixSpecRow : OpenClaim := { program := "ytcljkjachaecoaa", sum := "f6d2ebf12502fd8c512b77d75640ae35e18bd3b293e7d86eaebeebe00ce97e17", func := "soundpost/soundpostlaw08.FixedMixSpec", spec := "fixedMixSpec", unfollowed := true, recurses := true, apart := false }
def FixedMixSpecSaid : Prop := fixedMixSpecRow.holds Try.pinned (OpenSpec.ofChange fixedMixSpecSpec)

/-- ITS FALSE NEIGHBOUR: 'it returns false'. Refute it at one input. -/
def fixedMixSpecWrong : ChangeSpec := { name := "fixedMixSpec", fn := fun _ => fun
  | [d] => { results := [.lit (.bool false)], args := [d] }
  | _ => none }
def FixedMixSpecWrongFalsely : Prop := fixedMixSpecRow.holds Try.pinned (OpenSpec.ofChange fixedMixSpecWrong)

/-- 'soundpostlaw08.FixedLineSpec': WHATEVER THE INPUT: true; the input reads as it did. -/
def fixedLineSpecSpec : ChangeSpec := { name := "fixedLineSpec", fn := fun _ => fun
  | [d1, d2, d3, d4, d5, d6] => { results := [.lit (.bool true)], args := [d1, d2, d3, d4, d5, d6] }
  | _ => none }
def fixedLineSpecRow : OpenClaim := { program := "ytcljkjachaecoaa", sum := "f6d2ebf12502fd8c512b77d75640ae35e18bd3b293e7d86eaebeebe00ce97e17", func := "soundpost/soundpostlaw08.FixedLineSpec", spec := "fixedLineSpec", unfollowed := true, recurses := true, apart := false }
def FixedLineSpecSaid : Prop := fixedLineSpecRow.holds Try.pinned (OpenSpec.ofChange fixedLineSpecSpec)

/-- ITS FALSE NEIGHBOUR: 'it returns false'. Refute it at one input. -/
def fixedLineSpecWrong : ChangeSpec := { name := "fixedLineSpec", fn := fun _ => fun
  | [d1, d2, d3, d4, d5, d6] => { results := [.lit (.bool false)], args := [d1, d2, d3, d4, d5, d6] }
  | _ => none }
def FixedLineSpecWrongFalsely : Prop := fixedLineSpecRow.holds Try.pinned (OpenSpec.ofChange fixedLineSpecWrong)

/-- 'soundpostlaw08.FixedMixed': WHATEVER THE INPUT: true; the input reads as it did. -/
def fixedMixedSpec : ChangeSpec := { name := "fixedMixed", fn := fun _ => fun
  | [d1, d2, d3] => { results := [.lit (.bool true)], args := [d1, d2, d3] }
  | _ => none }
def fixedMixedRow : OpenClaim := { program := "ytcljkjachaecoaa", sum := "f6d2ebf12502fd8c512b77d75640ae35e18bd3b293e7d86eaebeebe00ce97e17", func := "soundpost/soundpostlaw08.FixedMixed", spec := "fixedMixed", unfollowed := true, recurses := true, apart := false }
def FixedMixedSaid : Prop := fixedMixedRow.holds Try.pinned (OpenSpec.ofChange fixedMixedSpec)

/-- ITS FALSE NEIGHBOUR: 'it returns false'. Refute it at one input. -/
def fixedMixedWrong : ChangeSpec := { name := "fixedMixed", fn := fun _ => fun
  | [d1, d2, d3] => { results := [.lit (.bool false)], args := [d1, d2, d3] }
  | _ => none }
def FixedMixedWrongFalsely : Prop := fixedMixedRow.holds Try.pinned (OpenSpec.ofChange fixedMixedWrong)

/-- 'soundpostlaw08.FixedGains': WHATEVER THE INPUT: true; the input reads as it did. -/
def fixedGainsSpec : ChangeSpec := { name := "fixedGains", fn := fun _ => fun
  | [d1, d2] => { results := [.lit (.bool true)], args := [d1, d2] }
  | _ => none }
def fixedGainsRow : OpenClaim := { program := "ytcljkjachaecoaa", sum := "f6d2ebf12502fd8c512b77d75640ae35e18bd3b293e7d86eaebeebe00ce97e17", func := "soundpost/soundpostlaw08.FixedGains", spec := "fixedGains", unfollowed := true, recurses := true, apart := false }
def FixedGainsSaid : Prop := fixedGainsRow.holds Try.pinned (OpenSpec.ofChange fixedGainsSpec)

/-- ITS FALSE NEIGHBOUR: 'it returns false'. Refute it at one input. -/
def fixedGainsWrong : ChangeSpec := { name := "fixedGains", fn := fun _ => fun
  | [d1, d2] => { results := [.lit (.bool false)], args := [d1, d2] }
  | _ => none }
def FixedGainsWrongFalsely : Prop := fixedGainsRow.holds Try.pinned (OpenSpec.ofChange fixedGainsWrong)

/-- 'soundpostlaw08.FixedEnds': WHATEVER THE INPUT: true; the input reads as it did. -/
def fixedEndsSpec : ChangeSpec := { name := "fixedEnds", fn := fun _ => fun
  | [d1, d2, d3, d4, d5, d6] => { results := [.lit (.bool true)], args := [d1, d2, d3, d4, d5, d6] }
  | _ => none }
def fixedEndsRow : OpenClaim := { program := "ytcljkjachaecoaa", sum := "f6d2ebf12502fd8c512b77d75640ae35e18bd3b293e7d86eaebeebe00ce97e17", func := "soundpost/soundpostlaw08.FixedEnds", spec := "fixedEnds", unfollowed := true, recurses := true, apart := false }
def FixedEndsSaid : Prop := fixedEndsRow.holds Try.pinned (OpenSpec.ofChange fixedEndsSpec)

/-- ITS FALSE NEIGHBOUR: 'it returns false'. Refute it at one input. -/
def fixedEndsWrong : ChangeSpec := { name := "fixedEnds", fn := fun _ => fun
  | [d1, d2, d3, d4, d5, d6] => { results := [.lit (.bool false)], args := [d1, d2, d3, d4, d5, d6] }
  | _ => none }
def FixedEndsWrongFalsely : Prop := fixedEndsRow.holds Try.pinned (OpenSpec.ofChange fixedEndsWrong)

/-- 'soundpostlaw08.FixedOrder': WHATEVER THE INPUT: true; the input reads as it did. -/
def fixedOrderSpec : ChangeSpec := { name := "fixedOrder", fn := fun _ => fun
  | [d1, d2, d3] => { results := [.lit (.bool true)], args := [d1, d2, d3] }
  | _ => none }
def fixedOrderRow : OpenClaim := { program := "ytcljkjachaecoaa", sum := "f6d2ebf12502fd8c512b77d75640ae35e18bd3b293e7d86eaebeebe00ce97e17", func := "soundpost/soundpostlaw08.FixedOrder", spec := "fixedOrder", unfollowed := true, recurses := true, apart := false }
def FixedOrderSaid : Prop := fixedOrderRow.holds Try.pinned (OpenSpec.ofChange fixedOrderSpec)

/-- ITS FALSE NEIGHBOUR: 'it returns false'. Refute it at one input. -/
def fixedOrderWrong : ChangeSpec := { name := "fixedOrder", fn := fun _ => fun
  | [d1, d2, d3] => { results := [.lit (.bool false)], args := [d1, d2, d3] }
  | _ => none }
def FixedOrderWrongFalsely : Prop := fixedOrderRow.holds Try.pinned (OpenSpec.ofChange fixedOrderWrong)

/- THE SECOND FORM. 'bulk': how many values and letters a reading holds, each counted each time it is reached (what is shared counts as often as it is met; a slice's spare places count too). A statement '..UptoSaid' is the law's where the arguments, and the package variables that the reading takes, are together of bulk at most 1048576: NARROWER than '..Said'. Prove '..Said' where nothing that the law and all that it calls make is longer than what came in: it says more and counts as full. Else prove '..UptoSaid'. A law counts once. -/
mutual
def uptoBulk {H : Type} : DataW H → Nat
  | .lit (.string bytes) => bytes.length + 1
  | .lit _ => 1
  | .nil => 1
  | .ptr d => uptoBulk d + 1
  | .slice elems spare => uptoBulkAll elems + uptoBulkAll spare + 1
  | .agg parts => uptoBulkAll parts + 1
  | .iface _ d => uptoBulk d + 1
  | .map entries => uptoBulkEntries entries + 1
  | .held _ => 1
def uptoBulkAll {H : Type} : List (DataW H) → Nat
  | [] => 0
  | d :: r => uptoBulk d + uptoBulkAll r
def uptoBulkEntries {H : Type} : List (Lit × DataW H) → Nat
  | [] => 0
  | x :: r => uptoBulkEntry x + uptoBulkEntries r
def uptoBulkEntry {H : Type} : Lit × DataW H → Nat
  | (.string bytes, d) => bytes.length + uptoBulk d + 1
  | (_, d) => uptoBulk d + 1
 end
def uptoSmall : (H : Type) → List (DataW H) → Bool := fun _ ds => decide (uptoBulkAll ds ≤ 1048576)
def OpenSpec.upto (s : _root_.Go.ChangeSpec) : _root_.Go.OpenSpec := { _root_.Go.OpenSpec.ofChange s with cond := some uptoSmall }

/-- 'soundpostlaw08.FixedSpec', WHERE WHAT IT READS IS OF BULK AT MOST 1048576: true; the input reads as it did. -/
def fixedSpecUptoRow : OpenClaim := { program := "ytcljkjachaecoaa", sum := "f6d2ebf12502fd8c512b77d75640ae35e18bd3b293e7d86eaebeebe00ce97e17", func := "soundpost/soundpostlaw08.FixedSpec", spec := "fixedSpec", unfollowed := true, recurses := true, apart := false, narrowed := true }
def FixedSpecUptoSaid : Prop := fixedSpecUptoRow.holds Try.pinned (OpenSpec.upto fixedSpecSpec)

/-- 'soundpostlaw08.FixedMixSpec', WHERE WHAT IT READS IS OF BULK AT MOST 1048576: true; the input reads as it did. -/
def fixedMixSpecUptoRow : OpenClaim := { program := "ytcljkjachaecoaa", sum := "f6d2ebf12502fd8c512b77d75640ae35e18bd3b293e7d86eaebeebe00ce97e17", func := "soundpost/soundpostlaw08.FixedMixSpec", spec := "fixedMixSpec", unfollowed := true, recurses := true, apart := false, narrowed := true }
def FixedMixSpecUptoSaid : Prop := fixedMixSpecUptoRow.holds Try.pinned (OpenSpec.upto fixedMixSpecSpec)

/-- 'soundpostlaw08.FixedLineSpec', WHERE WHAT IT READS IS OF BULK AT MOST 1048576: true; the input reads as it did. -/
def fixedLineSpecUptoRow : OpenClaim := { program := "ytcljkjachaecoaa", sum := "f6d2ebf12502fd8c512b77d75640ae35e18bd3b293e7d86eaebeebe00ce97e17", func := "soundpost/soundpostlaw08.FixedLineSpec", spec := "fixedLineSpec", unfollowed := true, recurses := true, apart := false, narrowed := true }
def FixedLineSpecUptoSaid : Prop := fixedLineSpecUptoRow.holds Try.pinned (OpenSpec.upto fixedLineSpecSpec)

/-- 'soundpostlaw08.FixedMixed', WHERE WHAT IT READS IS OF BULK AT MOST 1048576: true; the input reads as it did. -/
def fixedMixedUptoRow : OpenClaim := { program := "ytcljkjachaecoaa", sum := "f6d2ebf12502fd8c512b77d75640ae35e18bd3b293e7d86eaebeebe00ce97e17", func := "soundpost/soundpostlaw08.FixedMixed", spec := "fixedMixed", unfollowed := true, recurses := true, apart := false, narrowed := true }
def FixedMixedUptoSaid : Prop := fixedMixedUptoRow.holds Try.pinned (OpenSpec.upto fixedMixedSpec)

/-- 'soundpostlaw08.FixedGains', WHERE WHAT IT READS IS OF BULK AT MOST 1048576: true; the input reads as it did. -/
def fixedGainsUptoRow : OpenClaim := { program := "ytcljkjachaecoaa", sum := "f6d2ebf12502fd8c512b77d75640ae35e18bd3b293e7d86eaebeebe00ce97e17", func := "soundpost/soundpostlaw08.FixedGains", spec := "fixedGains", unfollowed := true, recurses := true, apart := false, narrowed := true }
def FixedGainsUptoSaid : Prop := fixedGainsUptoRow.holds Try.pinned (OpenSpec.upto fixedGainsSpec)

/-- 'soundpostlaw08.FixedEnds', WHERE WHAT IT READS IS OF BULK AT MOST 1048576: true; the input reads as it did. -/
def fixedEndsUptoRow : OpenClaim := { program := "ytcljkjachaecoaa", sum := "f6d2ebf12502fd8c512b77d75640ae35e18bd3b293e7d86eaebeebe00ce97e17", func := "soundpost/soundpostlaw08.FixedEnds", spec := "fixedEnds", unfollowed := true, recurses := true, apart := false, narrowed := true }
def FixedEndsUptoSaid : Prop := fixedEndsUptoRow.holds Try.pinned (OpenSpec.upto fixedEndsSpec)

/-- 'soundpostlaw08.FixedOrder', WHERE WHAT IT READS IS OF BULK AT MOST 1048576: true; the input reads as it did. -/
def fixedOrderUptoRow : OpenClaim := { program := "ytcljkjachaecoaa", sum := "f6d2ebf12502fd8c512b77d75640ae35e18bd3b293e7d86eaebeebe00ce97e17", func := "soundpost/soundpostlaw08.FixedOrder", spec := "fixedOrder", unfollowed := true, recurses := true, apart := false, narrowed := true }
def FixedOrderUptoSaid : Prop := fixedOrderUptoRow.holds Try.pinned (OpenSpec.upto fixedOrderSpec)

end Rows
end Go.Proofs.Ytcljkjachaecoaa
