/-
  No cell of these rows narrows 'for every input' (looked for: loops, veiled, ifaces, maps, wideKeys, modest, calm, conditions, laid).
  DERIVED. THE GIVEN ROWS OF THIS SEAT. 7 by the template 'for every input the law returns true; each argument reads behind the call as it read before'; 0 by the template 'total and deterministic' (their statements: YtagikfiiljdpnaaTotals.lean).
  GIVEN WITH THE SEED: the statements are not yours to turn. If you find one false, say at which input.
  Laid BY PROGRAM, IN A SANDBOX (cutbox-rows.mjs): the forced cells as the released guide's own fill.sh prints them over the translation 4940e5a93f5ce9c7… (all of the seat's roots in one cut). By AI agents, Wed Nov 11 2026. No macro, syntax, notation, axiom, sorry.
-/
import Derived.Test.YtagikfiiljdpnaaChecked
import GoSem.Claim
import GoSem.ClaimJoined
import GoSem.ClaimMapViews
import Derived.JoinedTies
import Derived.KernelRfl
namespace Go.Proofs.Ytagikfiiljdpnaa
/- THE CELL 'sum', in the pinned program and in every row, IS THE sha256 OF THE DUMP (.gsa) THAT YtagikfiiljdpnaaProg.lean LOADS. Nothing in Lean hashes anything: it is a label: what it is worth is what the hold of that sum in a sandbox is worth. -/
noncomputable def Try.pinned : Pinned := { name := "ytagikfiiljdpnaa", sum := "4940e5a93f5ce9c7209c3a6da27c95dda0a031a30efc8ada899a12025f6b7e26", checked := Try.checked }
namespace Rows
def none {H : Type} : Left H := { results := [], args := [] }

/-- 'soundpostlaw27.FadesGainSpec': WHATEVER THE INPUT: true; the input reads as it did. -/
def fadesGainSpecSpec : ChangeSpec := { name := "fadesGainSpec", fn := fun _ => fun
  | [d1, d2] => { results := [.lit (.bool true)], args := [d1, d2] }
  | _ => none }
def fadesGainSpecRow : OpenClaim := { program := "ytagikfiiljdpnaa", sum := "4940e5a93f5ce9c7209c3a6da27c95dda0a031a30efc8ada899a12025f6b7e26", func := "soundpost/soundpostlaw27.FadesGainSpec", spec := "fadesGainSpec", unfollowed := true, recurses := true, apart := false }
def FadesGainSpecSaid : Prop := fadesGainSpecRow.holds Try.pinned (OpenSpec.ofChange fadesGainSpecSpec)

/-- ITS FALSE NEIGHBOUR: 'it returns false'. Refute it at one input. -/
def fadesGainSpecWrong : ChangeSpec := { name := "fadesGainSpec", fn := fun _ => fun
  | [d1, d2] => { results := [.lit (.bool false)], args := [d1, d2] }
  | _ => none }
def FadesGainSpecWrongFalsely : Prop := fadesGainSpecRow.holds Try.pinned (OpenSpec.ofChange fadesGainSpecWrong)

/-- 'soundpostlaw27.FadesSpec': WHATEVER THE INPUT: true; the input reads as it did. -/
def fadesSpecSpec : ChangeSpec := { name := "fadesSpec", fn := fun _ => fun
  | [d1, d2] => { results := [.lit (.bool true)], args := [d1, d2] }
  | _ => none }
def fadesSpecRow : OpenClaim := { program := "ytagikfiiljdpnaa", sum := "4940e5a93f5ce9c7209c3a6da27c95dda0a031a30efc8ada899a12025f6b7e26", func := "soundpost/soundpostlaw27.FadesSpec", spec := "fadesSpec", unfollowed := true, recurses := true, apart := false }
def FadesSpecSaid : Prop := fadesSpecRow.holds Try.pinned (OpenSpec.ofChange fadesSpecSpec)

/-- ITS FALSE NEIGHBOUR: 'it returns false'. Refute it at one input. -/
def fadesSpecWrong : ChangeSpec := { name := "fadesSpec", fn := fun _ => fun
  | [d1, d2] => { results := [.lit (.bool false)], args := [d1, d2] }
  | _ => none }
def FadesSpecWrongFalsely : Prop := fadesSpecRow.holds Try.pinned (OpenSpec.ofChange fadesSpecWrong)

/-- 'soundpostlaw27.FadesCrossSpec': WHATEVER THE INPUT: true; the input reads as it did. -/
def fadesCrossSpecSpec : ChangeSpec := { name := "fadesCrossSpec", fn := fun _ => fun
  | [d1, d2, d3] => { results := [.lit (.bool true)], args := [d1, d2, d3] }
  | _ => none }
def fadesCrossSpecRow : OpenClaim := { program := "ytagikfiiljdpnaa", sum := "4940e5a93f5ce9c7209c3a6da27c95dda0a031a30efc8ada899a12025f6b7e26", func := "soundpost/soundpostlaw27.FadesCrossSpec", spec := "fadesCrossSpec", unfollowed := true, recurses := true, apart := false }
def FadesCrossSpecSaid : Prop := fadesCrossSpecRow.holds Try.pinned (OpenSpec.ofChange fadesCrossSpecSpec)

/-- ITS FALSE NEIGHBOUR: 'it returns false'. Refute it at one input. -/
def fadesCrossSpecWrong : ChangeSpec := { name := "fadesCrossSpec", fn := fun _ => fun
  | [d1, d2, d3] => { results := [.lit (.bool false)], args := [d1, d2, d3] }
  | _ => none }
def FadesCrossSpecWrongFalsely : Prop := fadesCrossSpecRow.holds Try.pinned (OpenSpec.ofChange fadesCrossSpecWrong)

/-- 'soundpostlaw27.FadesBetween': WHATEVER THE INPUT: true; the input reads as it did. -/
def fadesBetweenSpec : ChangeSpec := { name := "fadesBetween", fn := fun _ => fun
  | [d1, d2] => { results := [.lit (.bool true)], args := [d1, d2] }
  | _ => none }
def fadesBetweenRow : OpenClaim := { program := "ytagikfiiljdpnaa", sum := "4940e5a93f5ce9c7209c3a6da27c95dda0a031a30efc8ada899a12025f6b7e26", func := "soundpost/soundpostlaw27.FadesBetween", spec := "fadesBetween", unfollowed := true, recurses := true, apart := false }
def FadesBetweenSaid : Prop := fadesBetweenRow.holds Try.pinned (OpenSpec.ofChange fadesBetweenSpec)

/-- ITS FALSE NEIGHBOUR: 'it returns false'. Refute it at one input. -/
def fadesBetweenWrong : ChangeSpec := { name := "fadesBetween", fn := fun _ => fun
  | [d1, d2] => { results := [.lit (.bool false)], args := [d1, d2] }
  | _ => none }
def FadesBetweenWrongFalsely : Prop := fadesBetweenRow.holds Try.pinned (OpenSpec.ofChange fadesBetweenWrong)

/-- 'soundpostlaw27.FadesBack': WHATEVER THE INPUT: true; the input reads as it did. -/
def fadesBackSpec : ChangeSpec := { name := "fadesBack", fn := fun _ => fun
  | [d1, d2, d3] => { results := [.lit (.bool true)], args := [d1, d2, d3] }
  | _ => none }
def fadesBackRow : OpenClaim := { program := "ytagikfiiljdpnaa", sum := "4940e5a93f5ce9c7209c3a6da27c95dda0a031a30efc8ada899a12025f6b7e26", func := "soundpost/soundpostlaw27.FadesBack", spec := "fadesBack", unfollowed := true, recurses := true, apart := false }
def FadesBackSaid : Prop := fadesBackRow.holds Try.pinned (OpenSpec.ofChange fadesBackSpec)

/-- ITS FALSE NEIGHBOUR: 'it returns false'. Refute it at one input. -/
def fadesBackWrong : ChangeSpec := { name := "fadesBack", fn := fun _ => fun
  | [d1, d2, d3] => { results := [.lit (.bool false)], args := [d1, d2, d3] }
  | _ => none }
def FadesBackWrongFalsely : Prop := fadesBackRow.holds Try.pinned (OpenSpec.ofChange fadesBackWrong)

/-- 'soundpostlaw27.FadesOverlap': WHATEVER THE INPUT: true; the input reads as it did. -/
def fadesOverlapSpec : ChangeSpec := { name := "fadesOverlap", fn := fun _ => fun
  | [d1, d2, d3] => { results := [.lit (.bool true)], args := [d1, d2, d3] }
  | _ => none }
def fadesOverlapRow : OpenClaim := { program := "ytagikfiiljdpnaa", sum := "4940e5a93f5ce9c7209c3a6da27c95dda0a031a30efc8ada899a12025f6b7e26", func := "soundpost/soundpostlaw27.FadesOverlap", spec := "fadesOverlap", unfollowed := true, recurses := true, apart := false }
def FadesOverlapSaid : Prop := fadesOverlapRow.holds Try.pinned (OpenSpec.ofChange fadesOverlapSpec)

/-- ITS FALSE NEIGHBOUR: 'it returns false'. Refute it at one input. -/
def fadesOverlapWrong : ChangeSpec := { name := "fadesOverlap", fn := fun _ => fun
  | [d1, d2, d3] => { results := [.lit (.bool false)], args := [d1, d2, d3] }
  | _ => none }
def FadesOverlapWrongFalsely : Prop := fadesOverlapRow.holds Try.pinned (OpenSpec.ofChange fadesOverlapWrong)

/-- 'soundpostlaw27.FadesEqual': WHATEVER THE INPUT: true; the input reads as it did. -/
def fadesEqualSpec : ChangeSpec := { name := "fadesEqual", fn := fun _ => fun
  | [d1, d2, d3] => { results := [.lit (.bool true)], args := [d1, d2, d3] }
  | _ => none }
def fadesEqualRow : OpenClaim := { program := "ytagikfiiljdpnaa", sum := "4940e5a93f5ce9c7209c3a6da27c95dda0a031a30efc8ada899a12025f6b7e26", func := "soundpost/soundpostlaw27.FadesEqual", spec := "fadesEqual", unfollowed := true, recurses := true, apart := false }
def FadesEqualSaid : Prop := fadesEqualRow.holds Try.pinned (OpenSpec.ofChange fadesEqualSpec)

/-- ITS FALSE NEIGHBOUR: 'it returns false'. Refute it at one input. -/
def fadesEqualWrong : ChangeSpec := { name := "fadesEqual", fn := fun _ => fun
  | [d1, d2, d3] => { results := [.lit (.bool false)], args := [d1, d2, d3] }
  | _ => none }
def FadesEqualWrongFalsely : Prop := fadesEqualRow.holds Try.pinned (OpenSpec.ofChange fadesEqualWrong)

/- THE SECOND FORM. 'bulk': how many values and letters a reading holds, each counted each time it is reached (what is shared counts as often as it is met; a slice's spare places count too). A statement '..UptoSaid' is the law's where the arguments, and the package variables that the reading takes, are together of bulk at most 1048576: NARROWER than '..Said'. Prove '..Said' where nothing that the law and all that it calls make is longer than what came in: it says more and counts as full. Else prove '..UptoSaid'. A law counts once. -/
mutual
def uptoBulk {H : Type} : DataW H → Nat
  | .lit (.string bytes) => bytes.length + 1
  | .lit _ => 1
  | .nil => 1
  | .ptr d => uptoBulk d + 1
  | .slice elems spare => uptoBulkAll elems + uptoBulkAll spare + 1
  | .agg parts => uptoBulkAll parts + 1
  | .iface _ d => uptoBulk d + 1
  | .map entries => uptoBulkEntries entries + 1
  | .held _ => 1
def uptoBulkAll {H : Type} : List (DataW H) → Nat
  | [] => 0
  | d :: r => uptoBulk d + uptoBulkAll r
def uptoBulkEntries {H : Type} : List (Lit × DataW H) → Nat
  | [] => 0
  | x :: r => uptoBulkEntry x + uptoBulkEntries r
def uptoBulkEntry {H : Type} : Lit × DataW H → Nat
  | (.string bytes, d) => bytes.length + uptoBulk d + 1
  | (_, d) => uptoBulk d + 1
 end
def uptoSmall : (H : Type) → List (DataW H) → Bool := fun _ ds => decide (uptoBulkAll ds ≤ 1048576)
def OpenSpec.upto (s : _root_.Go.ChangeSpec) : _root_.Go.OpenSpec := { _root_.Go.OpenSpec.ofChange s with cond := some uptoSmall }

/-- 'soundpostlaw27.FadesGainSpec', WHERE WHAT IT READS IS OF BULK AT MOST 1048576: true; the input reads as it did. -/
def fadesGainSpecUptoRow : OpenClaim := { program := "ytagikfiiljdpnaa", sum := "4940e5a93f5ce9c7209c3a6da27c95dda0a031a30efc8ada899a12025f6b7e26", func := "soundpost/soundpostlaw27.FadesGainSpec", spec := "fadesGainSpec", unfollowed := true, recurses := true, apart := false, narrowed := true }
def FadesGainSpecUptoSaid : Prop := fadesGainSpecUptoRow.holds Try.pinned (OpenSpec.upto fadesGainSpecSpec)

/-- 'soundpostlaw27.FadesSpec', WHERE WHAT IT READS IS OF BULK AT MOST 1048576: true; the input reads as it did. -/
def fadesSpecUptoRow : OpenClaim := { program := "ytagikfiiljdpnaa", sum := "4940e5a93f5ce9c7209c3a6da27c95dda0a031a30efc8ada899a12025f6b7e26", func := "soundpost/soundpostlaw27.FadesSpec", spec := "fadesSpec", unfollowed := true, recurses := true, apart := false, narrowed := true }
def FadesSpecUptoSaid : Prop := fadesSpecUptoRow.holds Try.pinned (OpenSpec.upto fadesSpecSpec)

/-- 'soundpostlaw27.FadesCrossSpec', WHERE WHAT IT READS IS OF BULK AT MOST 1048576: true; the input reads as it did. -/
def fadesCrossSpecUptoRow : OpenClaim := { program := "ytagikfiiljdpnaa", sum := "4940e5a93f5ce9c7209c3a6da27c95dda0a031a30efc8ada899a12025f6b7e26", func := "soundpost/soundpostlaw27.FadesCrossSpec", spec := "fadesCrossSpec", unfollowed := true, recurses := true, apart := false, narrowed := true }
def FadesCrossSpecUptoSaid : Prop := fadesCrossSpecUptoRow.holds Try.pinned (OpenSpec.upto fadesCrossSpecSpec)

/-- 'soundpostlaw27.FadesBetween', WHERE WHAT IT READS IS OF BULK AT MOST 1048576: true; the input reads as it did. -/
def fadesBetweenUptoRow : OpenClaim := { program := "ytagikfiiljdpnaa", sum := "4940e5a93f5ce9c7209c3a6da27c95dda0a031a30efc8ada899a12025f6b7e26", func := "soundpost/soundpostlaw27.FadesBetween", spec := "fadesBetween", unfollowed := true, recurses := true, apart := false, narrowed := true }
def FadesBetweenUptoSaid : Prop := fadesBetweenUptoRow.holds Try.pinned (OpenSpec.upto fadesBetweenSpec)

/-- 'soundpostlaw27.FadesBack', WHERE WHAT IT READS IS OF BULK AT MOST 1048576: true; the input reads as it did. -/
def fadesBackUptoRow : OpenClaim := { program := "ytagikfiiljdpnaa", sum := "4940e5a93f5ce9c7209c3a6da27c95dda0a031a30efc8ada899a12025f6b7e26", func := "soundpost/soundpostlaw27.FadesBack", spec := "fadesBack", unfollowed := true, recurses := true, apart := false, narrowed := true }
def FadesBackUptoSaid : Prop := fadesBackUptoRow.holds Try.pinned (OpenSpec.upto fadesBackSpec)

/-- 'soundpostlaw27.FadesOverlap', WHERE WHAT IT READS IS OF BULK AT MOST 1048576: true; the input reads as it did. -/
def fadesOverlapUptoRow : OpenClaim := { program := "ytagikfiiljdpnaa", sum := "4940e5a93f5ce9c7209c3a6da27c95dda0a031a30efc8ada899a12025f6b7e26", func := "soundpost/soundpostlaw27.FadesOverlap", spec := "fadesOverlap", unfollowed := true, recurses := true, apart := false, narrowed := true }
def FadesOverlapUptoSaid : Prop := fadesOverlapUptoRow.holds Try.pinned (OpenSpec.upto fadesOverlapSpec)

/-- 'soundpostlaw27.FadesEqual', WHERE WHAT IT READS IS OF BULK AT MOST 1048576: true; the input reads as it did. -/
def fadesEqualUptoRow : OpenClaim := { program := "ytagikfiiljdpnaa", sum := "4940e5a93f5ce9c7209c3a6da27c95dda0a031a30efc8ada899a12025f6b7e26", func := "soundpost/soundpostlaw27.FadesEqual", spec := "fadesEqual", unfollowed := true, recurses := true, apart := false, narrowed := true }
def FadesEqualUptoSaid : Prop := fadesEqualUptoRow.holds Try.pinned (OpenSpec.upto fadesEqualSpec)

end Rows
end Go.Proofs.Ytagikfiiljdpnaa
