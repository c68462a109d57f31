/-
  No cell of these rows narrows 'for every input' (looked for: loops, veiled, ifaces, maps, wideKeys, modest, calm, conditions, laid).
  DERIVED. THE GIVEN ROWS OF THIS SEAT. 8 by the template 'for every input the law returns true; each argument reads behind the call as it read before'; 0 by the template 'total and deterministic' (their statements: YtafffmcmdhbghaaTotals.lean).
  GIVEN WITH THE SEED: the statements are not yours to turn. If you find one false, say at which input.
  Laid BY PROGRAM, IN A SANDBOX (cutbox-rows.mjs): the forced cells as the released guide's own fill.sh prints them over the translation 5591617f604e4898… (all of the seat's roots in one cut). By AI agents, Wed Nov 11 2026. No macro, syntax, notation, axiom, sorry.
-/
import Derived.Test.YtafffmcmdhbghaaChecked
import GoSem.Claim
import GoSem.ClaimJoined
import GoSem.ClaimMapViews
import Derived.JoinedTies
import Derived.KernelRfl
namespace Go.Proofs.Ytafffmcmdhbghaa
/- THE CELL 'sum', in the pinned program and in every row, IS THE sha256 OF THE DUMP (.gsa) THAT YtafffmcmdhbghaaProg.lean LOADS. Nothing in Lean hashes anything: it is a label: what it is worth is what the hold of that sum in a sandbox is worth. -/
noncomputable def Try.pinned : Pinned := { name := "ytafffmcmdhbghaa", sum := "5591617f604e4898a8fab7cb31e0f2733bbb0e7e2f6205f84b253b6cbc1ce39b", checked := Try.checked }
namespace Rows
def none {H : Type} : Left H := { results := [], args := [] }

/-- 'soundpostlaw11.CurvesValueSpec': WHATEVER THE INPUT: true; the input reads as it did. -/
def curvesValueSpecSpec : ChangeSpec := { name := "curvesValueSpec", fn := fun _ => fun
  | [d1, d2] => { results := [.lit (.bool true)], args := [d1, d2] }
  | _ => none }
def curvesValueSpecRow : OpenClaim := { program := "ytafffmcmdhbghaa", sum := "5591617f604e4898a8fab7cb31e0f2733bbb0e7e2f6205f84b253b6cbc1ce39b", func := "soundpost/soundpostlaw11.CurvesValueSpec", spec := "curvesValueSpec", unfollowed := true, recurses := true, apart := false }
def CurvesValueSpecSaid : Prop := curvesValueSpecRow.holds Try.pinned (OpenSpec.ofChange curvesValueSpecSpec)

/-- ITS FALSE NEIGHBOUR: 'it returns false'. Refute it at one input. -/
def curvesValueSpecWrong : ChangeSpec := { name := "curvesValueSpec", fn := fun _ => fun
  | [d1, d2] => { results := [.lit (.bool false)], args := [d1, d2] }
  | _ => none }
def CurvesValueSpecWrongFalsely : Prop := curvesValueSpecRow.holds Try.pinned (OpenSpec.ofChange curvesValueSpecWrong)

/-- 'soundpostlaw11.CurvesValuesSpec': WHATEVER THE INPUT: true; the input reads as it did. -/
def curvesValuesSpecSpec : ChangeSpec := { name := "curvesValuesSpec", fn := fun _ => fun
  | [d1, d2, d3] => { results := [.lit (.bool true)], args := [d1, d2, d3] }
  | _ => none }
def curvesValuesSpecRow : OpenClaim := { program := "ytafffmcmdhbghaa", sum := "5591617f604e4898a8fab7cb31e0f2733bbb0e7e2f6205f84b253b6cbc1ce39b", func := "soundpost/soundpostlaw11.CurvesValuesSpec", spec := "curvesValuesSpec", unfollowed := true, recurses := true, apart := false }
def CurvesValuesSpecSaid : Prop := curvesValuesSpecRow.holds Try.pinned (OpenSpec.ofChange curvesValuesSpecSpec)

/-- ITS FALSE NEIGHBOUR: 'it returns false'. Refute it at one input. -/
def curvesValuesSpecWrong : ChangeSpec := { name := "curvesValuesSpec", fn := fun _ => fun
  | [d1, d2, d3] => { results := [.lit (.bool false)], args := [d1, d2, d3] }
  | _ => none }
def CurvesValuesSpecWrongFalsely : Prop := curvesValuesSpecRow.holds Try.pinned (OpenSpec.ofChange curvesValuesSpecWrong)

/-- 'soundpostlaw11.CurvesResolveSpec': WHATEVER THE INPUT: true; the input reads as it did. -/
def curvesResolveSpecSpec : ChangeSpec := { name := "curvesResolveSpec", fn := fun _ => fun
  | [d1, d2] => { results := [.lit (.bool true)], args := [d1, d2] }
  | _ => none }
def curvesResolveSpecRow : OpenClaim := { program := "ytafffmcmdhbghaa", sum := "5591617f604e4898a8fab7cb31e0f2733bbb0e7e2f6205f84b253b6cbc1ce39b", func := "soundpost/soundpostlaw11.CurvesResolveSpec", spec := "curvesResolveSpec", unfollowed := true, recurses := true, apart := false }
def CurvesResolveSpecSaid : Prop := curvesResolveSpecRow.holds Try.pinned (OpenSpec.ofChange curvesResolveSpecSpec)

/-- ITS FALSE NEIGHBOUR: 'it returns false'. Refute it at one input. -/
def curvesResolveSpecWrong : ChangeSpec := { name := "curvesResolveSpec", fn := fun _ => fun
  | [d1, d2] => { results := [.lit (.bool false)], args := [d1, d2] }
  | _ => none }
def CurvesResolveSpecWrongFalsely : Prop := curvesResolveSpecRow.holds Try.pinned (OpenSpec.ofChange curvesResolveSpecWrong)

/-- 'soundpostlaw11.CurvesBetween': WHATEVER THE INPUT: true; the input reads as it did. -/
def curvesBetweenSpec : ChangeSpec := { name := "curvesBetween", fn := fun _ => fun
  | [d1, d2, d3, d4] => { results := [.lit (.bool true)], args := [d1, d2, d3, d4] }
  | _ => none }
def curvesBetweenRow : OpenClaim := { program := "ytafffmcmdhbghaa", sum := "5591617f604e4898a8fab7cb31e0f2733bbb0e7e2f6205f84b253b6cbc1ce39b", func := "soundpost/soundpostlaw11.CurvesBetween", spec := "curvesBetween", unfollowed := true, recurses := true, apart := false }
def CurvesBetweenSaid : Prop := curvesBetweenRow.holds Try.pinned (OpenSpec.ofChange curvesBetweenSpec)

/-- ITS FALSE NEIGHBOUR: 'it returns false'. Refute it at one input. -/
def curvesBetweenWrong : ChangeSpec := { name := "curvesBetween", fn := fun _ => fun
  | [d1, d2, d3, d4] => { results := [.lit (.bool false)], args := [d1, d2, d3, d4] }
  | _ => none }
def CurvesBetweenWrongFalsely : Prop := curvesBetweenRow.holds Try.pinned (OpenSpec.ofChange curvesBetweenWrong)

/-- 'soundpostlaw11.CurvesEnds': WHATEVER THE INPUT: true; the input reads as it did. -/
def curvesEndsSpec : ChangeSpec := { name := "curvesEnds", fn := fun _ => fun
  | [d1, d2] => { results := [.lit (.bool true)], args := [d1, d2] }
  | _ => none }
def curvesEndsRow : OpenClaim := { program := "ytafffmcmdhbghaa", sum := "5591617f604e4898a8fab7cb31e0f2733bbb0e7e2f6205f84b253b6cbc1ce39b", func := "soundpost/soundpostlaw11.CurvesEnds", spec := "curvesEnds", unfollowed := true, recurses := true, apart := false }
def CurvesEndsSaid : Prop := curvesEndsRow.holds Try.pinned (OpenSpec.ofChange curvesEndsSpec)

/-- ITS FALSE NEIGHBOUR: 'it returns false'. Refute it at one input. -/
def curvesEndsWrong : ChangeSpec := { name := "curvesEnds", fn := fun _ => fun
  | [d1, d2] => { results := [.lit (.bool false)], args := [d1, d2] }
  | _ => none }
def CurvesEndsWrongFalsely : Prop := curvesEndsRow.holds Try.pinned (OpenSpec.ofChange curvesEndsWrong)

/-- 'soundpostlaw11.CurvesLocal': WHATEVER THE INPUT: true; the input reads as it did. -/
def curvesLocalSpec : ChangeSpec := { name := "curvesLocal", fn := fun _ => fun
  | [d1, d2, d3] => { results := [.lit (.bool true)], args := [d1, d2, d3] }
  | _ => none }
def curvesLocalRow : OpenClaim := { program := "ytafffmcmdhbghaa", sum := "5591617f604e4898a8fab7cb31e0f2733bbb0e7e2f6205f84b253b6cbc1ce39b", func := "soundpost/soundpostlaw11.CurvesLocal", spec := "curvesLocal", unfollowed := true, recurses := true, apart := false }
def CurvesLocalSaid : Prop := curvesLocalRow.holds Try.pinned (OpenSpec.ofChange curvesLocalSpec)

/-- ITS FALSE NEIGHBOUR: 'it returns false'. Refute it at one input. -/
def curvesLocalWrong : ChangeSpec := { name := "curvesLocal", fn := fun _ => fun
  | [d1, d2, d3] => { results := [.lit (.bool false)], args := [d1, d2, d3] }
  | _ => none }
def CurvesLocalWrongFalsely : Prop := curvesLocalRow.holds Try.pinned (OpenSpec.ofChange curvesLocalWrong)

/-- 'soundpostlaw11.CurvesMoved': WHATEVER THE INPUT: true; the input reads as it did. -/
def curvesMovedSpec : ChangeSpec := { name := "curvesMoved", fn := fun _ => fun
  | [d1, d2, d3, d4] => { results := [.lit (.bool true)], args := [d1, d2, d3, d4] }
  | _ => none }
def curvesMovedRow : OpenClaim := { program := "ytafffmcmdhbghaa", sum := "5591617f604e4898a8fab7cb31e0f2733bbb0e7e2f6205f84b253b6cbc1ce39b", func := "soundpost/soundpostlaw11.CurvesMoved", spec := "curvesMoved", unfollowed := true, recurses := true, apart := false }
def CurvesMovedSaid : Prop := curvesMovedRow.holds Try.pinned (OpenSpec.ofChange curvesMovedSpec)

/-- ITS FALSE NEIGHBOUR: 'it returns false'. Refute it at one input. -/
def curvesMovedWrong : ChangeSpec := { name := "curvesMoved", fn := fun _ => fun
  | [d1, d2, d3, d4] => { results := [.lit (.bool false)], args := [d1, d2, d3, d4] }
  | _ => none }
def CurvesMovedWrongFalsely : Prop := curvesMovedRow.holds Try.pinned (OpenSpec.ofChange curvesMovedWrong)

/-- 'soundpostlaw11.CurvesResolved': WHATEVER THE INPUT: true; the input reads as it did. -/
def curvesResolvedSpec : ChangeSpec := { name := "curvesResolved", fn := fun _ => fun
  | [d1, d2] => { results := [.lit (.bool true)], args := [d1, d2] }
  | _ => none }
def curvesResolvedRow : OpenClaim := { program := "ytafffmcmdhbghaa", sum := "5591617f604e4898a8fab7cb31e0f2733bbb0e7e2f6205f84b253b6cbc1ce39b", func := "soundpost/soundpostlaw11.CurvesResolved", spec := "curvesResolved", unfollowed := true, recurses := true, apart := false }
def CurvesResolvedSaid : Prop := curvesResolvedRow.holds Try.pinned (OpenSpec.ofChange curvesResolvedSpec)

/-- ITS FALSE NEIGHBOUR: 'it returns false'. Refute it at one input. -/
def curvesResolvedWrong : ChangeSpec := { name := "curvesResolved", fn := fun _ => fun
  | [d1, d2] => { results := [.lit (.bool false)], args := [d1, d2] }
  | _ => none }
def CurvesResolvedWrongFalsely : Prop := curvesResolvedRow.holds Try.pinned (OpenSpec.ofChange curvesResolvedWrong)

/- THE SECOND FORM. 'bulk': how many values and letters a reading holds, each counted each time it is reached (what is shared counts as often as it is met; a slice's spare places count too). A statement '..UptoSaid' is the law's where the arguments, and the package variables that the reading takes, are together of bulk at most 1048576: NARROWER than '..Said'. Prove '..Said' where nothing that the law and all that it calls make is longer than what came in: it says more and counts as full. Else prove '..UptoSaid'. A law counts once. -/
mutual
def uptoBulk {H : Type} : DataW H → Nat
  | .lit (.string bytes) => bytes.length + 1
  | .lit _ => 1
  | .nil => 1
  | .ptr d => uptoBulk d + 1
  | .slice elems spare => uptoBulkAll elems + uptoBulkAll spare + 1
  | .agg parts => uptoBulkAll parts + 1
  | .iface _ d => uptoBulk d + 1
  | .map entries => uptoBulkEntries entries + 1
  | .held _ => 1
def uptoBulkAll {H : Type} : List (DataW H) → Nat
  | [] => 0
  | d :: r => uptoBulk d + uptoBulkAll r
def uptoBulkEntries {H : Type} : List (Lit × DataW H) → Nat
  | [] => 0
  | x :: r => uptoBulkEntry x + uptoBulkEntries r
def uptoBulkEntry {H : Type} : Lit × DataW H → Nat
  | (.string bytes, d) => bytes.length + uptoBulk d + 1
  | (_, d) => uptoBulk d + 1
 end
def uptoSmall : (H : Type) → List (DataW H) → Bool := fun _ ds => decide (uptoBulkAll ds ≤ 1048576)
def OpenSpec.upto (s : _root_.Go.ChangeSpec) : _root_.Go.OpenSpec := { _root_.Go.OpenSpec.ofChange s with cond := some uptoSmall }

/-- 'soundpostlaw11.CurvesValueSpec', WHERE WHAT IT READS IS OF BULK AT MOST 1048576: true; the input reads as it did. -/
def curvesValueSpecUptoRow : OpenClaim := { program := "ytafffmcmdhbghaa", sum := "5591617f604e4898a8fab7cb31e0f2733bbb0e7e2f6205f84b253b6cbc1ce39b", func := "soundpost/soundpostlaw11.CurvesValueSpec", spec := "curvesValueSpec", unfollowed := true, recurses := true, apart := false, narrowed := true }
def CurvesValueSpecUptoSaid : Prop := curvesValueSpecUptoRow.holds Try.pinned (OpenSpec.upto curvesValueSpecSpec)

/-- 'soundpostlaw11.CurvesValuesSpec', WHERE WHAT IT READS IS OF BULK AT MOST 1048576: true; the input reads as it did. -/
def curvesValuesSpecUptoRow : OpenClaim := { program := "ytafffmcmdhbghaa", sum := "5591617f604e4898a8fab7cb31e0f2733bbb0e7e2f6205f84b253b6cbc1ce39b", func := "soundpost/soundpostlaw11.CurvesValuesSpec", spec := "curvesValuesSpec", unfollowed := true, recurses := true, apart := false, narrowed := true }
def CurvesValuesSpecUptoSaid : Prop := curvesValuesSpecUptoRow.holds Try.pinned (OpenSpec.upto curvesValuesSpecSpec)

/-- 'soundpostlaw11.CurvesResolveSpec', WHERE WHAT IT READS IS OF BULK AT MOST 1048576: true; the input reads as it did. -/
def curvesResolveSpecUptoRow : OpenClaim := { program := "ytafffmcmdhbghaa", sum := "5591617f604e4898a8fab7cb31e0f2733bbb0e7e2f6205f84b253b6cbc1ce39b", func := "soundpost/soundpostlaw11.CurvesResolveSpec", spec := "curvesResolveSpec", unfollowed := true, recurses := true, apart := false, narrowed := true }
def CurvesResolveSpecUptoSaid : Prop := curvesResolveSpecUptoRow.holds Try.pinned (OpenSpec.upto curvesResolveSpecSpec)

/-- 'soundpostlaw11.CurvesBetween', WHERE WHAT IT READS IS OF BULK AT MOST 1048576: true; the input reads as it did. -/
def curvesBetweenUptoRow : OpenClaim := { program := "ytafffmcmdhbghaa", sum := "5591617f604e4898a8fab7cb31e0f2733bbb0e7e2f6205f84b253b6cbc1ce39b", func := "soundpost/soundpostlaw11.CurvesBetween", spec := "curvesBetween", unfollowed := true, recurses := true, apart := false, narrowed := true }
def CurvesBetweenUptoSaid : Prop := curvesBetweenUptoRow.holds Try.pinned (OpenSpec.upto curvesBetweenSpec)

/-- 'soundpostlaw11.CurvesEnds', WHERE WHAT IT READS IS OF BULK AT MOST 1048576: true; the input reads as it did. -/
def curvesEndsUptoRow : OpenClaim := { program := "ytafffmcmdhbghaa", sum := "5591617f604e4898a8fab7cb31e0f2733bbb0e7e2f6205f84b253b6cbc1ce39b", func := "soundpost/soundpostlaw11.CurvesEnds", spec := "curvesEnds", unfollowed := true, recurses := true, apart := false, narrowed := true }
def CurvesEndsUptoSaid : Prop := curvesEndsUptoRow.holds Try.pinned (OpenSpec.upto curvesEndsSpec)

/-- 'soundpostlaw11.CurvesLocal', WHERE WHAT IT READS IS OF BULK AT MOST 1048576: true; the input reads as it did. -/
def curvesLocalUptoRow : OpenClaim := { program := "ytafffmcmdhbghaa", sum := "5591617f604e4898a8fab7cb31e0f2733bbb0e7e2f6205f84b253b6cbc1ce39b", func := "soundpost/soundpostlaw11.CurvesLocal", spec := "curvesLocal", unfollowed := true, recurses := true, apart := false, narrowed := true }
def CurvesLocalUptoSaid : Prop := curvesLocalUptoRow.holds Try.pinned (OpenSpec.upto curvesLocalSpec)

/-- 'soundpostlaw11.CurvesMoved', WHERE WHAT IT READS IS OF BULK AT MOST 1048576: true; the input reads as it did. -/
def curvesMovedUptoRow : OpenClaim := { program := "ytafffmcmdhbghaa", sum := "5591617f604e4898a8fab7cb31e0f2733bbb0e7e2f6205f84b253b6cbc1ce39b", func := "soundpost/soundpostlaw11.CurvesMoved", spec := "curvesMoved", unfollowed := true, recurses := true, apart := false, narrowed := true }
def CurvesMovedUptoSaid : Prop := curvesMovedUptoRow.holds Try.pinned (OpenSpec.upto curvesMovedSpec)

/-- 'soundpostlaw11.CurvesResolved', WHERE WHAT IT READS IS OF BULK AT MOST 1048576: true; the input reads as it did. -/
def curvesResolvedUptoRow : OpenClaim := { program := "ytafffmcmdhbghaa", sum := "5591617f604e4898a8fab7cb31e0f2733bbb0e7e2f6205f84b253b6cbc1ce39b", func := "soundpost/soundpostlaw11.CurvesResolved", spec := "curvesResolved", unfollowed := true, recurses := true, apart := false, narrowed := true }
def CurvesResolvedUptoSaid : Prop := curvesResolvedUptoRow.holds Try.pinned (OpenSpec.upto curvesResolvedSpec)

end Rows
end Go.Proofs.Ytafffmcmdhbghaa
