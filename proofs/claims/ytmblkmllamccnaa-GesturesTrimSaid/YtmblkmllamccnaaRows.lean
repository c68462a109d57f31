/-
  No cell of these rows narrows 'for every input' (looked for: loops, veiled, ifaces, maps, wideKeys, modest, calm, conditions, laid).
  DERIVED. THE GIVEN ROWS OF THIS SEAT. 7 by the template 'for every input the law returns true; each argument reads behind the call as it read before'; 0 by the template 'total and deterministic' (their statements: YtmblkmllamccnaaTotals.lean).
  GIVEN WITH THE SEED: the statements are not yours to turn. If you find one false, say at which input.
  Laid BY PROGRAM, IN A SANDBOX (cutbox-rows.mjs): the forced cells as the released guide's own fill.sh prints them over the translation 1b6148d7fb8f9508… (all of the seat's roots in one cut). By AI agents, Wed Nov 11 2026. No macro, syntax, notation, axiom, sorry.
-/
import Derived.Test.YtmblkmllamccnaaChecked
import GoSem.Claim
import GoSem.ClaimJoined
import GoSem.ClaimMapViews
import Derived.JoinedTies
import Derived.KernelRfl
namespace Go.Proofs.Ytmblkmllamccnaa
/- THE CELL 'sum', in the pinned program and in every row, IS THE sha256 OF THE DUMP (.gsa) THAT YtmblkmllamccnaaProg.lean LOADS. Nothing in Lean hashes anything: it is a label: what it is worth is what the hold of that sum in a sandbox is worth. -/
noncomputable def Try.pinned : Pinned := { name := "ytmblkmllamccnaa", sum := "1b6148d7fb8f9508c71d34b2fb00626c8de3daabc8337c735ec9f531f407368d", checked := Try.checked }
namespace Rows
def none {H : Type} : Left H := { results := [], args := [] }

/-- 'soundpostlaw12.GesturesSpec': WHATEVER THE INPUT: true; the input reads as it did. -/
def gesturesSpecSpec : ChangeSpec := { name := "gesturesSpec", fn := fun _ => fun
  | [d1, d2, d3] => { results := [.lit (.bool true)], args := [d1, d2, d3] }
  | _ => none }
def gesturesSpecRow : OpenClaim := { program := "ytmblkmllamccnaa", sum := "1b6148d7fb8f9508c71d34b2fb00626c8de3daabc8337c735ec9f531f407368d", func := "soundpost/soundpostlaw12.GesturesSpec", spec := "gesturesSpec", unfollowed := true, recurses := true, apart := false }
def GesturesSpecSaid : Prop := gesturesSpecRow.holds Try.pinned (OpenSpec.ofChange gesturesSpecSpec)

/-- ITS FALSE NEIGHBOUR: 'it returns false'. Refute it at one input. -/
def gesturesSpecWrong : ChangeSpec := { name := "gesturesSpec", fn := fun _ => fun
  | [d1, d2, d3] => { results := [.lit (.bool false)], args := [d1, d2, d3] }
  | _ => none }
def GesturesSpecWrongFalsely : Prop := gesturesSpecRow.holds Try.pinned (OpenSpec.ofChange gesturesSpecWrong)

/-- 'soundpostlaw12.GesturesValuesSpec': WHATEVER THE INPUT: true; the input reads as it did. -/
def gesturesValuesSpecSpec : ChangeSpec := { name := "gesturesValuesSpec", fn := fun _ => fun
  | [d1, d2, d3] => { results := [.lit (.bool true)], args := [d1, d2, d3] }
  | _ => none }
def gesturesValuesSpecRow : OpenClaim := { program := "ytmblkmllamccnaa", sum := "1b6148d7fb8f9508c71d34b2fb00626c8de3daabc8337c735ec9f531f407368d", func := "soundpost/soundpostlaw12.GesturesValuesSpec", spec := "gesturesValuesSpec", unfollowed := true, recurses := true, apart := false }
def GesturesValuesSpecSaid : Prop := gesturesValuesSpecRow.holds Try.pinned (OpenSpec.ofChange gesturesValuesSpecSpec)

/-- ITS FALSE NEIGHBOUR: 'it returns false'. Refute it at one input. -/
def gesturesValuesSpecWrong : ChangeSpec := { name := "gesturesValuesSpec", fn := fun _ => fun
  | [d1, d2, d3] => { results := [.lit (.bool false)], args := [d1, d2, d3] }
  | _ => none }
def GesturesValuesSpecWrongFalsely : Prop := gesturesValuesSpecRow.holds Try.pinned (OpenSpec.ofChange gesturesValuesSpecWrong)

/-- 'soundpostlaw12.GesturesDivide': WHATEVER THE INPUT: true; the input reads as it did. -/
def gesturesDivideSpec : ChangeSpec := { name := "gesturesDivide", fn := fun _ => fun
  | [d1, d2, d3, d4] => { results := [.lit (.bool true)], args := [d1, d2, d3, d4] }
  | _ => none }
def gesturesDivideRow : OpenClaim := { program := "ytmblkmllamccnaa", sum := "1b6148d7fb8f9508c71d34b2fb00626c8de3daabc8337c735ec9f531f407368d", func := "soundpost/soundpostlaw12.GesturesDivide", spec := "gesturesDivide", unfollowed := true, recurses := true, apart := false }
def GesturesDivideSaid : Prop := gesturesDivideRow.holds Try.pinned (OpenSpec.ofChange gesturesDivideSpec)

/-- ITS FALSE NEIGHBOUR: 'it returns false'. Refute it at one input. -/
def gesturesDivideWrong : ChangeSpec := { name := "gesturesDivide", fn := fun _ => fun
  | [d1, d2, d3, d4] => { results := [.lit (.bool false)], args := [d1, d2, d3, d4] }
  | _ => none }
def GesturesDivideWrongFalsely : Prop := gesturesDivideRow.holds Try.pinned (OpenSpec.ofChange gesturesDivideWrong)

/-- 'soundpostlaw12.GesturesCover': WHATEVER THE INPUT: true; the input reads as it did. -/
def gesturesCoverSpec : ChangeSpec := { name := "gesturesCover", fn := fun _ => fun
  | [d1, d2, d3, d4] => { results := [.lit (.bool true)], args := [d1, d2, d3, d4] }
  | _ => none }
def gesturesCoverRow : OpenClaim := { program := "ytmblkmllamccnaa", sum := "1b6148d7fb8f9508c71d34b2fb00626c8de3daabc8337c735ec9f531f407368d", func := "soundpost/soundpostlaw12.GesturesCover", spec := "gesturesCover", unfollowed := true, recurses := true, apart := false }
def GesturesCoverSaid : Prop := gesturesCoverRow.holds Try.pinned (OpenSpec.ofChange gesturesCoverSpec)

/-- ITS FALSE NEIGHBOUR: 'it returns false'. Refute it at one input. -/
def gesturesCoverWrong : ChangeSpec := { name := "gesturesCover", fn := fun _ => fun
  | [d1, d2, d3, d4] => { results := [.lit (.bool false)], args := [d1, d2, d3, d4] }
  | _ => none }
def GesturesCoverWrongFalsely : Prop := gesturesCoverRow.holds Try.pinned (OpenSpec.ofChange gesturesCoverWrong)

/-- 'soundpostlaw12.GesturesTrim': WHATEVER THE INPUT: true; the input reads as it did. -/
def gesturesTrimSpec : ChangeSpec := { name := "gesturesTrim", fn := fun _ => fun
  | [d1, d2, d3, d4, d5, d6] => { results := [.lit (.bool true)], args := [d1, d2, d3, d4, d5, d6] }
  | _ => none }
def gesturesTrimRow : OpenClaim := { program := "ytmblkmllamccnaa", sum := "1b6148d7fb8f9508c71d34b2fb00626c8de3daabc8337c735ec9f531f407368d", func := "soundpost/soundpostlaw12.GesturesTrim", spec := "gesturesTrim", unfollowed := true, recurses := true, apart := false }
def GesturesTrimSaid : Prop := gesturesTrimRow.holds Try.pinned (OpenSpec.ofChange gesturesTrimSpec)

/-- ITS FALSE NEIGHBOUR: 'it returns false'. Refute it at one input. -/
def gesturesTrimWrong : ChangeSpec := { name := "gesturesTrim", fn := fun _ => fun
  | [d1, d2, d3, d4, d5, d6] => { results := [.lit (.bool false)], args := [d1, d2, d3, d4, d5, d6] }
  | _ => none }
def GesturesTrimWrongFalsely : Prop := gesturesTrimRow.holds Try.pinned (OpenSpec.ofChange gesturesTrimWrong)

/-- 'soundpostlaw12.GesturesHeld': WHATEVER THE INPUT: true; the input reads as it did. -/
def gesturesHeldSpec : ChangeSpec := { name := "gesturesHeld", fn := fun _ => fun
  | [d1, d2, d3] => { results := [.lit (.bool true)], args := [d1, d2, d3] }
  | _ => none }
def gesturesHeldRow : OpenClaim := { program := "ytmblkmllamccnaa", sum := "1b6148d7fb8f9508c71d34b2fb00626c8de3daabc8337c735ec9f531f407368d", func := "soundpost/soundpostlaw12.GesturesHeld", spec := "gesturesHeld", unfollowed := true, recurses := true, apart := false }
def GesturesHeldSaid : Prop := gesturesHeldRow.holds Try.pinned (OpenSpec.ofChange gesturesHeldSpec)

/-- ITS FALSE NEIGHBOUR: 'it returns false'. Refute it at one input. -/
def gesturesHeldWrong : ChangeSpec := { name := "gesturesHeld", fn := fun _ => fun
  | [d1, d2, d3] => { results := [.lit (.bool false)], args := [d1, d2, d3] }
  | _ => none }
def GesturesHeldWrongFalsely : Prop := gesturesHeldRow.holds Try.pinned (OpenSpec.ofChange gesturesHeldWrong)

/-- 'soundpostlaw12.GesturesEach': WHATEVER THE INPUT: true; the input reads as it did. -/
def gesturesEachSpec : ChangeSpec := { name := "gesturesEach", fn := fun _ => fun
  | [d1, d2, d3] => { results := [.lit (.bool true)], args := [d1, d2, d3] }
  | _ => none }
def gesturesEachRow : OpenClaim := { program := "ytmblkmllamccnaa", sum := "1b6148d7fb8f9508c71d34b2fb00626c8de3daabc8337c735ec9f531f407368d", func := "soundpost/soundpostlaw12.GesturesEach", spec := "gesturesEach", unfollowed := true, recurses := true, apart := false }
def GesturesEachSaid : Prop := gesturesEachRow.holds Try.pinned (OpenSpec.ofChange gesturesEachSpec)

/-- ITS FALSE NEIGHBOUR: 'it returns false'. Refute it at one input. -/
def gesturesEachWrong : ChangeSpec := { name := "gesturesEach", fn := fun _ => fun
  | [d1, d2, d3] => { results := [.lit (.bool false)], args := [d1, d2, d3] }
  | _ => none }
def GesturesEachWrongFalsely : Prop := gesturesEachRow.holds Try.pinned (OpenSpec.ofChange gesturesEachWrong)

/- THE SECOND FORM. 'bulk': how many values and letters a reading holds, each counted each time it is reached (what is shared counts as often as it is met; a slice's spare places count too). A statement '..UptoSaid' is the law's where the arguments, and the package variables that the reading takes, are together of bulk at most 1048576: NARROWER than '..Said'. Prove '..Said' where nothing that the law and all that it calls make is longer than what came in: it says more and counts as full. Else prove '..UptoSaid'. A law counts once. -/
mutual
def uptoBulk {H : Type} : DataW H → Nat
  | .lit (.string bytes) => bytes.length + 1
  | .lit _ => 1
  | .nil => 1
  | .ptr d => uptoBulk d + 1
  | .slice elems spare => uptoBulkAll elems + uptoBulkAll spare + 1
  | .agg parts => uptoBulkAll parts + 1
  | .iface _ d => uptoBulk d + 1
  | .map entries => uptoBulkEntries entries + 1
  | .held _ => 1
def uptoBulkAll {H : Type} : List (DataW H) → Nat
  | [] => 0
  | d :: r => uptoBulk d + uptoBulkAll r
def uptoBulkEntries {H : Type} : List (Lit × DataW H) → Nat
  | [] => 0
  | x :: r => uptoBulkEntry x + uptoBulkEntries r
def uptoBulkEntry {H : Type} : Lit × DataW H → Nat
  | (.string bytes, d) => bytes.length + uptoBulk d + 1
  | (_, d) => uptoBulk d + 1
 end
def uptoSmall : (H : Type) → List (DataW H) → Bool := fun _ ds => decide (uptoBulkAll ds ≤ 1048576)
def OpenSpec.upto (s : _root_.Go.ChangeSpec) : _root_.Go.OpenSpec := { _root_.Go.OpenSpec.ofChange s with cond := some uptoSmall }

/-- 'soundpostlaw12.GesturesSpec', WHERE WHAT IT READS IS OF BULK AT MOST 1048576: true; the input reads as it did. -/
def gesturesSpecUptoRow : OpenClaim := { program := "ytmblkmllamccnaa", sum := "1b6148d7fb8f9508c71d34b2fb00626c8de3daabc8337c735ec9f531f407368d", func := "soundpost/soundpostlaw12.GesturesSpec", spec := "gesturesSpec", unfollowed := true, recurses := true, apart := false, narrowed := true }
def GesturesSpecUptoSaid : Prop := gesturesSpecUptoRow.holds Try.pinned (OpenSpec.upto gesturesSpecSpec)

/-- 'soundpostlaw12.GesturesValuesSpec', WHERE WHAT IT READS IS OF BULK AT MOST 1048576: true; the input reads as it did. -/
def gesturesValuesSpecUptoRow : OpenClaim := { program := "ytmblkmllamccnaa", sum := "1b6148d7fb8f9508c71d34b2fb00626c8de3daabc8337c735ec9f531f407368d", func := "soundpost/soundpostlaw12.GesturesValuesSpec", spec := "gesturesValuesSpec", unfollowed := true, recurses := true, apart := false, narrowed := true }
def GesturesValuesSpecUptoSaid : Prop := gesturesValuesSpecUptoRow.holds Try.pinned (OpenSpec.upto gesturesValuesSpecSpec)

/-- 'soundpostlaw12.GesturesDivide', WHERE WHAT IT READS IS OF BULK AT MOST 1048576: true; the input reads as it did. -/
def gesturesDivideUptoRow : OpenClaim := { program := "ytmblkmllamccnaa", sum := "1b6148d7fb8f9508c71d34b2fb00626c8de3daabc8337c735ec9f531f407368d", func := "soundpost/soundpostlaw12.GesturesDivide", spec := "gesturesDivide", unfollowed := true, recurses := true, apart := false, narrowed := true }
def GesturesDivideUptoSaid : Prop := gesturesDivideUptoRow.holds Try.pinned (OpenSpec.upto gesturesDivideSpec)

/-- 'soundpostlaw12.GesturesCover', WHERE WHAT IT READS IS OF BULK AT MOST 1048576: true; the input reads as it did. -/
def gesturesCoverUptoRow : OpenClaim := { program := "ytmblkmllamccnaa", sum := "1b6148d7fb8f9508c71d34b2fb00626c8de3daabc8337c735ec9f531f407368d", func := "soundpost/soundpostlaw12.GesturesCover", spec := "gesturesCover", unfollowed := true, recurses := true, apart := false, narrowed := true }
def GesturesCoverUptoSaid : Prop := gesturesCoverUptoRow.holds Try.pinned (OpenSpec.upto gesturesCoverSpec)

/-- 'soundpostlaw12.GesturesTrim', WHERE WHAT IT READS IS OF BULK AT MOST 1048576: true; the input reads as it did. -/
def gesturesTrimUptoRow : OpenClaim := { program := "ytmblkmllamccnaa", sum := "1b6148d7fb8f9508c71d34b2fb00626c8de3daabc8337c735ec9f531f407368d", func := "soundpost/soundpostlaw12.GesturesTrim", spec := "gesturesTrim", unfollowed := true, recurses := true, apart := false, narrowed := true }
def GesturesTrimUptoSaid : Prop := gesturesTrimUptoRow.holds Try.pinned (OpenSpec.upto gesturesTrimSpec)

/-- 'soundpostlaw12.GesturesHeld', WHERE WHAT IT READS IS OF BULK AT MOST 1048576: true; the input reads as it did. -/
def gesturesHeldUptoRow : OpenClaim := { program := "ytmblkmllamccnaa", sum := "1b6148d7fb8f9508c71d34b2fb00626c8de3daabc8337c735ec9f531f407368d", func := "soundpost/soundpostlaw12.GesturesHeld", spec := "gesturesHeld", unfollowed := true, recurses := true, apart := false, narrowed := true }
def GesturesHeldUptoSaid : Prop := gesturesHeldUptoRow.holds Try.pinned (OpenSpec.upto gesturesHeldSpec)

/-- 'soundpostlaw12.GesturesEach', WHERE WHAT IT READS IS OF BULK AT MOST 1048576: true; the input reads as it did. -/
def gesturesEachUptoRow : OpenClaim := { program := "ytmblkmllamccnaa", sum := "1b6148d7fb8f9508c71d34b2fb00626c8de3daabc8337c735ec9f531f407368d", func := "soundpost/soundpostlaw12.GesturesEach", spec := "gesturesEach", unfollowed := true, recurses := true, apart := false, narrowed := true }
def GesturesEachUptoSaid : Prop := gesturesEachUptoRow.holds Try.pinned (OpenSpec.upto gesturesEachSpec)

end Rows
end Go.Proofs.Ytmblkmllamccnaa
