/-
  No cell of these rows narrows 'for every input' (looked for: loops, veiled, ifaces, maps, wideKeys, modest, calm, conditions, laid).
  DERIVED. THE GIVEN ROWS OF THIS SEAT. 6 by the template 'for every input the law returns true; each argument reads behind the call as it read before'; 0 by the template 'total and deterministic' (their statements: YtipjogicjgkgjaaTotals.lean).
  GIVEN WITH THE SEED: the statements are not yours to turn. If you find one false, say at which input.
  Laid BY PROGRAM, IN A SANDBOX (cutbox-rows.mjs): the forced cells as the released guide's own fill.sh prints them over the translation 170b97a4ce69ef38… (all of the seat's roots in one cut). By AI agents, Wed Nov 11 2026. No macro, syntax, notation, axiom, sorry.
-/
import Derived.Test.YtipjogicjgkgjaaChecked
import GoSem.Claim
import GoSem.ClaimJoined
import GoSem.ClaimMapViews
import Derived.JoinedTies
import Derived.KernelRfl
namespace Go.Proofs.Ytipjogicjgkgjaa
/- THE CELL 'sum', in the pinned program and in every row, IS THE sha256 OF THE DUMP (.gsa) THAT YtipjogicjgkgjaaProg.lean LOADS. Nothing in Lean hashes anything: it is a label: what it is worth is what the hold of that sum in a sandbox is worth. -/
noncomputable def Try.pinned : Pinned := { name := "ytipjogicjgkgjaa", sum := "170b97a4ce69ef3812e111f2f25027f7fd80f4a38cf5e49f1e0154af572a1ef9", checked := Try.checked }
namespace Rows
def none {H : Type} : Left H := { results := [], args := [] }

/-- 'soundpostlaw26.SpeedSpec': WHATEVER THE INPUT: true; the input reads as it did. -/
def speedSpecSpec : ChangeSpec := { name := "speedSpec", fn := fun _ => fun
  | [d1, d2, d3, d4, d5] => { results := [.lit (.bool true)], args := [d1, d2, d3, d4, d5] }
  | _ => none }
def speedSpecRow : OpenClaim := { program := "ytipjogicjgkgjaa", sum := "170b97a4ce69ef3812e111f2f25027f7fd80f4a38cf5e49f1e0154af572a1ef9", func := "soundpost/soundpostlaw26.SpeedSpec", spec := "speedSpec", unfollowed := true, recurses := true, apart := false }
def SpeedSpecSaid : Prop := speedSpecRow.holds Try.pinned (OpenSpec.ofChange speedSpecSpec)

/-- ITS FALSE NEIGHBOUR: 'it returns false'. Refute it at one input. -/
def speedSpecWrong : ChangeSpec := { name := "speedSpec", fn := fun _ => fun
  | [d1, d2, d3, d4, d5] => { results := [.lit (.bool false)], args := [d1, d2, d3, d4, d5] }
  | _ => none }
def SpeedSpecWrongFalsely : Prop := speedSpecRow.holds Try.pinned (OpenSpec.ofChange speedSpecWrong)

/-- 'soundpostlaw26.SpeedBack': WHATEVER THE INPUT: true; the input reads as it did. -/
def speedBackSpec : ChangeSpec := { name := "speedBack", fn := fun _ => fun
  | [d1, d2, d3] => { results := [.lit (.bool true)], args := [d1, d2, d3] }
  | _ => none }
def speedBackRow : OpenClaim := { program := "ytipjogicjgkgjaa", sum := "170b97a4ce69ef3812e111f2f25027f7fd80f4a38cf5e49f1e0154af572a1ef9", func := "soundpost/soundpostlaw26.SpeedBack", spec := "speedBack", unfollowed := true, recurses := true, apart := false }
def SpeedBackSaid : Prop := speedBackRow.holds Try.pinned (OpenSpec.ofChange speedBackSpec)

/-- ITS FALSE NEIGHBOUR: 'it returns false'. Refute it at one input. -/
def speedBackWrong : ChangeSpec := { name := "speedBack", fn := fun _ => fun
  | [d1, d2, d3] => { results := [.lit (.bool false)], args := [d1, d2, d3] }
  | _ => none }
def SpeedBackWrongFalsely : Prop := speedBackRow.holds Try.pinned (OpenSpec.ofChange speedBackWrong)

/-- 'soundpostlaw26.SpeedLen': WHATEVER THE INPUT: true; the input reads as it did. -/
def speedLenSpec : ChangeSpec := { name := "speedLen", fn := fun _ => fun
  | [d1, d2, d3] => { results := [.lit (.bool true)], args := [d1, d2, d3] }
  | _ => none }
def speedLenRow : OpenClaim := { program := "ytipjogicjgkgjaa", sum := "170b97a4ce69ef3812e111f2f25027f7fd80f4a38cf5e49f1e0154af572a1ef9", func := "soundpost/soundpostlaw26.SpeedLen", spec := "speedLen", unfollowed := true, recurses := true, apart := false }
def SpeedLenSaid : Prop := speedLenRow.holds Try.pinned (OpenSpec.ofChange speedLenSpec)

/-- ITS FALSE NEIGHBOUR: 'it returns false'. Refute it at one input. -/
def speedLenWrong : ChangeSpec := { name := "speedLen", fn := fun _ => fun
  | [d1, d2, d3] => { results := [.lit (.bool false)], args := [d1, d2, d3] }
  | _ => none }
def SpeedLenWrongFalsely : Prop := speedLenRow.holds Try.pinned (OpenSpec.ofChange speedLenWrong)

/-- 'soundpostlaw26.SpeedBetween': WHATEVER THE INPUT: true; the input reads as it did. -/
def speedBetweenSpec : ChangeSpec := { name := "speedBetween", fn := fun _ => fun
  | [d1, d2, d3, d4] => { results := [.lit (.bool true)], args := [d1, d2, d3, d4] }
  | _ => none }
def speedBetweenRow : OpenClaim := { program := "ytipjogicjgkgjaa", sum := "170b97a4ce69ef3812e111f2f25027f7fd80f4a38cf5e49f1e0154af572a1ef9", func := "soundpost/soundpostlaw26.SpeedBetween", spec := "speedBetween", unfollowed := true, recurses := true, apart := false }
def SpeedBetweenSaid : Prop := speedBetweenRow.holds Try.pinned (OpenSpec.ofChange speedBetweenSpec)

/-- ITS FALSE NEIGHBOUR: 'it returns false'. Refute it at one input. -/
def speedBetweenWrong : ChangeSpec := { name := "speedBetween", fn := fun _ => fun
  | [d1, d2, d3, d4] => { results := [.lit (.bool false)], args := [d1, d2, d3, d4] }
  | _ => none }
def SpeedBetweenWrongFalsely : Prop := speedBetweenRow.holds Try.pinned (OpenSpec.ofChange speedBetweenWrong)

/-- 'soundpostlaw26.SpeedLine': WHATEVER THE INPUT: true; the input reads as it did. -/
def speedLineSpec : ChangeSpec := { name := "speedLine", fn := fun _ => fun
  | [d1, d2, d3, d4, d5] => { results := [.lit (.bool true)], args := [d1, d2, d3, d4, d5] }
  | _ => none }
def speedLineRow : OpenClaim := { program := "ytipjogicjgkgjaa", sum := "170b97a4ce69ef3812e111f2f25027f7fd80f4a38cf5e49f1e0154af572a1ef9", func := "soundpost/soundpostlaw26.SpeedLine", spec := "speedLine", unfollowed := true, recurses := true, apart := false }
def SpeedLineSaid : Prop := speedLineRow.holds Try.pinned (OpenSpec.ofChange speedLineSpec)

/-- ITS FALSE NEIGHBOUR: 'it returns false'. Refute it at one input. -/
def speedLineWrong : ChangeSpec := { name := "speedLine", fn := fun _ => fun
  | [d1, d2, d3, d4, d5] => { results := [.lit (.bool false)], args := [d1, d2, d3, d4, d5] }
  | _ => none }
def SpeedLineWrongFalsely : Prop := speedLineRow.holds Try.pinned (OpenSpec.ofChange speedLineWrong)

/-- 'soundpostlaw26.SpeedParts': WHATEVER THE INPUT: true; the input reads as it did. -/
def speedPartsSpec : ChangeSpec := { name := "speedParts", fn := fun _ => fun
  | [d1, d2, d3, d4] => { results := [.lit (.bool true)], args := [d1, d2, d3, d4] }
  | _ => none }
def speedPartsRow : OpenClaim := { program := "ytipjogicjgkgjaa", sum := "170b97a4ce69ef3812e111f2f25027f7fd80f4a38cf5e49f1e0154af572a1ef9", func := "soundpost/soundpostlaw26.SpeedParts", spec := "speedParts", unfollowed := true, recurses := true, apart := false }
def SpeedPartsSaid : Prop := speedPartsRow.holds Try.pinned (OpenSpec.ofChange speedPartsSpec)

/-- ITS FALSE NEIGHBOUR: 'it returns false'. Refute it at one input. -/
def speedPartsWrong : ChangeSpec := { name := "speedParts", fn := fun _ => fun
  | [d1, d2, d3, d4] => { results := [.lit (.bool false)], args := [d1, d2, d3, d4] }
  | _ => none }
def SpeedPartsWrongFalsely : Prop := speedPartsRow.holds Try.pinned (OpenSpec.ofChange speedPartsWrong)

/- THE SECOND FORM. 'bulk': how many values and letters a reading holds, each counted each time it is reached (what is shared counts as often as it is met; a slice's spare places count too). A statement '..UptoSaid' is the law's where the arguments, and the package variables that the reading takes, are together of bulk at most 1048576: NARROWER than '..Said'. Prove '..Said' where nothing that the law and all that it calls make is longer than what came in: it says more and counts as full. Else prove '..UptoSaid'. A law counts once. -/
mutual
def uptoBulk {H : Type} : DataW H → Nat
  | .lit (.string bytes) => bytes.length + 1
  | .lit _ => 1
  | .nil => 1
  | .ptr d => uptoBulk d + 1
  | .slice elems spare => uptoBulkAll elems + uptoBulkAll spare + 1
  | .agg parts => uptoBulkAll parts + 1
  | .iface _ d => uptoBulk d + 1
  | .map entries => uptoBulkEntries entries + 1
  | .held _ => 1
def uptoBulkAll {H : Type} : List (DataW H) → Nat
  | [] => 0
  | d :: r => uptoBulk d + uptoBulkAll r
def uptoBulkEntries {H : Type} : List (Lit × DataW H) → Nat
  | [] => 0
  | x :: r => uptoBulkEntry x + uptoBulkEntries r
def uptoBulkEntry {H : Type} : Lit × DataW H → Nat
  | (.string bytes, d) => bytes.length + uptoBulk d + 1
  | (_, d) => uptoBulk d + 1
 end
def uptoSmall : (H : Type) → List (DataW H) → Bool := fun _ ds => decide (uptoBulkAll ds ≤ 1048576)
def OpenSpec.upto (s : _root_.Go.ChangeSpec) : _root_.Go.OpenSpec := { _root_.Go.OpenSpec.ofChange s with cond := some uptoSmall }

/-- 'soundpostlaw26.SpeedSpec', WHERE WHAT IT READS IS OF BULK AT MOST 1048576: true; the input reads as it did. -/
def speedSpecUptoRow : OpenClaim := { program := "ytipjogicjgkgjaa", sum := "170b97a4ce69ef3812e111f2f25027f7fd80f4a38cf5e49f1e0154af572a1ef9", func := "soundpost/soundpostlaw26.SpeedSpec", spec := "speedSpec", unfollowed := true, recurses := true, apart := false, narrowed := true }
def SpeedSpecUptoSaid : Prop := speedSpecUptoRow.holds Try.pinned (OpenSpec.upto speedSpecSpec)

/-- 'soundpostlaw26.SpeedBack', WHERE WHAT IT READS IS OF BULK AT MOST 1048576: true; the input reads as it did. -/
def speedBackUptoRow : OpenClaim := { program := "ytipjogicjgkgjaa", sum := "170b97a4ce69ef3812e111f2f25027f7fd80f4a38cf5e49f1e0154af572a1ef9", func := "soundpost/soundpostlaw26.SpeedBack", spec := "speedBack", unfollowed := true, recurses := true, apart := false, narrowed := true }
def SpeedBackUptoSaid : Prop := speedBackUptoRow.holds Try.pinned (OpenSpec.upto speedBackSpec)

/-- 'soundpostlaw26.SpeedLen', WHERE WHAT IT READS IS OF BULK AT MOST 1048576: true; the input reads as it did. -/
def speedLenUptoRow : OpenClaim := { program := "ytipjogicjgkgjaa", sum := "170b97a4ce69ef3812e111f2f25027f7fd80f4a38cf5e49f1e0154af572a1ef9", func := "soundpost/soundpostlaw26.SpeedLen", spec := "speedLen", unfollowed := true, recurses := true, apart := false, narrowed := true }
def SpeedLenUptoSaid : Prop := speedLenUptoRow.holds Try.pinned (OpenSpec.upto speedLenSpec)

/-- 'soundpostlaw26.SpeedBetween', WHERE WHAT IT READS IS OF BULK AT MOST 1048576: true; the input reads as it did. -/
def speedBetweenUptoRow : OpenClaim := { program := "ytipjogicjgkgjaa", sum := "170b97a4ce69ef3812e111f2f25027f7fd80f4a38cf5e49f1e0154af572a1ef9", func := "soundpost/soundpostlaw26.SpeedBetween", spec := "speedBetween", unfollowed := true, recurses := true, apart := false, narrowed := true }
def SpeedBetweenUptoSaid : Prop := speedBetweenUptoRow.holds Try.pinned (OpenSpec.upto speedBetweenSpec)

/-- 'soundpostlaw26.SpeedLine', WHERE WHAT IT READS IS OF BULK AT MOST 1048576: true; the input reads as it did. -/
def speedLineUptoRow : OpenClaim := { program := "ytipjogicjgkgjaa", sum := "170b97a4ce69ef3812e111f2f25027f7fd80f4a38cf5e49f1e0154af572a1ef9", func := "soundpost/soundpostlaw26.SpeedLine", spec := "speedLine", unfollowed := true, recurses := true, apart := false, narrowed := true }
def SpeedLineUptoSaid : Prop := speedLineUptoRow.holds Try.pinned (OpenSpec.upto speedLineSpec)

/-- 'soundpostlaw26.SpeedParts', WHERE WHAT IT READS IS OF BULK AT MOST 1048576: true; the input reads as it did. -/
def speedPartsUptoRow : OpenClaim := { program := "ytipjogicjgkgjaa", sum := "170b97a4ce69ef3812e111f2f25027f7fd80f4a38cf5e49f1e0154af572a1ef9", func := "soundpost/soundpostlaw26.SpeedParts", spec := "speedParts", unfollowed := true, recurses := true, apart := false, narrowed := true }
def SpeedPartsUptoSaid : Prop := speedPartsUptoRow.holds Try.pinned (OpenSpec.upto speedPartsSpec)

end Rows
end Go.Proofs.Ytipjogicjgkgjaa
