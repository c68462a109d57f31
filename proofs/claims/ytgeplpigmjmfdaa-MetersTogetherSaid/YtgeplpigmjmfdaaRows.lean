/-
  No cell of these rows narrows 'for every input' (looked for: loops, veiled, ifaces, maps, wideKeys, modest, calm, conditions, laid).
  DERIVED. THE GIVEN ROWS OF THIS SEAT. 5 by the template 'for every input the law returns true; each argument reads behind the call as it read before'; 0 by the template 'total and deterministic' (their statements: YtgeplpigmjmfdaaTotals.lean).
  GIVEN WITH THE SEED: the statements are not yours to turn. If you find one false, say at which input.
  Laid BY PROGRAM, IN A SANDBOX (cutbox-rows.mjs): the forced cells as the released guide's own fill.sh prints them over the translation 9cc7f4f264275e7e… (all of the seat's roots in one cut). By AI agents, Wed Nov 11 2026. No macro, syntax, notation, axiom, sorry.
-/
import Derived.Test.YtgeplpigmjmfdaaChecked
import GoSem.Claim
import GoSem.ClaimJoined
import GoSem.ClaimMapViews
import Derived.JoinedTies
import Derived.KernelRfl
namespace Go.Proofs.Ytgeplpigmjmfdaa
/- THE CELL 'sum', in the pinned program and in every row, IS THE sha256 OF THE DUMP (.gsa) THAT YtgeplpigmjmfdaaProg.lean LOADS. Nothing in Lean hashes anything: it is a label: what it is worth is what the hold of that sum in a sandbox is worth. -/
noncomputable def Try.pinned : Pinned := { name := "ytgeplpigmjmfdaa", sum := "9cc7f4f264275e7ede2c10b257b10ac747750ece7a4d356ac6f0961a124a001f", checked := Try.checked }
namespace Rows
def none {H : Type} : Left H := { results := [], args := [] }

/-- 'soundpostlaw52.MetersSpec': WHATEVER THE INPUT: true; the input reads as it did. -/
def metersSpecSpec : ChangeSpec := { name := "metersSpec", fn := fun _ => fun
  | [d1, d2, d3, d4] => { results := [.lit (.bool true)], args := [d1, d2, d3, d4] }
  | _ => none }
def metersSpecRow : OpenClaim := { program := "ytgeplpigmjmfdaa", sum := "9cc7f4f264275e7ede2c10b257b10ac747750ece7a4d356ac6f0961a124a001f", func := "soundpost/soundpostlaw52.MetersSpec", spec := "metersSpec", unfollowed := true, recurses := true, apart := false }
def MetersSpecSaid : Prop := metersSpecRow.holds Try.pinned (OpenSpec.ofChange metersSpecSpec)

/-- ITS FALSE NEIGHBOUR: 'it returns false'. Refute it at one input. -/
def metersSpecWrong : ChangeSpec := { name := "metersSpec", fn := fun _ => fun
  | [d1, d2, d3, d4] => { results := [.lit (.bool false)], args := [d1, d2, d3, d4] }
  | _ => none }
def MetersSpecWrongFalsely : Prop := metersSpecRow.holds Try.pinned (OpenSpec.ofChange metersSpecWrong)

/-- 'soundpostlaw52.MetersTogether': WHATEVER THE INPUT: true; the input reads as it did. -/
def metersTogetherSpec : ChangeSpec := { name := "metersTogether", fn := fun _ => fun
  | [d1, d2] => { results := [.lit (.bool true)], args := [d1, d2] }
  | _ => none }
def metersTogetherRow : OpenClaim := { program := "ytgeplpigmjmfdaa", sum := "9cc7f4f264275e7ede2c10b257b10ac747750ece7a4d356ac6f0961a124a001f", func := "soundpost/soundpostlaw52.MetersTogether", spec := "metersTogether", unfollowed := true, recurses := true, apart := false }
def MetersTogetherSaid : Prop := metersTogetherRow.holds Try.pinned (OpenSpec.ofChange metersTogetherSpec)

/-- ITS FALSE NEIGHBOUR: 'it returns false'. Refute it at one input. -/
def metersTogetherWrong : ChangeSpec := { name := "metersTogether", fn := fun _ => fun
  | [d1, d2] => { results := [.lit (.bool false)], args := [d1, d2] }
  | _ => none }
def MetersTogetherWrongFalsely : Prop := metersTogetherRow.holds Try.pinned (OpenSpec.ofChange metersTogetherWrong)

/-- 'soundpostlaw52.MetersWindows': WHATEVER THE INPUT: true; the input reads as it did. -/
def metersWindowsSpec : ChangeSpec := { name := "metersWindows", fn := fun _ => fun
  | [d1, d2, d3] => { results := [.lit (.bool true)], args := [d1, d2, d3] }
  | _ => none }
def metersWindowsRow : OpenClaim := { program := "ytgeplpigmjmfdaa", sum := "9cc7f4f264275e7ede2c10b257b10ac747750ece7a4d356ac6f0961a124a001f", func := "soundpost/soundpostlaw52.MetersWindows", spec := "metersWindows", unfollowed := true, recurses := true, apart := false }
def MetersWindowsSaid : Prop := metersWindowsRow.holds Try.pinned (OpenSpec.ofChange metersWindowsSpec)

/-- ITS FALSE NEIGHBOUR: 'it returns false'. Refute it at one input. -/
def metersWindowsWrong : ChangeSpec := { name := "metersWindows", fn := fun _ => fun
  | [d1, d2, d3] => { results := [.lit (.bool false)], args := [d1, d2, d3] }
  | _ => none }
def MetersWindowsWrongFalsely : Prop := metersWindowsRow.holds Try.pinned (OpenSpec.ofChange metersWindowsWrong)

/-- 'soundpostlaw52.MetersHold': WHATEVER THE INPUT: true; the input reads as it did. -/
def metersHoldSpec : ChangeSpec := { name := "metersHold", fn := fun _ => fun
  | [d1, d2] => { results := [.lit (.bool true)], args := [d1, d2] }
  | _ => none }
def metersHoldRow : OpenClaim := { program := "ytgeplpigmjmfdaa", sum := "9cc7f4f264275e7ede2c10b257b10ac747750ece7a4d356ac6f0961a124a001f", func := "soundpost/soundpostlaw52.MetersHold", spec := "metersHold", unfollowed := true, recurses := true, apart := false }
def MetersHoldSaid : Prop := metersHoldRow.holds Try.pinned (OpenSpec.ofChange metersHoldSpec)

/-- ITS FALSE NEIGHBOUR: 'it returns false'. Refute it at one input. -/
def metersHoldWrong : ChangeSpec := { name := "metersHold", fn := fun _ => fun
  | [d1, d2] => { results := [.lit (.bool false)], args := [d1, d2] }
  | _ => none }
def MetersHoldWrongFalsely : Prop := metersHoldRow.holds Try.pinned (OpenSpec.ofChange metersHoldWrong)

/-- 'soundpostlaw52.MetersClipped': WHATEVER THE INPUT: true; the input reads as it did. -/
def metersClippedSpec : ChangeSpec := { name := "metersClipped", fn := fun _ => fun
  | [d1, d2, d3, d4] => { results := [.lit (.bool true)], args := [d1, d2, d3, d4] }
  | _ => none }
def metersClippedRow : OpenClaim := { program := "ytgeplpigmjmfdaa", sum := "9cc7f4f264275e7ede2c10b257b10ac747750ece7a4d356ac6f0961a124a001f", func := "soundpost/soundpostlaw52.MetersClipped", spec := "metersClipped", unfollowed := true, recurses := true, apart := false }
def MetersClippedSaid : Prop := metersClippedRow.holds Try.pinned (OpenSpec.ofChange metersClippedSpec)

/-- ITS FALSE NEIGHBOUR: 'it returns false'. Refute it at one input. -/
def metersClippedWrong : ChangeSpec := { name := "metersClipped", fn := fun _ => fun
  | [d1, d2, d3, d4] => { results := [.lit (.bool false)], args := [d1, d2, d3, d4] }
  | _ => none }
def MetersClippedWrongFalsely : Prop := metersClippedRow.holds Try.pinned (OpenSpec.ofChange metersClippedWrong)

/- THE SECOND FORM. 'bulk': how many values and letters a reading holds, each counted each time it is reached (what is shared counts as often as it is met; a slice's spare places count too). A statement '..UptoSaid' is the law's where the arguments, and the package variables that the reading takes, are together of bulk at most 1048576: NARROWER than '..Said'. Prove '..Said' where nothing that the law and all that it calls make is longer than what came in: it says more and counts as full. Else prove '..UptoSaid'. A law counts once. -/
mutual
def uptoBulk {H : Type} : DataW H → Nat
  | .lit (.string bytes) => bytes.length + 1
  | .lit _ => 1
  | .nil => 1
  | .ptr d => uptoBulk d + 1
  | .slice elems spare => uptoBulkAll elems + uptoBulkAll spare + 1
  | .agg parts => uptoBulkAll parts + 1
  | .iface _ d => uptoBulk d + 1
  | .map entries => uptoBulkEntries entries + 1
  | .held _ => 1
def uptoBulkAll {H : Type} : List (DataW H) → Nat
  | [] => 0
  | d :: r => uptoBulk d + uptoBulkAll r
def uptoBulkEntries {H : Type} : List (Lit × DataW H) → Nat
  | [] => 0
  | x :: r => uptoBulkEntry x + uptoBulkEntries r
def uptoBulkEntry {H : Type} : Lit × DataW H → Nat
  | (.string bytes, d) => bytes.length + uptoBulk d + 1
  | (_, d) => uptoBulk d + 1
 end
def uptoSmall : (H : Type) → List (DataW H) → Bool := fun _ ds => decide (uptoBulkAll ds ≤ 1048576)
def OpenSpec.upto (s : _root_.Go.ChangeSpec) : _root_.Go.OpenSpec := { _root_.Go.OpenSpec.ofChange s with cond := some uptoSmall }

/-- 'soundpostlaw52.MetersSpec', WHERE WHAT IT READS IS OF BULK AT MOST 1048576: true; the input reads as it did. -/
def metersSpecUptoRow : OpenClaim := { program := "ytgeplpigmjmfdaa", sum := "9cc7f4f264275e7ede2c10b257b10ac747750ece7a4d356ac6f0961a124a001f", func := "soundpost/soundpostlaw52.MetersSpec", spec := "metersSpec", unfollowed := true, recurses := true, apart := false, narrowed := true }
def MetersSpecUptoSaid : Prop := metersSpecUptoRow.holds Try.pinned (OpenSpec.upto metersSpecSpec)

/-- 'soundpostlaw52.MetersTogether', WHERE WHAT IT READS IS OF BULK AT MOST 1048576: true; the input reads as it did. -/
def metersTogetherUptoRow : OpenClaim := { program := "ytgeplpigmjmfdaa", sum := "9cc7f4f264275e7ede2c10b257b10ac747750ece7a4d356ac6f0961a124a001f", func := "soundpost/soundpostlaw52.MetersTogether", spec := "metersTogether", unfollowed := true, recurses := true, apart := false, narrowed := true }
def MetersTogetherUptoSaid : Prop := metersTogetherUptoRow.holds Try.pinned (OpenSpec.upto metersTogetherSpec)

/-- 'soundpostlaw52.MetersWindows', WHERE WHAT IT READS IS OF BULK AT MOST 1048576: true; the input reads as it did. -/
def metersWindowsUptoRow : OpenClaim := { program := "ytgeplpigmjmfdaa", sum := "9cc7f4f264275e7ede2c10b257b10ac747750ece7a4d356ac6f0961a124a001f", func := "soundpost/soundpostlaw52.MetersWindows", spec := "metersWindows", unfollowed := true, recurses := true, apart := false, narrowed := true }
def MetersWindowsUptoSaid : Prop := metersWindowsUptoRow.holds Try.pinned (OpenSpec.upto metersWindowsSpec)

/-- 'soundpostlaw52.MetersHold', WHERE WHAT IT READS IS OF BULK AT MOST 1048576: true; the input reads as it did. -/
def metersHoldUptoRow : OpenClaim := { program := "ytgeplpigmjmfdaa", sum := "9cc7f4f264275e7ede2c10b257b10ac747750ece7a4d356ac6f0961a124a001f", func := "soundpost/soundpostlaw52.MetersHold", spec := "metersHold", unfollowed := true, recurses := true, apart := false, narrowed := true }
def MetersHoldUptoSaid : Prop := metersHoldUptoRow.holds Try.pinned (OpenSpec.upto metersHoldSpec)

/-- 'soundpostlaw52.MetersClipped', WHERE WHAT IT READS IS OF BULK AT MOST 1048576: true; the input reads as it did. -/
def metersClippedUptoRow : OpenClaim := { program := "ytgeplpigmjmfdaa", sum := "9cc7f4f264275e7ede2c10b257b10ac747750ece7a4d356ac6f0961a124a001f", func := "soundpost/soundpostlaw52.MetersClipped", spec := "metersClipped", unfollowed := true, recurses := true, apart := false, narrowed := true }
def MetersClippedUptoSaid : Prop := metersClippedUptoRow.holds Try.pinned (OpenSpec.upto metersClippedSpec)

end Rows
end Go.Proofs.Ytgeplpigmjmfdaa
