/-
  No cell of these rows narrows 'for every input' (looked for: loops, veiled, ifaces, maps, wideKeys, modest, calm, conditions, laid).
  DERIVED. THE GIVEN ROWS OF THIS SEAT. 7 by the template 'for every input the law returns true; each argument reads behind the call as it read before'; 0 by the template 'total and deterministic' (their statements: YthncfhfnboocmaaTotals.lean).
  GIVEN WITH THE SEED: the statements are not yours to turn. If you find one false, say at which input.
  Laid BY PROGRAM, IN A SANDBOX (cutbox-rows.mjs): the forced cells as the released guide's own fill.sh prints them over the translation 249f219b53a2d3ba… (all of the seat's roots in one cut). By AI agents, Wed Nov 11 2026. No macro, syntax, notation, axiom, sorry.
-/
import Derived.Test.YthncfhfnboocmaaChecked
import GoSem.Claim
import GoSem.ClaimJoined
import GoSem.ClaimMapViews
import Derived.JoinedTies
import Derived.KernelRfl
namespace Go.Proofs.Ythncfhfnboocmaa
/- THE CELL 'sum', in the pinned program and in every row, IS THE sha256 OF THE DUMP (.gsa) THAT YthncfhfnboocmaaProg.lean LOADS. Nothing in Lean hashes anything: it is a label: what it is worth is what the hold of that sum in a sandbox is worth. -/
noncomputable def Try.pinned : Pinned := { name := "ythncfhfnboocmaa", sum := "249f219b53a2d3ba3c468793625258bb8178409ccc90d7c4796a79a210ba43a2", checked := Try.checked }
namespace Rows
def none {H : Type} : Left H := { results := [], args := [] }

/-- 'soundpostlaw13.LinksCheckSpec': WHATEVER THE INPUT: true; the input reads as it did. -/
def linksCheckSpecSpec : ChangeSpec := { name := "linksCheckSpec", fn := fun _ => fun
  | [d1, d2] => { results := [.lit (.bool true)], args := [d1, d2] }
  | _ => none }
def linksCheckSpecRow : OpenClaim := { program := "ythncfhfnboocmaa", sum := "249f219b53a2d3ba3c468793625258bb8178409ccc90d7c4796a79a210ba43a2", func := "soundpost/soundpostlaw13.LinksCheckSpec", spec := "linksCheckSpec", unfollowed := true, recurses := true, apart := false }
def LinksCheckSpecSaid : Prop := linksCheckSpecRow.holds Try.pinned (OpenSpec.ofChange linksCheckSpecSpec)

/-- ITS FALSE NEIGHBOUR: 'it returns false'. Refute it at one input. -/
def linksCheckSpecWrong : ChangeSpec := { name := "linksCheckSpec", fn := fun _ => fun
  | [d1, d2] => { results := [.lit (.bool false)], args := [d1, d2] }
  | _ => none }
def LinksCheckSpecWrongFalsely : Prop := linksCheckSpecRow.holds Try.pinned (OpenSpec.ofChange linksCheckSpecWrong)

/-- 'soundpostlaw13.LinksOrderSpec': WHATEVER THE INPUT: true; the input reads as it did. -/
def linksOrderSpecSpec : ChangeSpec := { name := "linksOrderSpec", fn := fun _ => fun
  | [d1, d2] => { results := [.lit (.bool true)], args := [d1, d2] }
  | _ => none }
def linksOrderSpecRow : OpenClaim := { program := "ythncfhfnboocmaa", sum := "249f219b53a2d3ba3c468793625258bb8178409ccc90d7c4796a79a210ba43a2", func := "soundpost/soundpostlaw13.LinksOrderSpec", spec := "linksOrderSpec", unfollowed := true, recurses := true, apart := false }
def LinksOrderSpecSaid : Prop := linksOrderSpecRow.holds Try.pinned (OpenSpec.ofChange linksOrderSpecSpec)

/-- ITS FALSE NEIGHBOUR: 'it returns false'. Refute it at one input. -/
def linksOrderSpecWrong : ChangeSpec := { name := "linksOrderSpec", fn := fun _ => fun
  | [d1, d2] => { results := [.lit (.bool false)], args := [d1, d2] }
  | _ => none }
def LinksOrderSpecWrongFalsely : Prop := linksOrderSpecRow.holds Try.pinned (OpenSpec.ofChange linksOrderSpecWrong)

/-- 'soundpostlaw13.LinksValuesSpec': WHATEVER THE INPUT: true; the input reads as it did. -/
def linksValuesSpecSpec : ChangeSpec := { name := "linksValuesSpec", fn := fun _ => fun
  | [d1, d2] => { results := [.lit (.bool true)], args := [d1, d2] }
  | _ => none }
def linksValuesSpecRow : OpenClaim := { program := "ythncfhfnboocmaa", sum := "249f219b53a2d3ba3c468793625258bb8178409ccc90d7c4796a79a210ba43a2", func := "soundpost/soundpostlaw13.LinksValuesSpec", spec := "linksValuesSpec", unfollowed := true, recurses := true, apart := false }
def LinksValuesSpecSaid : Prop := linksValuesSpecRow.holds Try.pinned (OpenSpec.ofChange linksValuesSpecSpec)

/-- ITS FALSE NEIGHBOUR: 'it returns false'. Refute it at one input. -/
def linksValuesSpecWrong : ChangeSpec := { name := "linksValuesSpec", fn := fun _ => fun
  | [d1, d2] => { results := [.lit (.bool false)], args := [d1, d2] }
  | _ => none }
def LinksValuesSpecWrongFalsely : Prop := linksValuesSpecRow.holds Try.pinned (OpenSpec.ofChange linksValuesSpecWrong)

/-- 'soundpostlaw13.LinksOrder': WHATEVER THE INPUT: true; the input reads as it did. -/
def linksOrderSpec : ChangeSpec := { name := "linksOrder", fn := fun _ => fun
  | [d1, d2] => { results := [.lit (.bool true)], args := [d1, d2] }
  | _ => none }
def linksOrderRow : OpenClaim := { program := "ythncfhfnboocmaa", sum := "249f219b53a2d3ba3c468793625258bb8178409ccc90d7c4796a79a210ba43a2", func := "soundpost/soundpostlaw13.LinksOrder", spec := "linksOrder", unfollowed := true, recurses := true, apart := false }
def LinksOrderSaid : Prop := linksOrderRow.holds Try.pinned (OpenSpec.ofChange linksOrderSpec)

/-- ITS FALSE NEIGHBOUR: 'it returns false'. Refute it at one input. -/
def linksOrderWrong : ChangeSpec := { name := "linksOrder", fn := fun _ => fun
  | [d1, d2] => { results := [.lit (.bool false)], args := [d1, d2] }
  | _ => none }
def LinksOrderWrongFalsely : Prop := linksOrderRow.holds Try.pinned (OpenSpec.ofChange linksOrderWrong)

/-- 'soundpostlaw13.LinksFollow': WHATEVER THE INPUT: true; the input reads as it did. -/
def linksFollowSpec : ChangeSpec := { name := "linksFollow", fn := fun _ => fun
  | [d1, d2] => { results := [.lit (.bool true)], args := [d1, d2] }
  | _ => none }
def linksFollowRow : OpenClaim := { program := "ythncfhfnboocmaa", sum := "249f219b53a2d3ba3c468793625258bb8178409ccc90d7c4796a79a210ba43a2", func := "soundpost/soundpostlaw13.LinksFollow", spec := "linksFollow", unfollowed := true, recurses := true, apart := false }
def LinksFollowSaid : Prop := linksFollowRow.holds Try.pinned (OpenSpec.ofChange linksFollowSpec)

/-- ITS FALSE NEIGHBOUR: 'it returns false'. Refute it at one input. -/
def linksFollowWrong : ChangeSpec := { name := "linksFollow", fn := fun _ => fun
  | [d1, d2] => { results := [.lit (.bool false)], args := [d1, d2] }
  | _ => none }
def LinksFollowWrongFalsely : Prop := linksFollowRow.holds Try.pinned (OpenSpec.ofChange linksFollowWrong)

/-- 'soundpostlaw13.LinksMixed': WHATEVER THE INPUT: true; the input reads as it did. -/
def linksMixedSpec : ChangeSpec := { name := "linksMixed", fn := fun _ => fun
  | [d1, d2, d3, d4] => { results := [.lit (.bool true)], args := [d1, d2, d3, d4] }
  | _ => none }
def linksMixedRow : OpenClaim := { program := "ythncfhfnboocmaa", sum := "249f219b53a2d3ba3c468793625258bb8178409ccc90d7c4796a79a210ba43a2", func := "soundpost/soundpostlaw13.LinksMixed", spec := "linksMixed", unfollowed := true, recurses := true, apart := false }
def LinksMixedSaid : Prop := linksMixedRow.holds Try.pinned (OpenSpec.ofChange linksMixedSpec)

/-- ITS FALSE NEIGHBOUR: 'it returns false'. Refute it at one input. -/
def linksMixedWrong : ChangeSpec := { name := "linksMixed", fn := fun _ => fun
  | [d1, d2, d3, d4] => { results := [.lit (.bool false)], args := [d1, d2, d3, d4] }
  | _ => none }
def LinksMixedWrongFalsely : Prop := linksMixedRow.holds Try.pinned (OpenSpec.ofChange linksMixedWrong)

/-- 'soundpostlaw13.LinksFewer': WHATEVER THE INPUT: true; the input reads as it did. -/
def linksFewerSpec : ChangeSpec := { name := "linksFewer", fn := fun _ => fun
  | [d1, d2, d3] => { results := [.lit (.bool true)], args := [d1, d2, d3] }
  | _ => none }
def linksFewerRow : OpenClaim := { program := "ythncfhfnboocmaa", sum := "249f219b53a2d3ba3c468793625258bb8178409ccc90d7c4796a79a210ba43a2", func := "soundpost/soundpostlaw13.LinksFewer", spec := "linksFewer", unfollowed := true, recurses := true, apart := false }
def LinksFewerSaid : Prop := linksFewerRow.holds Try.pinned (OpenSpec.ofChange linksFewerSpec)

/-- ITS FALSE NEIGHBOUR: 'it returns false'. Refute it at one input. -/
def linksFewerWrong : ChangeSpec := { name := "linksFewer", fn := fun _ => fun
  | [d1, d2, d3] => { results := [.lit (.bool false)], args := [d1, d2, d3] }
  | _ => none }
def LinksFewerWrongFalsely : Prop := linksFewerRow.holds Try.pinned (OpenSpec.ofChange linksFewerWrong)

/- THE SECOND FORM. 'bulk': how many values and letters a reading holds, each counted each time it is reached (what is shared counts as often as it is met; a slice's spare places count too). A statement '..UptoSaid' is the law's where the arguments, and the package variables that the reading takes, are together of bulk at most 1048576: NARROWER than '..Said'. Prove '..Said' where nothing that the law and all that it calls make is longer than what came in: it says more and counts as full. Else prove '..UptoSaid'. A law counts once. -/
mutual
def uptoBulk {H : Type} : DataW H → Nat
  | .lit (.string bytes) => bytes.length + 1
  | .lit _ => 1
  | .nil => 1
  | .ptr d => uptoBulk d + 1
  | .slice elems spare => uptoBulkAll elems + uptoBulkAll spare + 1
  | .agg parts => uptoBulkAll parts + 1
  | .iface _ d => uptoBulk d + 1
  | .map entries => uptoBulkEntries entries + 1
  | .held _ => 1
def uptoBulkAll {H : Type} : List (DataW H) → Nat
  | [] => 0
  | d :: r => uptoBulk d + uptoBulkAll r
def uptoBulkEntries {H : Type} : List (Lit × DataW H) → Nat
  | [] => 0
  | x :: r => uptoBulkEntry x + uptoBulkEntries r
def uptoBulkEntry {H : Type} : Lit × DataW H → Nat
  | (.string bytes, d) => bytes.length + uptoBulk d + 1
  | (_, d) => uptoBulk d + 1
 end
def uptoSmall : (H : Type) → List (DataW H) → Bool := fun _ ds => decide (uptoBulkAll ds ≤ 1048576)
def OpenSpec.upto (s : _root_.Go.ChangeSpec) : _root_.Go.OpenSpec := { _root_.Go.OpenSpec.ofChange s with cond := some uptoSmall }

/-- 'soundpostlaw13.LinksCheckSpec', WHERE WHAT IT READS IS OF BULK AT MOST 1048576: true; the input reads as it did. -/
def linksCheckSpecUptoRow : OpenClaim := { program := "ythncfhfnboocmaa", sum := "249f219b53a2d3ba3c468793625258bb8178409ccc90d7c4796a79a210ba43a2", func := "soundpost/soundpostlaw13.LinksCheckSpec", spec := "linksCheckSpec", unfollowed := true, recurses := true, apart := false, narrowed := true }
def LinksCheckSpecUptoSaid : Prop := linksCheckSpecUptoRow.holds Try.pinned (OpenSpec.upto linksCheckSpecSpec)

/-- 'soundpostlaw13.LinksOrderSpec', WHERE WHAT IT READS IS OF BULK AT MOST 1048576: true; the input reads as it did. -/
def linksOrderSpecUptoRow : OpenClaim := { program := "ythncfhfnboocmaa", sum := "249f219b53a2d3ba3c468793625258bb8178409ccc90d7c4796a79a210ba43a2", func := "soundpost/soundpostlaw13.LinksOrderSpec", spec := "linksOrderSpec", unfollowed := true, recurses := true, apart := false, narrowed := true }
def LinksOrderSpecUptoSaid : Prop := linksOrderSpecUptoRow.holds Try.pinned (OpenSpec.upto linksOrderSpecSpec)

/-- 'soundpostlaw13.LinksValuesSpec', WHERE WHAT IT READS IS OF BULK AT MOST 1048576: true; the input reads as it did. -/
def linksValuesSpecUptoRow : OpenClaim := { program := "ythncfhfnboocmaa", sum := "249f219b53a2d3ba3c468793625258bb8178409ccc90d7c4796a79a210ba43a2", func := "soundpost/soundpostlaw13.LinksValuesSpec", spec := "linksValuesSpec", unfollowed := true, recurses := true, apart := false, narrowed := true }
def LinksValuesSpecUptoSaid : Prop := linksValuesSpecUptoRow.holds Try.pinned (OpenSpec.upto linksValuesSpecSpec)

/-- 'soundpostlaw13.LinksOrder', WHERE WHAT IT READS IS OF BULK AT MOST 1048576: true; the input reads as it did. -/
def linksOrderUptoRow : OpenClaim := { program := "ythncfhfnboocmaa", sum := "249f219b53a2d3ba3c468793625258bb8178409ccc90d7c4796a79a210ba43a2", func := "soundpost/soundpostlaw13.LinksOrder", spec := "linksOrder", unfollowed := true, recurses := true, apart := false, narrowed := true }
def LinksOrderUptoSaid : Prop := linksOrderUptoRow.holds Try.pinned (OpenSpec.upto linksOrderSpec)

/-- 'soundpostlaw13.LinksFollow', WHERE WHAT IT READS IS OF BULK AT MOST 1048576: true; the input reads as it did. -/
def linksFollowUptoRow : OpenClaim := { program := "ythncfhfnboocmaa", sum := "249f219b53a2d3ba3c468793625258bb8178409ccc90d7c4796a79a210ba43a2", func := "soundpost/soundpostlaw13.LinksFollow", spec := "linksFollow", unfollowed := true, recurses := true, apart := false, narrowed := true }
def LinksFollowUptoSaid : Prop := linksFollowUptoRow.holds Try.pinned (OpenSpec.upto linksFollowSpec)

/-- 'soundpostlaw13.LinksMixed', WHERE WHAT IT READS IS OF BULK AT MOST 1048576: true; the input reads as it did. -/
def linksMixedUptoRow : OpenClaim := { program := "ythncfhfnboocmaa", sum := "249f219b53a2d3ba3c468793625258bb8178409ccc90d7c4796a79a210ba43a2", func := "soundpost/soundpostlaw13.LinksMixed", spec := "linksMixed", unfollowed := true, recurses := true, apart := false, narrowed := true }
def LinksMixedUptoSaid : Prop := linksMixedUptoRow.holds Try.pinned (OpenSpec.upto linksMixedSpec)

/-- 'soundpostlaw13.LinksFewer', WHERE WHAT IT READS IS OF BULK AT MOST 1048576: true; the input reads as it did. -/
def linksFewerUptoRow : OpenClaim := { program := "ythncfhfnboocmaa", sum := "249f219b53a2d3ba3c468793625258bb8178409ccc90d7c4796a79a210ba43a2", func := "soundpost/soundpostlaw13.LinksFewer", spec := "linksFewer", unfollowed := true, recurses := true, apart := false, narrowed := true }
def LinksFewerUptoSaid : Prop := linksFewerUptoRow.holds Try.pinned (OpenSpec.upto linksFewerSpec)

end Rows
end Go.Proofs.Ythncfhfnboocmaa
