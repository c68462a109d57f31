/- An operation of a region that draws whose guard does not hold. -/
import Derived.Test.YtmblkmllamccnaaHeld
namespace Go.Proofs.Ytmblkmllamccnaa
open Go.RowKit Go.Shelf

theorem wpHeld_skip {P : Program} {ops : Array Oper} {S : World → Prop} {o : Oper} {l : List Oper} {a : Act} {K : Act → Prop} (hw : Region.wanted o (yielded ops a.tmps) = false) (hr : wpHeld P ops S K l (a.put o.dst undef)) : wpHeld P ops S K (o :: l) a :=
  ⟨undef, .inr ⟨hw, rfl⟩, hr⟩
end Go.Proofs.Ytmblkmllamccnaa
