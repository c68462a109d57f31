/- Bytes copied into a block of one's own (layer 4). -/
import Derived.Test.YtbimmahlcceadaaDskDbl
import Derived.Laws.CopyOwn
namespace Go.Proofs.Ytbimmahlcceadaa
open Go.ChangeShapes Go.WideShapes Go.ChangeAt Go.RowKit
def Held (p : Prop) : Prop := p
theorem held {P : Program} {w : World} {ops : Array Oper} {rest : List Oper} {o : Oper} {a : Act} {Q : Exit → Act → World → Prop} (h : Held (wpList P ops Q (o :: rest) a w)) : wpList P ops Q (o :: rest) a w := h
theorem splice_map {f : Int → Value} (L cs : List Int) (off : Nat) : splice (L.map f) off (cs.map f) = (splice L off cs).map f := by
  unfold splice
  simp [List.map_append, List.map_take, List.map_drop]
theorem SlR.cells {w : World} {X : Sl} (h : SlR w X) (h0 : 0 < X.2.2.length) : ∃ b off, X.1 = some ⟨b, off, none⟩ ∧ b < w.heap.size ∧ ∀ i, i < X.2.2.length → w.cell? ⟨b, off + i, none⟩ = some (.int .u8 (X.2.2.getD i 0)) := by
  obtain ⟨b, off, hR, _⟩ := h
  exact ⟨b, off, hR.adr h0, hR.old h0, hR.cel⟩
theorem wpList_copy_bytes {w : World} {ops : Array Oper} {rest : List Oper} {o : Oper} {a : Act} {Q : Exit → Act → World → Prop} (hgd : o.guard = none) (d s : Operand)
    (ho : o.op = .call { callee := .builtin .copy, args := #[d, s], argTypes := #[35, 35] })
    (g off dLen dCap : Nat) (cur : List Int) (t : TypeId) (hg : w.heap[g]? = some (.cells (bV cur) t (0, 0))) (hd : a.eval d = .slice (some ⟨g, off, none⟩) dLen dCap) (X : Sl) (hX : SlR w X) (hs : a.eval s = .slice X.1 X.2.2.length X.2.1)
    (hle : off + min X.2.2.length dLen ≤ cur.length) (B : Nat) (w0 : World) (hb : Below B w0 w) (hBg : B ≤ g)
    (h : ∀ w', Hid (w'.heap[g]? = some (.cells (bV (splice cur off (X.2.2.take dLen))) t (0, 0))) → Below B w0 w' → wpList Try.prog ops Q rest (a.put o.dst (goInt ((X.2.2.take dLen).length : Nat))) w') : wpList Try.prog ops Q (o :: rest) a w := by
  have hlen : ((X.2.2.take dLen).map (Value.int .u8)).length = min X.2.2.length dLen := by rw [List.length_map, List.length_take]; omega
  refine wpList_copy_splice hgd d s _ _ ho 5 Try.underlying35 (by kernel_rfl) (some ⟨g, off, none⟩) X.1 dLen dCap X.2.2.length X.2.1 hd hs g off (cur.map (Value.int .u8)) t hg ((X.2.2.take dLen).map (Value.int .u8)) hlen ?_ (by rw [hlen, List.length_map]; exact hle) ?_ B w0 hb hBg ?_
  · intro h0
    rw [hlen] at h0
    obtain ⟨b, of, e, _, hc⟩ := hX.cells (by omega)
    refine ⟨rfl, _, e, fun j v hv => ?_⟩
    rw [Go.WideShapes.add_plain]
    have hj : j < min X.2.2.length dLen := by
      have := (List.getElem?_eq_some_iff.1 hv).1
      rw [hlen] at this; exact this
    rw [hc j (by omega)]
    rw [List.getElem?_map, List.getElem?_take, if_pos (by omega), List.getElem?_eq_getElem (by omega)] at hv
    simp only [Option.map_some, Option.some.injEq] at hv
    rw [← hv]
    simp [List.getD_eq_getElem?_getD, show j < X.2.2.length by omega]
  · intro v hv
    rw [List.mem_map] at hv
    obtain ⟨x, _, rfl⟩ := hv
    rfl
  · intro w' h1 h2
    rw [List.length_map]
    refine h w' ?_ h2
    have := h1.out
    rw [splice_map] at this
    exact Lib.hid this
/-- What is written: the bytes, and zeros. -/
def padL (l : List Int) : List Int := l ++ List.replicate (128 - l.length) 0
theorem padL_len {l : List Int} (h : l.length ≤ 128) : (padL l).length = 128 := by simp [padL]; omega
theorem splice_pad {l : List Int} (h : l.length ≤ 128) : splice z128 0 (l.take 128) = padL l := by
  rw [List.take_of_length_le h]
  simp only [splice, padL, z128, List.take_zero, List.nil_append, List.drop_replicate, Nat.zero_add]
end Go.Proofs.Ytbimmahlcceadaa
