/- Sync (layer 4). -/
import Derived.Test.YtbimmahlcceadaaDskWrite
import Derived.Test.YtbimmahlcceadaaOwnBRow
import Derived.Test.YtbimmahlcceadaaHeld
import Derived.Laws.CopyOwn
namespace Go.Proofs.Ytbimmahlcceadaa
open Go.ChangeShapes Go.WideShapes Go.ChangeAt Go.RowKit
/-- A sector that is torn: the first half of what is written, the second half of what was there. -/
def tornL (x y : List Int) : List Int := x.take 64 ++ y.drop 64
/-- What Sync answers. -/
def SyncR (r : Bool) (S : List Sl) (P : List Wr) (lf : Int) (sn pn : Nat) (B : Nat) (w' : World) (e : Ending) : Prop :=
  (r = false ∧ e = .returned (.tuple #[.agg #[.slice none 0 0, .slice none 0 0, .int .i64 0, .bool false], .int .i64 40])) ∨
  (r = true ∧ (lf = -1 ∨ (pn : Int) ≤ lf) ∧ ∃ b cap, sn ≤ cap ∧ B ≤ b ∧ Secs w' (some ⟨b, 0, none⟩) b 0 sn (perfK S P pn) ∧ e = .returned (.tuple #[.agg #[.slice (some ⟨b, 0, none⟩) sn cap, .slice none 0 0, .int .i64 (if lf = -1 then -1 else lf - pn), .bool false], .int .i64 0])) ∨
  (r = true ∧ 0 ≤ lf ∧ lf < (pn : Int) ∧ ∃ b cap Y, sn ≤ cap ∧ B ≤ b ∧ SlG w' B Y ∧ Y.2.2 = tornL (nW P lf.toNat).2.2.2 (nS (perfK S P lf.toNat) (nW P lf.toNat).1.toNat).2.2 ∧ Secs w' (some ⟨b, 0, none⟩) b 0 sn ((perfK S P lf.toNat).set (nW P lf.toNat).1.toNat Y) ∧ e = .returned (.tuple #[.agg #[.slice (some ⟨b, 0, none⟩) sn cap, .slice none 0 0, .int .i64 0, .bool true], .int .i64 40]))
theorem runB_valid {d : Dk} (h : runB d = true) : Valid d := (@of_decide_eq_true _ (Classical.propDecidable _) h).1
theorem runB_stp {d : Dk} (h : runB d = true) : d.stp = false := (@of_decide_eq_true _ (Classical.propDecidable _) h).2
theorem secs_of_hdb {w : World} {b n : Nat} {S : List Sl} (h : HdB w b n S) (hr : ∀ i, i < n → SlR w (nS S i)) : Secs w (some ⟨b, 0, none⟩) b 0 n S :=
  ⟨h.len, fun _ => rfl, fun _ => h.lt, fun i hi => by rw [Nat.zero_add]; exact h.cell hi, hr⟩
theorem nS_setD {S : List Sl} {j i : Nat} {s : Sl} (Q : Sl → Prop) (h1 : Q s) (h2 : Q (nS S i)) (hi : i < S.length) : Q (nS (S.set j s) i) := by
  by_cases e : i = j
  · subst e; rw [nS, List.getD_eq_getElem?_getD, List.getElem?_set_self hi]; exact h1
  · have : nS (S.set j s) i = nS S i := by simp [nS, List.getD_eq_getElem?_getD, Ne.symm e]
    rw [this]; exact h2
theorem perfK_row {S : List Sl} {P : List Wr} (Q : Sl → Prop) (hS : ∀ i, i < S.length → Q (nS S i)) : ∀ k, (∀ j, j < k → Q (nW P j).2) → ∀ i, i < S.length → Q (nS (perfK S P k) i)
  | 0, _, i, hi => hS i hi
  | k + 1, hP, i, hi => nS_setD Q (hP k (by omega)) (perfK_row Q hS k (fun j hj => hP j (by omega)) i hi) (by rw [perfK_len]; exact hi)
theorem nW_take {P : List Wr} {k i : Nat} (h : i < k) : nW (P.take k) i = nW P i := by simp [nW, List.getD_eq_getElem?_getD, h]
theorem perfK_take (S : List Sl) (P : List Wr) (n : Nat) : ∀ k, k ≤ n → perfK S (P.take n) k = perfK S P k
  | 0, _ => rfl
  | k + 1, h => by rw [perfK, perfK, perfK_take S P n k (by omega), nW_take (by omega)]
theorem Pens.pre {w : World} {a : Option Addr} {b off n k : Nat} {P : List Wr} (h : Pens w a b off n P) (hk : k ≤ n) : Pens w a b off k (P.take k) :=
  ⟨by have := h.len; simp; omega, fun h0 => h.adr (by omega), fun h0 => h.old (by omega), fun i hi => by rw [nW_take hi]; exact h.at_ i (by omega), fun i hi => by rw [nW_take hi]; exact h.cel i (by omega), fun i hi => by rw [nW_take hi]; exact h.row i (by omega)⟩
theorem hdb_of {w : World} {B : Nat} {v : Value} {l : List Sl} {n : Nat} (h : Hds w B v l) (hl : l.length = n) (hn : 0 < n) : ∃ g cap, v = .slice (some ⟨g, 0, none⟩) n cap ∧ B ≤ g ∧ n ≤ cap ∧ HdB w g n l := by
  subst hl
  rcases h.2 with ⟨_, h0⟩ | ⟨g, cap, cur, h1, h2, h3, h4, h5, h6, h7⟩
  · omega
  · refine ⟨g, cap, h1, h2, h4, cur, _, h3, by omega, rfl, fun i hi => ?_⟩
    have := World.ownsRow.cellAt (by rw [← h1]; exact h) i (by omega)
    rw [blk_cell h3] at this
    rw [this]
    simp [nS, List.getD_eq_getElem?_getD, hi]
variable {ops : Array Oper} {o : Oper} {a : Act} {Q : Exit → Act → World → Prop} {w : World}
/-- Bytes copied over the first ones of a slice of one's own. -/
theorem wp_copy_byts {K : Act → World → Prop} (d s : Operand) (ho : o.op = .call { callee := .builtin .copy, args := #[d, s], argTypes := #[35, 35] })
    (B g n cap dLen dCap : Nat) (l : List Int) (hown : Byts w B (.slice (some ⟨g, 0, none⟩) n cap) l) (hl : l.length = n) (hd : a.eval d = .slice (some ⟨g, 0, none⟩) dLen dCap) (hdl : dLen ≤ n) (X : Sl) (hX : SlR w X) (hs : a.eval s = .slice X.1 X.2.2.length X.2.1) (hk : dLen ≤ X.2.2.length) (h0 : 0 < dLen)
    (h : ∀ w', Byts w' B (.slice (some ⟨g, 0, none⟩) n cap) (X.2.2.take dLen ++ l.drop dLen) → Below B w w' → Upd1 g w w' → K (a.put o.dst (goInt dLen)) w') : o.wp Try.prog a w K Q := by
  subst hl
  obtain ⟨b, of, e, _, hc⟩ := hX.cells (by omega)
  rcases hown.2 with ⟨hv, _⟩ | ⟨g', cap', cur, h1, h2, h3, h4, h5, h6, h7⟩
  · cases hv
  cases h1
  obtain ⟨cs, hcs⟩ : ∃ cs, cs = (X.2.2.take dLen).map (Value.int .u8) := ⟨_, rfl⟩
  have hlen : cs.length = dLen := by rw [hcs]; simp; omega
  have hc1 : ∀ v ∈ cs, v.oneCell' = true := by
    intro v hv
    rw [hcs, List.mem_map] at hv
    obtain ⟨x, _, rfl⟩ := hv
    rfl
  obtain ⟨R, hR⟩ : ∃ R, R = (cur.toList.take 0 ++ cs ++ cur.toList.drop (0 + cs.length)).toArray := ⟨_, rfl⟩
  have hrun := run_copy_row (P := Try.prog) w 35 35 o.type 5 g 0 dLen dCap ⟨b, of, none⟩ X.2.2.length X.2.1 cur 5 cs Try.underlying35 (by kernel_rfl) h3 (by rw [hlen]; exact (Nat.min_eq_right hk).symm) (by
    intro j v hv
    rw [Go.WideShapes.add_plain]
    have hj : j < dLen := by
      have := (List.getElem?_eq_some_iff.1 hv).1
      omega
    rw [hc j (by omega)]
    rw [hcs, List.getElem?_map, List.getElem?_take, if_pos (by omega), List.getElem?_eq_getElem (by omega)] at hv
    simp only [Option.map_some, Option.some.injEq] at hv
    rw [← hv]
    simp [List.getD_eq_getElem?_getD, show j < X.2.2.length by omega]) (by omega) hc1
  rw [← hR, hlen] at hrun
  have hRl : R.toList = cs ++ cur.toList.drop dLen := by rw [hR, hlen]; simp
  have hRs : R.size = cur.size := by rw [← Array.length_toList, hRl, List.length_append, hlen, List.length_drop, Array.length_toList]; omega
  have hld : (X.2.2.take dLen ++ l.drop dLen).length = l.length := by simp; omega
  unfold Oper.wp
  simp [execOp, ho, resolve, invoke, builtin, hd, hs, e, hrun, Result.andThen]
  refine h _ ⟨by simp, .inr ⟨g, cap, R, by rw [hld], h2, setRow_heap w g cur R 5 (0, 0) h3, by omega, h5, by rw [hRs, h6], ?_⟩⟩ (below_setRow (Below.refl _ _) h2 R) ⟨by simp, fun q _ hq => setRow_other w g q R hq, fun B' h1 _ => below_setRow (Below.refl _ _) h1 R⟩
  rw [hRl, hld, List.map_append, ← hcs, List.map_drop, ← h7, List.drop_take, List.take_append, hlen, List.take_of_length_le (show cs.length ≤ l.length * 1 by omega)]
end Go.Proofs.Ytbimmahlcceadaa
