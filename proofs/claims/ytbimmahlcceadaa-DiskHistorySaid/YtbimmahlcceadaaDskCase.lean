/- What the disk's functions and the reference's answer, case by case (layer 4). -/
import Derived.Test.YtbimmahlcceadaaDskFar
import Derived.Test.YtbimmahlcceadaaDskRSync
import Derived.Test.YtbimmahlcceadaaDskSame
namespace Go.Proofs.Ytbimmahlcceadaa
open Go.ChangeShapes Go.WideShapes Go.ChangeAt Go.RowKit
theorem WriteR.bad {r : Bool} {P : List Wr} {lf : Int} {st : Bool} {sa : Option Addr} {sn sc pn : Nat} {i : Int} {l : List Int} {B : Nat} {w' : World} {e : Ending} (h : WriteR r P lf st sa sn sc pn i l B w' e) (hr : ¬ (r = true ∧ 0 ≤ i ∧ i < (sn : Int))) : e = .returned (.tuple #[.agg #[.slice none 0 0, .slice none 0 0, .int .i64 0, .bool false], .int .i64 40]) := by
  rcases h with ⟨_, h⟩ | ⟨h, h2, h3, _⟩ | ⟨h, h2, h3, _⟩ | ⟨h, h2, h3, _⟩
  · exact h
  · exact absurd ⟨h, h2, h3⟩ hr
  · exact absurd ⟨h, h2, h3⟩ hr
  · exact absurd ⟨h, h2, h3⟩ hr
theorem WriteR.long {r : Bool} {P : List Wr} {lf : Int} {st : Bool} {sa : Option Addr} {sn sc pn : Nat} {i : Int} {l : List Int} {B : Nat} {w' : World} {e : Ending} (h : WriteR r P lf st sa sn sc pn i l B w' e) (hr : r = true ∧ 0 ≤ i ∧ i < (sn : Int)) (hl : 128 < l.length) : e = .returned (.tuple #[.agg #[.slice none 0 0, .slice none 0 0, .int .i64 0, .bool false], .int .i64 1]) := by
  rcases h with ⟨h, _⟩ | ⟨_, _, _, _, h⟩ | ⟨_, _, _, h, _⟩ | ⟨_, _, _, h, _⟩
  · exact absurd hr h
  · exact h
  · omega
  · omega
theorem WriteR.full {r : Bool} {P : List Wr} {lf : Int} {st : Bool} {sa : Option Addr} {sn sc pn : Nat} {i : Int} {l : List Int} {B : Nat} {w' : World} {e : Ending} (h : WriteR r P lf st sa sn sc pn i l B w' e) (hr : r = true ∧ 0 ≤ i ∧ i < (sn : Int)) (hl : l.length ≤ 128) (hp : pn = 4096) : e = .returned (.tuple #[.agg #[.slice none 0 0, .slice none 0 0, .int .i64 0, .bool false], .int .i64 2]) := by
  rcases h with ⟨h, _⟩ | ⟨_, _, _, h, _⟩ | ⟨_, _, _, _, _, h⟩ | ⟨_, _, _, _, h, _⟩
  · exact absurd hr h
  · omega
  · exact h
  · omega
theorem WriteR.ok {r : Bool} {P : List Wr} {lf : Int} {st : Bool} {sa : Option Addr} {sn sc pn : Nat} {i : Int} {l : List Int} {B : Nat} {w' : World} {e : Ending} (h : WriteR r P lf st sa sn sc pn i l B w' e) (hr : r = true ∧ 0 ≤ i ∧ i < (sn : Int)) (hl : l.length ≤ 128) (hp : pn < 4096) : ∃ (qa : Option Addr) (qb qc : Nat) (Y : Sl), Y.2.2 = padL l ∧ pn + 1 ≤ qc ∧ B ≤ qb ∧ SlG w' B Y ∧ Pens w' qa qb 0 (pn + 1) (P ++ [(i, Y)]) ∧ e = .returned (.tuple #[.agg #[.slice sa sn sc, .slice qa (pn + 1) qc, .int .i64 lf, .bool st], .int .i64 0]) := by
  rcases h with ⟨h, _⟩ | ⟨_, _, _, h, _⟩ | ⟨_, _, _, _, h, _⟩ | ⟨_, _, _, _, _, h⟩
  · exact absurd hr h
  · omega
  · omega
  · exact h
theorem ReadR.bad {S : List Sl} {P : List Wr} {r : Bool} {sn pn : Nat} {i : Int} {e : Ending} (h : ReadR S P r sn pn i e) (hr : ¬ (r = true ∧ 0 ≤ i ∧ i < (sn : Int))) : e = .returned (.tuple #[.slice none 0 0, .int .i64 40]) := by
  rcases h with ⟨_, h⟩ | ⟨h, h2, h3, _⟩
  · exact h
  · exact absurd ⟨h, h2, h3⟩ hr
theorem ReadR.ok {S : List Sl} {P : List Wr} {r : Bool} {sn pn : Nat} {i : Int} {e : Ending} (h : ReadR S P r sn pn i e) (hr : r = true ∧ 0 ≤ i ∧ i < (sn : Int)) : e = .returned (.tuple #[slV (rdK P i (nS S i.toNat) pn), .int .i64 0]) := by
  rcases h with ⟨h, _⟩ | ⟨_, _, _, h⟩
  · exact absurd hr h
  · exact h
theorem SyncR.bad {r : Bool} {S : List Sl} {P : List Wr} {lf : Int} {sn pn B : Nat} {w' : World} {e : Ending} (h : SyncR r S P lf sn pn B w' e) (hr : r = false) : e = .returned (.tuple #[.agg #[.slice none 0 0, .slice none 0 0, .int .i64 0, .bool false], .int .i64 40]) := by
  rcases h with ⟨_, h⟩ | ⟨h, _⟩ | ⟨h, _⟩
  · exact h
  · rw [hr] at h; cases h
  · rw [hr] at h; cases h
theorem SyncR.done {r : Bool} {S : List Sl} {P : List Wr} {lf : Int} {sn pn B : Nat} {w' : World} {e : Ending} (h : SyncR r S P lf sn pn B w' e) (hr : r = true) (hl : lf = -1 ∨ (pn : Int) ≤ lf) : ∃ b cap, sn ≤ cap ∧ B ≤ b ∧ Secs w' (some ⟨b, 0, none⟩) b 0 sn (perfK S P pn) ∧ e = .returned (.tuple #[.agg #[.slice (some ⟨b, 0, none⟩) sn cap, .slice none 0 0, .int .i64 (if lf = -1 then -1 else lf - pn), .bool false], .int .i64 0]) := by
  rcases h with ⟨h, _⟩ | ⟨_, _, h⟩ | ⟨_, _, _, _⟩
  · rw [hr] at h; cases h
  · exact h
  · omega
theorem SyncR.torn {r : Bool} {S : List Sl} {P : List Wr} {lf : Int} {sn pn B : Nat} {w' : World} {e : Ending} (h : SyncR r S P lf sn pn B w' e) (hr : r = true) (h0 : 0 ≤ lf) (hl : lf < (pn : Int)) : ∃ b cap Y, sn ≤ cap ∧ B ≤ b ∧ SlG w' B Y ∧ Y.2.2 = tornL (nW P lf.toNat).2.2.2 (nS (perfK S P lf.toNat) (nW P lf.toNat).1.toNat).2.2 ∧ Secs w' (some ⟨b, 0, none⟩) b 0 sn ((perfK S P lf.toNat).set (nW P lf.toNat).1.toNat Y) ∧ e = .returned (.tuple #[.agg #[.slice (some ⟨b, 0, none⟩) sn cap, .slice none 0 0, .int .i64 0, .bool true], .int .i64 40]) := by
  rcases h with ⟨h, _⟩ | ⟨_, _, _⟩ | ⟨_, _, _, h⟩
  · rw [hr] at h; cases h
  · omega
  · exact h
theorem StopR.bad {r : Bool} {sa : Option Addr} {sn sc : Nat} {pa : Option Addr} {pn pc : Nat} {st : Bool} {left : Int} {e : Ending} (h : StopR r sa sn sc pa pn pc st left e) (hr : r = false) : e = .returned (.tuple #[.agg #[.slice none 0 0, .slice none 0 0, .int .i64 0, .bool false], .int .i64 40]) := by
  rcases h with ⟨_, h⟩ | ⟨h, _⟩ | ⟨h, _⟩
  · exact h
  · rw [hr] at h; cases h
  · rw [hr] at h; cases h
theorem StopR.arg {r : Bool} {sa : Option Addr} {sn sc : Nat} {pa : Option Addr} {pn pc : Nat} {st : Bool} {left : Int} {e : Ending} (h : StopR r sa sn sc pa pn pc st left e) (hr : r = true) (hl : left < 0 ∨ 65536 < left) : e = .returned (.tuple #[.agg #[.slice none 0 0, .slice none 0 0, .int .i64 0, .bool false], .int .i64 1]) := by
  rcases h with ⟨h, _⟩ | ⟨_, _, h⟩ | ⟨_, _, _, _⟩
  · rw [hr] at h; cases h
  · exact h
  · omega
theorem StopR.ok {r : Bool} {sa : Option Addr} {sn sc : Nat} {pa : Option Addr} {pn pc : Nat} {st : Bool} {left : Int} {e : Ending} (h : StopR r sa sn sc pa pn pc st left e) (hr : r = true) (h0 : 0 ≤ left) (hl : left ≤ 65536) : e = .returned (.tuple #[.agg #[.slice sa sn sc, .slice pa pn pc, .int .i64 left, .bool st], .int .i64 0]) := by
  rcases h with ⟨h, _⟩ | ⟨_, _, _⟩ | ⟨_, _, _, h⟩
  · rw [hr] at h; cases h
  · omega
  · exact h
theorem NewS.bad {n : Int} {B : Nat} {w' : World} {e : Ending} (h : NewS n B w' e) (hn : n < 1 ∨ 4096 < n) : e = .returned (.tuple #[.agg #[.slice none 0 0, .slice none 0 0, .int .i64 0, .bool false], .int .i64 1]) := by
  rcases h with ⟨_, h⟩ | ⟨m, _, _, _, _, _, _, _⟩
  · exact h
  · omega
theorem NewS.ok {m : Nat} {B : Nat} {w' : World} {e : Ending} (h : NewS (m : Int) B w' e) (h1 : 1 ≤ m) (h2 : m ≤ 4096) : ∃ (b cap : Nat) (L : List Sl), m ≤ cap ∧ e = .returned (.tuple #[.agg #[.slice (some ⟨b, 0, none⟩) m cap, .slice none 0 0, .int .i64 (-1), .bool false], .int .i64 0]) ∧ Secs w' (some ⟨b, 0, none⟩) b 0 m L ∧ (∀ i, i < m → (nS L i).2.2 = z128) ∧ B ≤ b ∧ ∀ i, i < m → SlG w' B (nS L i) := by
  rcases h with ⟨_, _⟩ | ⟨m', b, cap, L, e1, _, _, h⟩
  · omega
  · obtain rfl : m = m' := by omega
    exact ⟨b, cap, L, h⟩
theorem secs_nil (w : World) (a : Option Addr) : Secs w a 0 0 0 [] := ⟨rfl, fun h => by omega, fun h => by omega, fun i hi => by omega, fun i hi => by omega⟩
theorem sameS_torn {S : List Sl} {t n : Nat} {Y Y2 : Sl} (h : Y.2.2 = Y2.2.2) (hn : S.length = n) : SameS (S.set t Y) (S.set t Y2) n := fun i hi => by
  by_cases e : i = t
  · subst e; rw [nS_set (by omega), nS_set (by omega), h]
  · rw [nS_set_ne e, nS_set_ne e]
theorem sameP_snoc {P : List Wr} {i : Int} {n : Nat} {Y Y2 : Sl} (h : Y.2.2 = Y2.2.2) (hn : P.length = n) : SameP (P ++ [(i, Y)]) (P ++ [(i, Y2)]) (n + 1) := fun k hk => by
  by_cases e : k < n
  · rw [nW_app_l (by omega), nW_app_l (by omega)]; exact ⟨rfl, rfl⟩
  · obtain rfl : k = P.length := by omega
    rw [nW_app_r, nW_app_r]; exact ⟨rfl, h⟩
end Go.Proofs.Ytbimmahlcceadaa
