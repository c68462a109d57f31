/- Reading and syncing, as mathematics (layer 4). -/
import Derived.Test.YtbimmahlcceadaaDskCase
import Derived.Test.YtbimmahlcceadaaDskRRead
namespace Go.Proofs.Ytbimmahlcceadaa
open Go.ChangeShapes Go.WideShapes Go.ChangeAt Go.RowKit
theorem valid_snoc {S : List Sl} {P : List Wr} {lf : Int} {st : Bool} {x : Wr} (h : Valid ⟨S, P, lf, st⟩) (hx : okWr S.length x) (hp : P.length < 4096) : Valid ⟨S, P ++ [x], lf, st⟩ := by
  obtain ⟨⟨h1, h2, h3, h4, h5⟩, h6, h7⟩ := h
  refine ⟨⟨h1, h2, by simp; omega, h4, h5⟩, h6, fun i hi => ?_⟩
  by_cases e : i < P.length
  · show okWr S.length (nW (P ++ [x]) i)
    rw [nW_app_l e]; exact h7 i e
  · obtain rfl : i = P.length := by simp at hi; omega
    show okWr S.length (nW (P ++ [x]) P.length)
    rw [nW_app_r]; exact hx
theorem perf_rd {S : List Sl} {P : List Wr} {k : Nat} (hk : k < S.length) : ∀ n, (∀ j, j < n → 0 ≤ (nW P j).1 ∧ (nW P j).1 < (S.length : Int)) → nS (perfK S P n) k = rdK P (k : Int) (nS S k) n
  | 0, _ => rfl
  | n + 1, h => by
    have ih := perf_rd hk n (fun j hj => h j (by omega))
    obtain ⟨h0, h1⟩ := h n (by omega)
    unfold perfK rdK
    by_cases e : (nW P n).1 = (k : Int)
    · rw [if_pos e, show (nW P n).1.toNat = k by omega, nS_set (by rw [perfK_len]; exact hk)]
    · rw [if_neg e, nS_set_ne (by omega), ih]
theorem rd_pre {P Q : List Wr} {a : Int} {b : Sl} : ∀ k, k ≤ P.length → rdK (P ++ Q) a b k = rdK P a b k
  | 0, _ => rfl
  | k + 1, h => by
    unfold rdK
    rw [nW_app_l (by omega), rd_pre k (by omega)]
theorem rd_snoc {P : List Wr} {x : Wr} {a : Int} {b : Sl} {n : Nat} (hn : P.length = n) : rdK (P ++ [x]) a b (n + 1) = if x.1 = a then x.2 else rdK P a b n := by
  subst hn
  rw [rdK, nW_app_r, rd_pre _ (Nat.le_refl _)]
theorem rd_len {P : List Wr} {a : Int} {b : Sl} (hb : b.2.2.length = 128) : ∀ k, (∀ j, j < k → (nW P j).2.2.2.length = 128) → (rdK P a b k).2.2.length = 128
  | 0, _ => hb
  | k + 1, h => by
    unfold rdK
    split
    · exact h k (by omega)
    · exact rd_len hb k (fun j hj => h j (by omega))
theorem valid_done {S : List Sl} {P : List Wr} {lf G : Int} (h : Valid ⟨S, P, lf, false⟩) (h0 : -1 ≤ G) (h1 : G ≤ 65536) (n : Nat) (hn : n ≤ P.length) : Valid ⟨perfK S P n, [], G, false⟩ := by
  obtain ⟨⟨g1, g2, g3, g4, g5⟩, g6, g7⟩ := h
  dsimp only at *
  refine ⟨⟨by rw [perfK_len]; exact g1, by rw [perfK_len]; exact g2, by simp, h0, h1⟩, fun i hi => ?_, fun i hi => by simp at hi⟩
  dsimp only at hi ⊢
  rw [perfK_len] at hi
  show (nS (perfK S P n) i).2.2.length = 128
  rw [perf_rd hi n (fun j hj => ⟨(g7 j (by omega)).1, (g7 j (by omega)).2.1⟩)]
  exact rd_len (g6 i hi) n (fun j hj => (g7 j (by omega)).2.2)
theorem SlR.preL {w : World} {Y : Sl} {l r : List Int} (h : SlR w Y) (hl : Y.2.2 = l ++ r) : SlR w (Y.1, Y.2.1, l) := by
  obtain ⟨b, off, hR, h2, h3⟩ := h
  have hle : l.length ≤ Y.2.2.length := by rw [hl]; simp
  refine ⟨b, off, ⟨rfl, fun (h0 : 0 < l.length) => hR.adr (by omega), fun (h0 : 0 < l.length) => hR.old (by omega), fun i (hi : i < l.length) => ?_⟩, h2, by dsimp only; omega⟩
  rw [hR.cel i (by omega), hl]
  simp [List.getD_eq_getElem?_getD, List.getElem?_append_left hi]
theorem WriteR.shape {r : Bool} {P : List Wr} {lf : Int} {st : Bool} {sa : Option Addr} {sn sc pn : Nat} {i : Int} {l : List Int} {B : Nat} {w' : World} {e : Ending} (h : WriteR r P lf st sa sn sc pn i l B w' e) : ∃ (a1 : Option Addr) (n1 c1 : Nat) (a2 : Option Addr) (n2 c2 : Nat) (x : Int) (s : Bool) (k : Int), e = .returned (.tuple #[.agg #[.slice a1 n1 c1, .slice a2 n2 c2, .int .i64 x, .bool s], .int .i64 k]) := by
  rcases h with ⟨_, h⟩ | ⟨_, _, _, _, h⟩ | ⟨_, _, _, _, _, h⟩ | ⟨_, _, _, _, _, _, _, _, _, _, _, _, _, _, h⟩
  · exact ⟨_, _, _, _, _, _, _, _, _, h⟩
  · exact ⟨_, _, _, _, _, _, _, _, _, h⟩
  · exact ⟨_, _, _, _, _, _, _, _, _, h⟩
  · exact ⟨_, _, _, _, _, _, _, _, _, h⟩
theorem WriteR.not {r : Bool} {P : List Wr} {lf : Int} {st : Bool} {sa : Option Addr} {sn sc pn : Nat} {i : Int} {l : List Int} {B : Nat} {w' : World} {e : Ending} (h : WriteR r P lf st sa sn sc pn i l B w' e) (hn : ¬ (r = true ∧ 0 ≤ i ∧ i < (sn : Int) ∧ l.length ≤ 128 ∧ pn < 4096)) : ∃ k : Int, (k != 0) = true ∧ e = .returned (.tuple #[.agg #[.slice none 0 0, .slice none 0 0, .int .i64 0, .bool false], .int .i64 k]) := by
  rcases h with ⟨_, h⟩ | ⟨_, _, _, _, h⟩ | ⟨_, _, _, _, _, h⟩ | ⟨h1, h2, h3, h4, h5, _⟩
  · exact ⟨_, rfl, h⟩
  · exact ⟨_, rfl, h⟩
  · exact ⟨_, rfl, h⟩
  · exact absurd ⟨h1, h2, h3, h4, h5⟩ hn
end Go.Proofs.Ytbimmahlcceadaa
