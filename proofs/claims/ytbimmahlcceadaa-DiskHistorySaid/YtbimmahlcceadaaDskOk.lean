/- What the disk's functions answer, case by case (layer 4). -/
import Derived.Test.YtbimmahlcceadaaDskWrite
import Derived.Test.YtbimmahlcceadaaDskSync
import Derived.Test.YtbimmahlcceadaaDskRead
import Derived.Test.YtbimmahlcceadaaDskRNew
namespace Go.Proofs.Ytbimmahlcceadaa
open Go.ChangeShapes Go.WideShapes Go.ChangeAt Go.RowKit
theorem new_ok (m : Nat) (w : World) (h1 : 1 ≤ m) (h2 : m ≤ 4096) :
    Calls Try.prog 12 #[.int .i64 (m : Int)] w fun e w' => (∃ b L, e = .returned (.tuple #[.agg #[.slice (some ⟨b, 0, none⟩) m m, .slice none 0 0, .int .i64 (-1), .bool false], .int .i64 0]) ∧ Secs w' (some ⟨b, 0, none⟩) b 0 m L ∧ (∀ i, i < m → (nS L i).2.2 = z128) ∧ w.heap.size ≤ b ∧ ∀ i, i < m → SlG w' w.heap.size (nS L i)) ∧ Below w.heap.size w w' := by
  refine (new_any (m : Int) w).mono ?_
  rintro e w' ⟨hn, hb⟩
  rcases hn with ⟨h, _⟩ | ⟨m', b, L, e1, _, _, hB, he, hl, hc, hz⟩
  · omega
  · obtain rfl : m = m' := by omega
    exact ⟨⟨b, L, he, secs_of_hdb (hdb_cells hc hl) (fun i hi => (hz i hi).1.r), fun i hi => (hz i hi).2, hB, fun i hi => (hz i hi).1⟩, hb⟩
theorem new_bad (n : Int) (w : World) (h : n < 1 ∨ 4096 < n) :
    Calls Try.prog 12 #[.int .i64 n] w fun e w' => e = .returned (.tuple #[.agg #[.slice none 0 0, .slice none 0 0, .int .i64 0, .bool false], .int .i64 1]) ∧ Below w.heap.size w w' := by
  refine (new_any n w).mono ?_
  rintro e w' ⟨hn, hb⟩
  rcases hn with ⟨_, h⟩ | ⟨m', b, L, e1, _, _, hB, he, hl, hc, hz⟩
  · exact ⟨h, hb⟩
  · omega
theorem write_ok (S : List Sl) (P : List Wr) (lf : Int) (sa : Option Addr) (sb so sn sc : Nat) (pa : Option Addr) (pb po pn pc : Nat) (i : Int) (X : Sl) (n1 : Nat) (w : World) (hS : Secs w sa sb so sn S) (hP : Pens w pa pb po pn P) (hX : SlR w X) (hsn : sn ≤ 9223372036854775807) (hpc : pn ≤ pc) (hr : runB ⟨S, P, lf, false⟩ = true) (h0 : 0 ≤ i) (h1 : i < (sn : Int)) (hl : X.2.2.length ≤ 128) (hp : pn < 4096) (hn1 : n1 = pn + 1) :
    Calls Try.prog 19 #[.agg #[.slice sa sn sc, .slice pa pn pc, .int .i64 lf, .bool false], .int .i64 i, .slice X.1 X.2.2.length X.2.1] w fun e w' => (∃ (qa : Option Addr) (qb qc : Nat) (Y : Sl), Y.2.2 = padL X.2.2 ∧ n1 ≤ qc ∧ w.heap.size ≤ qb ∧ SlG w' w.heap.size Y ∧ Pens w' qa qb 0 n1 (P ++ [(i, Y)]) ∧ e = .returned (.tuple #[.agg #[.slice sa sn sc, .slice qa n1 qc, .int .i64 lf, .bool false], .int .i64 0])) ∧ Below w.heap.size w w' := by
  subst hn1
  refine (write_any S P lf false sa sb so sn sc pa pb po pn pc i X w hS hP hX hsn (by omega) hpc (by omega)).mono ?_
  rintro e w' ⟨hw, hb⟩
  refine ⟨?_, hb⟩
  rcases hw with ⟨h, _⟩ | ⟨_, _, _, h, _⟩ | ⟨_, _, _, _, h, _⟩ | ⟨_, _, _, _, _, qa, qb, qc, Y, g1, g2, g3, g4, g5, g6⟩
  · exact absurd ⟨hr, h0, h1⟩ h
  · omega
  · omega
  · exact ⟨qa, qb, qc, Y, g1, g2, g3, g4, g5, g6⟩
theorem write_long (S : List Sl) (P : List Wr) (lf : Int) (sa : Option Addr) (sb so sn sc : Nat) (pa : Option Addr) (pb po pn pc : Nat) (i : Int) (X : Sl) (w : World) (hS : Secs w sa sb so sn S) (hP : Pens w pa pb po pn P) (hX : SlR w X) (hsn : sn ≤ 9223372036854775807) (hpn : pn ≤ 9223372036854775807) (hpc : pn ≤ pc) (hlX : X.2.2.length ≤ 9223372036854775807) (hr : runB ⟨S, P, lf, false⟩ = true) (h0 : 0 ≤ i) (h1 : i < (sn : Int)) (hl : 128 < X.2.2.length) :
    Calls Try.prog 19 #[.agg #[.slice sa sn sc, .slice pa pn pc, .int .i64 lf, .bool false], .int .i64 i, .slice X.1 X.2.2.length X.2.1] w fun e w' => e = .returned (.tuple #[.agg #[.slice none 0 0, .slice none 0 0, .int .i64 0, .bool false], .int .i64 1]) ∧ Below w.heap.size w w' := by
  refine (write_any S P lf false sa sb so sn sc pa pb po pn pc i X w hS hP hX hsn hpn hpc hlX).mono ?_
  rintro e w' ⟨hw, hb⟩
  refine ⟨?_, hb⟩
  rcases hw with ⟨h, _⟩ | ⟨_, _, _, _, h⟩ | ⟨_, _, _, h, _⟩ | ⟨_, _, _, h, _⟩
  · exact absurd ⟨hr, h0, h1⟩ h
  · exact h
  · omega
  · omega
theorem write_stopped (S : List Sl) (P : List Wr) (lf : Int) (st : Bool) (sa : Option Addr) (sb so sn sc : Nat) (pa : Option Addr) (pb po pn pc : Nat) (i : Int) (X : Sl) (w : World) (hS : Secs w sa sb so sn S) (hP : Pens w pa pb po pn P) (hX : SlR w X) (hsn : sn ≤ 9223372036854775807) (hpn : pn ≤ 9223372036854775807) (hpc : pn ≤ pc) (hlX : X.2.2.length ≤ 9223372036854775807) (hr : ¬ (runB ⟨S, P, lf, st⟩ = true ∧ 0 ≤ i ∧ i < (sn : Int))) :
    Calls Try.prog 19 #[.agg #[.slice sa sn sc, .slice pa pn pc, .int .i64 lf, .bool st], .int .i64 i, .slice X.1 X.2.2.length X.2.1] w fun e w' => e = .returned (.tuple #[.agg #[.slice none 0 0, .slice none 0 0, .int .i64 0, .bool false], .int .i64 40]) ∧ Below w.heap.size w w' := by
  refine (write_any S P lf st sa sb so sn sc pa pb po pn pc i X w hS hP hX hsn hpn hpc hlX).mono ?_
  rintro e w' ⟨hw, hb⟩
  refine ⟨?_, hb⟩
  rcases hw with ⟨_, h⟩ | ⟨h, h2, h3, _⟩ | ⟨h, h2, h3, _⟩ | ⟨h, h2, h3, _⟩
  · exact h
  · exact absurd ⟨h, h2, h3⟩ hr
  · exact absurd ⟨h, h2, h3⟩ hr
  · exact absurd ⟨h, h2, h3⟩ hr
theorem read_ok (S : List Sl) (P : List Wr) (lf : Int) (sa : Option Addr) (sb so sn sc : Nat) (pa : Option Addr) (pb po pn pc : Nat) (i : Int) (w : World) (hS : Secs w sa sb so sn S) (hP : Pens w pa pb po pn P) (hsn : sn ≤ 9223372036854775807) (hpn : pn ≤ 9223372036854775807) (hr : runB ⟨S, P, lf, false⟩ = true) (h0 : 0 ≤ i) (h1 : i < (sn : Int)) (Y : Sl) (hY : rdK P i (nS S i.toNat) pn = Y) (m : Nat) (hm : Y.2.2.length = m) :
    Calls Try.prog 21 #[.agg #[.slice sa sn sc, .slice pa pn pc, .int .i64 lf, .bool false], .int .i64 i] w fun e w' => e = .returned (.tuple #[.slice Y.1 m Y.2.1, .int .i64 0]) ∧ Below w.heap.size w w' := by
  refine (read_any S P lf false sa sb so sn sc pa pb po pn pc i w hS hP hsn hpn).mono ?_
  rintro e w' ⟨hw, hb⟩
  refine ⟨?_, hb⟩
  rcases hw with ⟨h, _⟩ | ⟨_, _, _, h⟩
  · exact absurd ⟨hr, h0, h1⟩ h
  · rw [h, hY, slV, hm]
theorem read_bad (S : List Sl) (P : List Wr) (lf : Int) (st : Bool) (sa : Option Addr) (sb so sn sc : Nat) (pa : Option Addr) (pb po pn pc : Nat) (i : Int) (w : World) (hS : Secs w sa sb so sn S) (hP : Pens w pa pb po pn P) (hsn : sn ≤ 9223372036854775807) (hpn : pn ≤ 9223372036854775807) (hr : ¬ (runB ⟨S, P, lf, st⟩ = true ∧ 0 ≤ i ∧ i < (sn : Int))) :
    Calls Try.prog 21 #[.agg #[.slice sa sn sc, .slice pa pn pc, .int .i64 lf, .bool st], .int .i64 i] w fun e w' => e = .returned (.tuple #[.slice none 0 0, .int .i64 40]) ∧ Below w.heap.size w w' := by
  refine (read_any S P lf st sa sb so sn sc pa pb po pn pc i w hS hP hsn hpn).mono ?_
  rintro e w' ⟨hw, hb⟩
  refine ⟨?_, hb⟩
  rcases hw with ⟨_, h⟩ | ⟨h, h2, h3, _⟩
  · exact h
  · exact absurd ⟨h, h2, h3⟩ hr
theorem stop_ok (S : List Sl) (P : List Wr) (lf : Int) (sa : Option Addr) (sb so sn sc : Nat) (pa : Option Addr) (pb po pn pc : Nat) (left : Int) (w : World) (hS : Secs w sa sb so sn S) (hP : Pens w pa pb po pn P) (hsn : sn ≤ 9223372036854775807) (hpn : pn ≤ 9223372036854775807) (hr : runB ⟨S, P, lf, false⟩ = true) (h0 : 0 ≤ left) (h1 : left ≤ 65536) :
    Calls Try.prog 25 #[.agg #[.slice sa sn sc, .slice pa pn pc, .int .i64 lf, .bool false], .int .i64 left] w fun e w' => e = .returned (.tuple #[.agg #[.slice sa sn sc, .slice pa pn pc, .int .i64 left, .bool false], .int .i64 0]) ∧ Below w.heap.size w w' := by
  refine (stop_any S P lf false sa sb so sn sc pa pb po pn pc left w hS hP hsn hpn).mono ?_
  rintro e w' ⟨hw, hb⟩
  refine ⟨?_, hb⟩
  rcases hw with ⟨h, _⟩ | ⟨_, h, _⟩ | ⟨_, _, _, h⟩
  · rw [hr] at h; cases h
  · omega
  · exact h
theorem stop_stopped (S : List Sl) (P : List Wr) (lf : Int) (st : Bool) (sa : Option Addr) (sb so sn sc : Nat) (pa : Option Addr) (pb po pn pc : Nat) (left : Int) (w : World) (hS : Secs w sa sb so sn S) (hP : Pens w pa pb po pn P) (hsn : sn ≤ 9223372036854775807) (hpn : pn ≤ 9223372036854775807) (hr : runB ⟨S, P, lf, st⟩ = false) :
    Calls Try.prog 25 #[.agg #[.slice sa sn sc, .slice pa pn pc, .int .i64 lf, .bool st], .int .i64 left] w fun e w' => e = .returned (.tuple #[.agg #[.slice none 0 0, .slice none 0 0, .int .i64 0, .bool false], .int .i64 40]) ∧ Below w.heap.size w w' := by
  refine (stop_any S P lf st sa sb so sn sc pa pb po pn pc left w hS hP hsn hpn).mono ?_
  rintro e w' ⟨hw, hb⟩
  refine ⟨?_, hb⟩
  rcases hw with ⟨_, h⟩ | ⟨h, _⟩ | ⟨h, _⟩
  · exact h
  · rw [hr] at h; cases h
  · rw [hr] at h; cases h
theorem sync_stopped (S : List Sl) (P : List Wr) (lf : Int) (st : Bool) (sa : Option Addr) (sb so sn sc : Nat) (pa : Option Addr) (pb po pn pc : Nat) (w : World) (hS : Secs w sa sb so sn S) (hP : Pens w pa pb po pn P) (hsn : sn ≤ 9223372036854775807) (hpn : pn ≤ 9223372036854775807) (hpc : pn ≤ pc) (hsc : sa = none → sc = 0) (hr : runB ⟨S, P, lf, st⟩ = false) :
    Calls Try.prog 23 #[.agg #[.slice sa sn sc, .slice pa pn pc, .int .i64 lf, .bool st]] w fun e w' => e = .returned (.tuple #[.agg #[.slice none 0 0, .slice none 0 0, .int .i64 0, .bool false], .int .i64 40]) ∧ Below w.heap.size w w' := by
  refine (sync_any S P lf st sa sb so sn sc pa pb po pn pc w hS hP hsn hpn hpc hsc).mono ?_
  rintro e w' ⟨hw, hb⟩
  refine ⟨?_, hb⟩
  rcases hw with ⟨_, h⟩ | ⟨h, _⟩ | ⟨h, _⟩
  · exact h
  · rw [hr] at h; cases h
  · rw [hr] at h; cases h
theorem sync_done (S : List Sl) (P : List Wr) (lf : Int) (sa : Option Addr) (sb so sn sc : Nat) (pa : Option Addr) (pb po pn pc : Nat) (w : World) (hS : Secs w sa sb so sn S) (hP : Pens w pa pb po pn P) (hsn : sn ≤ 9223372036854775807) (hpn : pn ≤ 9223372036854775807) (hpc : pn ≤ pc) (hsc : sa = none → sc = 0) (hr : runB ⟨S, P, lf, false⟩ = true) (hl : lf = -1 ∨ (pn : Int) ≤ lf) :
    Calls Try.prog 23 #[.agg #[.slice sa sn sc, .slice pa pn pc, .int .i64 lf, .bool false]] w fun e w' => (∃ b cap, sn ≤ cap ∧ w.heap.size ≤ b ∧ Secs w' (some ⟨b, 0, none⟩) b 0 sn (perfK S P pn) ∧ e = .returned (.tuple #[.agg #[.slice (some ⟨b, 0, none⟩) sn cap, .slice none 0 0, .int .i64 (if lf = -1 then -1 else lf - pn), .bool false], .int .i64 0])) ∧ Below w.heap.size w w' := by
  refine (sync_any S P lf false sa sb so sn sc pa pb po pn pc w hS hP hsn hpn hpc hsc).mono ?_
  rintro e w' ⟨hw, hb⟩
  refine ⟨?_, hb⟩
  rcases hw with ⟨h, _⟩ | ⟨_, _, h⟩ | ⟨_, h1, h2, _⟩
  · rw [hr] at h; cases h
  · exact h
  · omega
theorem sync_torn (S : List Sl) (P : List Wr) (m : Nat) (sa : Option Addr) (sb so sn sc : Nat) (pa : Option Addr) (pb po pn pc : Nat) (w : World) (hS : Secs w sa sb so sn S) (hP : Pens w pa pb po pn P) (hsn : sn ≤ 9223372036854775807) (hpn : pn ≤ 9223372036854775807) (hpc : pn ≤ pc) (hsc : sa = none → sc = 0) (hr : runB ⟨S, P, (m : Int), false⟩ = true) (hl : m < pn) :
    Calls Try.prog 23 #[.agg #[.slice sa sn sc, .slice pa pn pc, .int .i64 (m : Int), .bool false]] w fun e w' => (∃ b cap Y, sn ≤ cap ∧ w.heap.size ≤ b ∧ SlG w' w.heap.size Y ∧ Y.2.2 = tornL (nW P m).2.2.2 (nS (perfK S P m) (nW P m).1.toNat).2.2 ∧ Secs w' (some ⟨b, 0, none⟩) b 0 sn ((perfK S P m).set (nW P m).1.toNat Y) ∧ e = .returned (.tuple #[.agg #[.slice (some ⟨b, 0, none⟩) sn cap, .slice none 0 0, .int .i64 0, .bool true], .int .i64 40])) ∧ Below w.heap.size w w' := by
  refine (sync_any S P (m : Int) false sa sb so sn sc pa pb po pn pc w hS hP hsn hpn hpc hsc).mono ?_
  rintro e w' ⟨hw, hb⟩
  refine ⟨?_, hb⟩
  rcases hw with ⟨h, _⟩ | ⟨_, h1, _⟩ | ⟨_, _, _, h⟩
  · rw [hr] at h; cases h
  · omega
  · simpa only [Int.toNat_natCast] using h
end Go.Proofs.Ytbimmahlcceadaa
