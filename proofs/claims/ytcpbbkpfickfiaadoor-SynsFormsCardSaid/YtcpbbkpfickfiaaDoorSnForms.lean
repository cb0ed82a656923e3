/- The walk of SynsForms: it answers true, whatever it is given. -/
import Derived.Test.YtcpbbkpfickfiaaDoorSnTop
import Derived.Test.YtcpbbkpfickfiaaDoorWdMath
set_option linter.unusedVariables false
set_option linter.unusedSimpArgs false
namespace Go.Proofs.YtcpbbkpfickfiaaDoor
open Go.RowKit
abbrev sfRow : Array Value := #[.string ⟨#[]⟩, .int .i64 0, .int .i64 (-1), .string ⟨#[119, 105, 100, 116, 104, 32, 50]⟩, .int .i64 1, .int .i64 (-1), .string ⟨#[119, 105, 100, 116, 104, 32, 114, 49]⟩, .int .i64 0, .int .i64 (6), .string ⟨#[119, 105, 100, 116, 104]⟩, .int .i64 0, .int .i64 (5), .string ⟨#[119, 105, 110, 100, 111, 119, 32, 51, 32, 52]⟩, .int .i64 0, .int .i64 (9), .string ⟨#[102, 117, 101, 108, 32, 57, 57, 57, 57, 57]⟩, .int .i64 3, .int .i64 (-1), .string ⟨#[112, 117, 98, 108, 105, 99, 32, 114, 51]⟩, .int .i64 4, .int .i64 (-1), .string ⟨#[115, 101, 99, 114, 101, 116, 32, 114, 52, 32, 50]⟩, .int .i64 5, .int .i64 (-1), .string ⟨#[115, 101, 99, 114, 101, 116, 32, 114, 52]⟩, .int .i64 0, .int .i64 (9), .string ⟨#[112, 117, 98, 108, 105, 99, 32, 97, 100, 100, 32, 50]⟩, .int .i64 0, .int .i64 (7), .string ⟨#[112, 117, 98, 108, 105, 99, 32, 51]⟩, .int .i64 0, .int .i64 (7), .string ⟨#[97, 58]⟩, .int .i64 6, .int .i64 (-1), .string ⟨#[97]⟩, .int .i64 0, .int .i64 (1), .string ⟨#[97, 32, 58, 32, 58]⟩, .int .i64 0, .int .i64 (4), .string ⟨#[114, 49, 58]⟩, .int .i64 0, .int .i64 (0), .string ⟨#[97, 100, 100, 58]⟩, .int .i64 0, .int .i64 (3), .string ⟨#[58]⟩, .int .i64 0, .int .i64 (0), .string ⟨#[53]⟩, .int .i64 0, .int .i64 (0), .string ⟨#[97, 100, 100, 32, 114, 48, 44, 32, 114, 49, 44, 32, 50]⟩, .int .i64 7, .int .i64 (-1), .string ⟨#[97, 100, 100, 32, 114, 48, 32, 114, 49, 44, 32, 50]⟩, .int .i64 0, .int .i64 (7), .string ⟨#[97, 100, 100, 32, 49, 44, 32, 114, 49, 44, 32, 50]⟩, .int .i64 0, .int .i64 (4), .string ⟨#[97, 100, 100, 32, 114, 52, 44, 32, 114, 49, 44, 32, 50]⟩, .int .i64 0, .int .i64 (4), .string ⟨#[109, 111, 118, 32, 114, 48, 44, 32, 53]⟩, .int .i64 7, .int .i64 (-1), .string ⟨#[109, 111, 118, 32, 114, 48, 44, 32, 120]⟩, .int .i64 0, .int .i64 (8), .string ⟨#[108, 111, 97, 100, 32, 114, 48, 44, 32, 91, 114, 49, 32, 43, 32, 114, 50, 93]⟩, .int .i64 7, .int .i64 (-1), .string ⟨#[108, 111, 97, 100, 32, 114, 48, 44, 32, 91, 114, 49, 93]⟩, .int .i64 0, .int .i64 (12), .string ⟨#[115, 116, 111, 114, 101, 32, 91, 49, 32, 43, 32, 50, 93, 44, 32, 114, 51]⟩, .int .i64 7, .int .i64 (-1), .string ⟨#[115, 116, 111, 114, 101, 32, 114, 51, 44, 32, 91, 49, 32, 43, 32, 50, 93]⟩, .int .i64 0, .int .i64 (6), .string ⟨#[99, 109, 111, 118, 32, 114, 48, 44, 32, 49, 44, 32, 114, 50]⟩, .int .i64 7, .int .i64 (-1), .string ⟨#[98, 114, 32, 108, 116, 32, 114, 48, 44, 32, 49, 44, 32, 120]⟩, .int .i64 7, .int .i64 (-1), .string ⟨#[98, 114, 32, 109, 111, 118, 32, 114, 48, 44, 32, 49, 44, 32, 120]⟩, .int .i64 0, .int .i64 (3), .string ⟨#[98, 114, 32, 108, 116, 32, 114, 48, 44, 32, 49, 44, 32, 108, 116]⟩, .int .i64 0, .int .i64 (13), .string ⟨#[106, 109, 112, 32, 120]⟩, .int .i64 7, .int .i64 (-1), .string ⟨#[106, 109, 112, 32, 51]⟩, .int .i64 0, .int .i64 (4), .string ⟨#[99, 97, 108, 108, 32, 104, 97, 108, 116]⟩, .int .i64 0, .int .i64 (5), .string ⟨#[105, 110, 100, 32, 51]⟩, .int .i64 7, .int .i64 (-1), .string ⟨#[105, 110, 100, 32, 120]⟩, .int .i64 0, .int .i64 (4), .string ⟨#[114, 101, 116]⟩, .int .i64 7, .int .i64 (-1), .string ⟨#[114, 101, 116, 32, 49]⟩, .int .i64 0, .int .i64 (4), .string ⟨#[104, 97, 108, 116, 59, 120]⟩, .int .i64 7, .int .i64 (-1), .string ⟨#[102, 101, 110, 99, 101, 32, 44]⟩, .int .i64 0, .int .i64 (6), .string ⟨#[195, 169]⟩, .int .i64 0, .int .i64 (0)]
theorem sf_ok {R : Except Nat Sy.It} {k : Int} (h : (match R with | .ok i => i.kind == k | .error _ => false) = true) : ∃ i, R = .ok i ∧ i.kind = k := by
  cases R with
  | ok l => exact ⟨l, rfl, by simpa using h⟩
  | error e => cases h
set_option maxRecDepth 100000 in
theorem sf_get (q : Nat) (h : q < 42) : ∃ (s : ByteArray) (k at_ : Int), sfRow[q * 3]? = some (.string s) ∧ sfRow[q * 3 + 1]? = some (.int .i64 k) ∧ sfRow[q * 3 + 2]? = some (.int .i64 at_) ∧ s.size ≤ 1000000 ∧
    ((at_ = -1 ∧ ∃ i, Sy.parse (Lx.runes s) = .ok i ∧ i.kind = k) ∨ (∃ m : Nat, at_ = (m : Int) ∧ Sy.parse (Lx.runes s) = .error m)) := by
  rcases (by omega : q = 0 ∨ q = 1 ∨ q = 2 ∨ q = 3 ∨ q = 4 ∨ q = 5 ∨ q = 6 ∨ q = 7 ∨ q = 8 ∨ q = 9 ∨ q = 10 ∨ q = 11 ∨ q = 12 ∨ q = 13 ∨ q = 14 ∨ q = 15 ∨ q = 16 ∨ q = 17 ∨ q = 18 ∨ q = 19 ∨ q = 20 ∨ q = 21 ∨ q = 22 ∨ q = 23 ∨ q = 24 ∨ q = 25 ∨ q = 26 ∨ q = 27 ∨ q = 28 ∨ q = 29 ∨ q = 30 ∨ q = 31 ∨ q = 32 ∨ q = 33 ∨ q = 34 ∨ q = 35 ∨ q = 36 ∨ q = 37 ∨ q = 38 ∨ q = 39 ∨ q = 40 ∨ q = 41) with rfl | rfl | rfl | rfl | rfl | rfl | rfl | rfl | rfl | rfl | rfl | rfl | rfl | rfl | rfl | rfl | rfl | rfl | rfl | rfl | rfl | rfl | rfl | rfl | rfl | rfl | rfl | rfl | rfl | rfl | rfl | rfl | rfl | rfl | rfl | rfl | rfl | rfl | rfl | rfl | rfl | rfl
  · exact ⟨⟨#[]⟩, 0, -1, rfl, rfl, rfl, by decide, .inl ⟨rfl, sf_ok (by kernel_rfl)⟩⟩
  · exact ⟨⟨#[119, 105, 100, 116, 104, 32, 50]⟩, 1, -1, rfl, rfl, rfl, by decide, .inl ⟨rfl, sf_ok (by kernel_rfl)⟩⟩
  · exact ⟨⟨#[119, 105, 100, 116, 104, 32, 114, 49]⟩, 0, 6, rfl, rfl, rfl, by decide, .inr ⟨6, rfl, by kernel_rfl⟩⟩
  · exact ⟨⟨#[119, 105, 100, 116, 104]⟩, 0, 5, rfl, rfl, rfl, by decide, .inr ⟨5, rfl, by kernel_rfl⟩⟩
  · exact ⟨⟨#[119, 105, 110, 100, 111, 119, 32, 51, 32, 52]⟩, 0, 9, rfl, rfl, rfl, by decide, .inr ⟨9, rfl, by kernel_rfl⟩⟩
  · exact ⟨⟨#[102, 117, 101, 108, 32, 57, 57, 57, 57, 57]⟩, 3, -1, rfl, rfl, rfl, by decide, .inl ⟨rfl, sf_ok (by kernel_rfl)⟩⟩
  · exact ⟨⟨#[112, 117, 98, 108, 105, 99, 32, 114, 51]⟩, 4, -1, rfl, rfl, rfl, by decide, .inl ⟨rfl, sf_ok (by kernel_rfl)⟩⟩
  · exact ⟨⟨#[115, 101, 99, 114, 101, 116, 32, 114, 52, 32, 50]⟩, 5, -1, rfl, rfl, rfl, by decide, .inl ⟨rfl, sf_ok (by kernel_rfl)⟩⟩
  · exact ⟨⟨#[115, 101, 99, 114, 101, 116, 32, 114, 52]⟩, 0, 9, rfl, rfl, rfl, by decide, .inr ⟨9, rfl, by kernel_rfl⟩⟩
  · exact ⟨⟨#[112, 117, 98, 108, 105, 99, 32, 97, 100, 100, 32, 50]⟩, 0, 7, rfl, rfl, rfl, by decide, .inr ⟨7, rfl, by kernel_rfl⟩⟩
  · exact ⟨⟨#[112, 117, 98, 108, 105, 99, 32, 51]⟩, 0, 7, rfl, rfl, rfl, by decide, .inr ⟨7, rfl, by kernel_rfl⟩⟩
  · exact ⟨⟨#[97, 58]⟩, 6, -1, rfl, rfl, rfl, by decide, .inl ⟨rfl, sf_ok (by kernel_rfl)⟩⟩
  · exact ⟨⟨#[97]⟩, 0, 1, rfl, rfl, rfl, by decide, .inr ⟨1, rfl, by kernel_rfl⟩⟩
  · exact ⟨⟨#[97, 32, 58, 32, 58]⟩, 0, 4, rfl, rfl, rfl, by decide, .inr ⟨4, rfl, by kernel_rfl⟩⟩
  · exact ⟨⟨#[114, 49, 58]⟩, 0, 0, rfl, rfl, rfl, by decide, .inr ⟨0, rfl, by kernel_rfl⟩⟩
  · exact ⟨⟨#[97, 100, 100, 58]⟩, 0, 3, rfl, rfl, rfl, by decide, .inr ⟨3, rfl, by kernel_rfl⟩⟩
  · exact ⟨⟨#[58]⟩, 0, 0, rfl, rfl, rfl, by decide, .inr ⟨0, rfl, by kernel_rfl⟩⟩
  · exact ⟨⟨#[53]⟩, 0, 0, rfl, rfl, rfl, by decide, .inr ⟨0, rfl, by kernel_rfl⟩⟩
  · exact ⟨⟨#[97, 100, 100, 32, 114, 48, 44, 32, 114, 49, 44, 32, 50]⟩, 7, -1, rfl, rfl, rfl, by decide, .inl ⟨rfl, sf_ok (by kernel_rfl)⟩⟩
  · exact ⟨⟨#[97, 100, 100, 32, 114, 48, 32, 114, 49, 44, 32, 50]⟩, 0, 7, rfl, rfl, rfl, by decide, .inr ⟨7, rfl, by kernel_rfl⟩⟩
  · exact ⟨⟨#[97, 100, 100, 32, 49, 44, 32, 114, 49, 44, 32, 50]⟩, 0, 4, rfl, rfl, rfl, by decide, .inr ⟨4, rfl, by kernel_rfl⟩⟩
  · exact ⟨⟨#[97, 100, 100, 32, 114, 52, 44, 32, 114, 49, 44, 32, 50]⟩, 0, 4, rfl, rfl, rfl, by decide, .inr ⟨4, rfl, by kernel_rfl⟩⟩
  · exact ⟨⟨#[109, 111, 118, 32, 114, 48, 44, 32, 53]⟩, 7, -1, rfl, rfl, rfl, by decide, .inl ⟨rfl, sf_ok (by kernel_rfl)⟩⟩
  · exact ⟨⟨#[109, 111, 118, 32, 114, 48, 44, 32, 120]⟩, 0, 8, rfl, rfl, rfl, by decide, .inr ⟨8, rfl, by kernel_rfl⟩⟩
  · exact ⟨⟨#[108, 111, 97, 100, 32, 114, 48, 44, 32, 91, 114, 49, 32, 43, 32, 114, 50, 93]⟩, 7, -1, rfl, rfl, rfl, by decide, .inl ⟨rfl, sf_ok (by kernel_rfl)⟩⟩
  · exact ⟨⟨#[108, 111, 97, 100, 32, 114, 48, 44, 32, 91, 114, 49, 93]⟩, 0, 12, rfl, rfl, rfl, by decide, .inr ⟨12, rfl, by kernel_rfl⟩⟩
  · exact ⟨⟨#[115, 116, 111, 114, 101, 32, 91, 49, 32, 43, 32, 50, 93, 44, 32, 114, 51]⟩, 7, -1, rfl, rfl, rfl, by decide, .inl ⟨rfl, sf_ok (by kernel_rfl)⟩⟩
  · exact ⟨⟨#[115, 116, 111, 114, 101, 32, 114, 51, 44, 32, 91, 49, 32, 43, 32, 50, 93]⟩, 0, 6, rfl, rfl, rfl, by decide, .inr ⟨6, rfl, by kernel_rfl⟩⟩
  · exact ⟨⟨#[99, 109, 111, 118, 32, 114, 48, 44, 32, 49, 44, 32, 114, 50]⟩, 7, -1, rfl, rfl, rfl, by decide, .inl ⟨rfl, sf_ok (by kernel_rfl)⟩⟩
  · exact ⟨⟨#[98, 114, 32, 108, 116, 32, 114, 48, 44, 32, 49, 44, 32, 120]⟩, 7, -1, rfl, rfl, rfl, by decide, .inl ⟨rfl, sf_ok (by kernel_rfl)⟩⟩
  · exact ⟨⟨#[98, 114, 32, 109, 111, 118, 32, 114, 48, 44, 32, 49, 44, 32, 120]⟩, 0, 3, rfl, rfl, rfl, by decide, .inr ⟨3, rfl, by kernel_rfl⟩⟩
  · exact ⟨⟨#[98, 114, 32, 108, 116, 32, 114, 48, 44, 32, 49, 44, 32, 108, 116]⟩, 0, 13, rfl, rfl, rfl, by decide, .inr ⟨13, rfl, by kernel_rfl⟩⟩
  · exact ⟨⟨#[106, 109, 112, 32, 120]⟩, 7, -1, rfl, rfl, rfl, by decide, .inl ⟨rfl, sf_ok (by kernel_rfl)⟩⟩
  · exact ⟨⟨#[106, 109, 112, 32, 51]⟩, 0, 4, rfl, rfl, rfl, by decide, .inr ⟨4, rfl, by kernel_rfl⟩⟩
  · exact ⟨⟨#[99, 97, 108, 108, 32, 104, 97, 108, 116]⟩, 0, 5, rfl, rfl, rfl, by decide, .inr ⟨5, rfl, by kernel_rfl⟩⟩
  · exact ⟨⟨#[105, 110, 100, 32, 51]⟩, 7, -1, rfl, rfl, rfl, by decide, .inl ⟨rfl, sf_ok (by kernel_rfl)⟩⟩
  · exact ⟨⟨#[105, 110, 100, 32, 120]⟩, 0, 4, rfl, rfl, rfl, by decide, .inr ⟨4, rfl, by kernel_rfl⟩⟩
  · exact ⟨⟨#[114, 101, 116]⟩, 7, -1, rfl, rfl, rfl, by decide, .inl ⟨rfl, sf_ok (by kernel_rfl)⟩⟩
  · exact ⟨⟨#[114, 101, 116, 32, 49]⟩, 0, 4, rfl, rfl, rfl, by decide, .inr ⟨4, rfl, by kernel_rfl⟩⟩
  · exact ⟨⟨#[104, 97, 108, 116, 59, 120]⟩, 7, -1, rfl, rfl, rfl, by decide, .inl ⟨rfl, sf_ok (by kernel_rfl)⟩⟩
  · exact ⟨⟨#[102, 101, 110, 99, 101, 32, 44]⟩, 0, 6, rfl, rfl, rfl, by decide, .inr ⟨6, rfl, by kernel_rfl⟩⟩
  · exact ⟨⟨#[195, 169]⟩, 0, 0, rfl, rfl, rfl, by decide, .inr ⟨0, rfl, by kernel_rfl⟩⟩
theorem sf_cell (w : World) (q : Nat) (k : Nat) (v : Value) (h : sfRow[q * 3 + k]? = some v) : (w.alloc (.cells sfRow 22)).cell? ⟨w.heap.size, q * 3 + k, none⟩ = some v := by
  have h1 := heap_alloc_new w (.cells sfRow 22)
  rw [cell_of_row _ _ _ _ _ _ h1]
  exact h
set_option maxRecDepth 100000 in
set_option maxHeartbeats 20000000 in
theorem walk_SynsForms (c0 : Int) (w : World) (T : Sn.Tab w) : Calls Tryd.prog 3 #[.int .i64 c0] w (RetB (.bool true) w) := by
  obtain ⟨q, hq, m255⟩ : ∃ q : Nat, q < 42 ∧ (bits .and .i64 c0 255) % 42 = q := ⟨(c0 % 256 % 42).toNat, by omega, by have := Wd.bits_mask c0 8 (by omega); rw [show (255 : Int) = 2 ^ 8 - 1 from rfl, this]; omega⟩
  have b0 : 0 ≤ bits .and .i64 c0 255 := by have := Wd.bits_mask c0 8 (by omega); rw [show (255 : Int) = 2 ^ 8 - 1 from rfl, this]; omega
  obtain ⟨s, k, at_, h0, h1, h2, hsz, hR⟩ := sf_get q hq
  have d0 : (w.alloc (.cells sfRow 22)).cell? ⟨w.heap.size, q * 3, none⟩ = some (.string s) := sf_cell w q 0 _ h0
  have d1 := sf_cell w q 1 _ h1
  have d2 := sf_cell w q 2 _ h2
  clear h0 h1 h2
  have HR := Lib.hid hR; have HT := Lib.hid T; have HSZ := Lib.hid hsz
  clear hR T hsz
  have hal := fun W TT => awake5 W TT
  have s0 : (strOfNums ([] : List Int)).toList = [] := by rw [Lib.strOfNums_toList]; rfl
  have s1 : (strOfNums Sy.t0.name).toList = [] := s0
  have s2 : (strOfNums Sy.t0.ins.name).toList = [] := s0
  go_enter Tryd.func3, Tryd.ntmps3
  go_wp2_with fail
  rcases HR.out with ⟨rfl, i, hok, rfl⟩ | ⟨m, rfl, her⟩
  · refine (parse_ok_ s i hok HSZ.out _ (HT.out.below (upA (upA (up0 w) _) _))).mono ?_
    rintro e w1 ⟨rfl, hb1⟩
    have e0 : w1.cell? ⟨w.heap.size + 1, 0, none⟩ = some (.string s) := by
      rw [hb1.cell (p := ⟨w.heap.size + 1, 0, none⟩) (by simp), World.cell?_alloc_at _ _ _ _ (by simp)]; rfl
    have e1 : w1.cell? ⟨w.heap.size + 1, 1, none⟩ = some (.int .i64 i.kind) := by
      rw [hb1.cell (p := ⟨w.heap.size + 1, 1, none⟩) (by simp), World.cell?_alloc_at _ _ _ _ (by simp)]; rfl
    have e2 : w1.cell? ⟨w.heap.size + 1, 2, none⟩ = some (.int .i64 (-1)) := by
      rw [hb1.cell (p := ⟨w.heap.size + 1, 2, none⟩) (by simp), World.cell?_alloc_at _ _ _ _ (by simp)]; rfl
    have hbb : Below w.heap.size w w1 := upT (upA (upA (up0 w) _) _) hb1
    have hs1 := hb1.size
    simp at hs1
    clear d0 d1 d2 hb1 b0 m255 HR
    go_wp2_with (first
      | (refine wp_storeNew rfl _ _ rfl i rfl rfl ?_; intro W1 hI1 hc1 hz1; have hd1 := upT hbb hc1; have cj := fun k => cell_of_row _ _ k _ _ _ hI1; have x0 := (hc1.cell (p := ⟨w.heap.size + 1, 0, none⟩) (by show w.heap.size + 1 < w1.heap.size; omega)).trans e0; have x1 := (hc1.cell (p := ⟨w.heap.size + 1, 1, none⟩) (by show w.heap.size + 1 < w1.heap.size; omega)).trans e1; have x2 := (hc1.cell (p := ⟨w.heap.size + 1, 2, none⟩) (by show w.heap.size + 1 < w1.heap.size; omega)).trans e2)
      | (go_at_call 9; refine (hal _ (HT.out.below hd1)).mono ?_; rintro e w2 ⟨rfl, hb2⟩))
    go_ret
    exact ⟨rfl, upT hd1 hb2⟩
  · refine (parse_err_ s m her HSZ.out _ (HT.out.below (upA (upA (up0 w) _) _))).mono ?_
    rintro e w1 ⟨rfl, hb1⟩
    have m0 : (0 : Int) ≤ (m : Int) := by omega
    have e0 : w1.cell? ⟨w.heap.size + 1, 0, none⟩ = some (.string s) := by
      rw [hb1.cell (p := ⟨w.heap.size + 1, 0, none⟩) (by simp), World.cell?_alloc_at _ _ _ _ (by simp)]; rfl
    have e1 : w1.cell? ⟨w.heap.size + 1, 1, none⟩ = some (.int .i64 k) := by
      rw [hb1.cell (p := ⟨w.heap.size + 1, 1, none⟩) (by simp), World.cell?_alloc_at _ _ _ _ (by simp)]; rfl
    have e2 : w1.cell? ⟨w.heap.size + 1, 2, none⟩ = some (.int .i64 (m : Int)) := by
      rw [hb1.cell (p := ⟨w.heap.size + 1, 2, none⟩) (by simp), World.cell?_alloc_at _ _ _ _ (by simp)]; rfl
    have hbb : Below w.heap.size w w1 := upT (upA (upA (up0 w) _) _) hb1
    have hs1 := hb1.size
    simp at hs1
    clear d0 d1 d2 hb1 b0 m255 HR
    go_wp2_with (first
      | (refine wp_storeNew rfl _ _ rfl Sy.t0 rfl rfl ?_; intro W1 hI1 hc1 hz1; have hd1 := upT hbb hc1; have cj := fun k => cell_of_row _ _ k _ _ _ hI1; have x0 := (hc1.cell (p := ⟨w.heap.size + 1, 0, none⟩) (by show w.heap.size + 1 < w1.heap.size; omega)).trans e0; have x1 := (hc1.cell (p := ⟨w.heap.size + 1, 1, none⟩) (by show w.heap.size + 1 < w1.heap.size; omega)).trans e1; have x2 := (hc1.cell (p := ⟨w.heap.size + 1, 2, none⟩) (by show w.heap.size + 1 < w1.heap.size; omega)).trans e2)
      | (go_at_call 9; refine (hal _ (HT.out.below hd1)).mono ?_; rintro e w2 ⟨rfl, hb2⟩))
    go_ret
    exact ⟨rfl, upT hd1 hb2⟩
end Go.Proofs.YtcpbbkpfickfiaaDoor
