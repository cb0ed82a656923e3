/- The walk of ProgNone: it answers true, whatever it is given. -/
import Derived.Test.YtmghklokbmdenaaDoorPgNoneF
import Derived.BigQuiet
import Derived.Deep.CutBlock
set_option linter.unusedVariables false
set_option linter.unusedSimpArgs false
namespace Go.Proofs.YtmghklokbmdenaaDoor
open Go.RowKit
theorem szA (W : World) (x : Obj) : (W.alloc x).heap.size = W.heap.size + 1 := by simp
theorem hnew (W : World) (x : Obj) (r : Nat) (hr : r = W.heap.size) : (W.alloc x).heap[r]? = some x := by subst hr; exact heap_alloc_new W x
theorem hold {W : World} {x : Obj} (y : Obj) (r : Nat) (h : W.heap[r]? = some x) : (W.alloc y).heap[r]? = some x := by
  rw [heap_alloc_old W y (Array.getElem?_eq_some_iff.1 h).1]; exact h
theorem hold4 {W : World} {n : Nat} {x : Obj} (h : W.heap[n + 1 + 1 + 1 + 1]? = some x) : W.heap[n + 4]? = some x := h
theorem box_lit {W : World} {g : Nat} {t : TypeId} {a b : Array Value} (h : a = b) (hb : W.heap[g]? = some (.cells b t (0, 0))) : W.heap[g]? = some (.cells a t (0, 0)) := by subst h; exact hb
theorem flat_get {α : Type} {enc : α → List Value} {m : Nat} (he : ∀ x, (enc x).length = m) : ∀ (l : List α) (j : Nat) (x : α), l[j]? = some x → ∀ k, k < m → (l.flatMap enc)[j * m + k]? = (enc x)[k]?
  | [], j, x, h, k, hk => by simp at h
  | y :: l, 0, x, h, k, hk => by
    obtain rfl : y = x := by simpa using h
    rw [List.flatMap_cons, Nat.zero_mul, Nat.zero_add, List.getElem?_append_left (by rw [he]; exact hk)]
  | y :: l, j + 1, x, h, k, hk => by
    rw [List.flatMap_cons, List.getElem?_append_right (by rw [he, Nat.succ_mul]; omega), he, show (j + 1) * m + k - m = j * m + k by rw [Nat.succ_mul]; omega]
    exact flat_get he l j x (by simpa using h) k hk
theorem rowV_lit {α : Type} {enc : α → List Value} {m : Nat} {W : World} {g : Nat} {l : List α} {t : TypeId} (he : ∀ x, (enc x).length = m) (h0 : 0 < l.length) (hl : l.length ≤ 1000) {a : Array Value} {n : Nat} (hn : l.length = n) (ha : (l.flatMap enc).toArray = a) (h : W.heap[g]? = some (.cells a t (0, 0))) : RowV enc m W (.slice (some ⟨g, 0, none⟩) n n) l := by
  subst hn ha
  exact ⟨some ⟨g, 0, none⟩, l.length, rfl, Nat.le_refl _, by simp only [maxLen]; omega, fun _ => ⟨g, 0, rfl, (Array.getElem?_eq_some_iff.1 h).1, fun j a ha k hk => by
    rw [cell_of_row _ _ _ _ _ _ h, Nat.zero_add, List.getElem?_toArray]
    exact flat_get he l j a ha k hk⟩⟩
theorem rowV_nil {α : Type} {enc : α → List Value} {m : Nat} {W : World} : RowV enc m W (.slice none 0 0) [] := ⟨none, 0, rfl, Nat.le_refl _, Nat.zero_le _, fun h => absurd h (Nat.lt_irrefl 0)⟩
set_option maxRecDepth 100000 in
set_option maxHeartbeats 32000000 in
theorem walk_ProgNone (c0 : Int) (w : World) (T : Sn.Tab w) : Calls Tryd.prog 5 #[.int .i64 c0] w (RetB (.bool true) w) := by
  obtain ⟨q, hq, m255⟩ : ∃ q : Nat, q < 16 ∧ (bits .and .i64 c0 255) % 16 = q := ⟨(c0 % 256 % 16).toNat, by omega, by have := Wd.bits_mask c0 8 (by omega); rw [show (255 : Int) = 2 ^ 8 - 1 from rfl, this]; omega⟩
  have b0 : 0 ≤ bits .and .i64 c0 255 := by have := Wd.bits_mask c0 8 (by omega); rw [show (255 : Int) = 2 ^ 8 - 1 from rfl, this]; omega
  obtain ⟨hfit, hR⟩ := pn_cases hq
  have hok := fun vM vL vI W (h : Below w.heap.size w W) (hi : PrIn W (pnP q) vM vL vI) => pok_any (pnP q) vM vL vI W (T.below h) hi hfit
  have hpr := fun vM vL vI W (h : Below w.heap.size w W) (hi : PrIn W (pnP q) vM vL vI) => pprint_any (pnP q) vM vL vI W (T.below h) hi hfit
  have hsm := fun aM aL aI bM bL bI W (h1 : PrIn W (pnP q) aM aL aI) (h2 : PrIn W (pnP q) bM bL bI) => rsame_self (pnP q) aM aL aI bM bL bI W h1 h2 hfit.ok
  have hal := fun W (h : Below w.heap.size w W) => awake6 W (T.below h)
  have HR := Lib.hid hR; have HT := Lib.hid T; have HOK := Lib.hid hok; have HPR := Lib.hid hpr; have HSM := Lib.hid hsm; have HAL := Lib.hid hal; have HQ := Lib.hid hq
  clear hR T hok hpr hsm hal hfit
  go_enter Tryd.func5, Tryd.ntmps5
  go_upto_block 0 with fail
  go_cut [5] from 26 to 98 (fun v5 wx => v5 = .bool (pnB q) ∧ ∃ vM vL vI, wx.heap[w.heap.size + 4]? = some (.cells (PrA (pnP q) vM vL vI) 29 (0, 0)) ∧ PrIn wx (pnP q) vM vL vI ∧ Below w.heap.size w wx)
  case first =>
    have hq := HQ.out
    clear HR HT HOK HPR HSM HAL HQ
    rcases (by omega : q = 0 ∨ q = 1 ∨ q = 2 ∨ q = 3 ∨ q = 4 ∨ q = 5 ∨ q = 6 ∨ q = 7 ∨ q = 8 ∨ q = 9 ∨ q = 10 ∨ q = 11 ∨ q = 12 ∨ q = 13 ∨ q = 14 ∨ q = 15) with rfl | rfl | rfl | rfl | rfl | rfl | rfl | rfl | rfl | rfl | rfl | rfl | rfl | rfl | rfl | rfl
    · go_wp2_with fail
      go_meet
      exact ⟨rfl, (.slice (some ⟨w.heap.size, 0, none⟩) 1 1), (.slice (some ⟨w.heap.size + 1, 0, none⟩) 2 2), (.slice (some ⟨w.heap.size + 1 + 1, 0, none⟩) 2 2), box_lit (by kernel_rfl) (hold4 (hnew _ _ _ (by simp only [szA]))), ⟨rowV_lit (l := [⟨[109], false, 2⟩]) memC_len (by decide) (by decide) (by rfl) (by kernel_rfl) (hold _ _ (hold _ _ (hold _ _ (hold _ _ (hnew _ _ _ (by simp only [szA])))))), rowV_lit (l := [⟨[97], 0⟩, ⟨[98], 1⟩]) labC_len (by decide) (by decide) (by rfl) (by kernel_rfl) (hold _ _ (hold _ _ (hold _ _ (hnew _ _ _ (by simp only [szA]))))), rowV_lit (l := [⟨6, 0, 0, ⟨false, 0⟩, ⟨false, 0⟩, [], 1⟩, ⟨11, 0, 0, ⟨false, 0⟩, ⟨false, 0⟩, [], 0⟩]) insL_len (by decide) (by decide) (by rfl) (by kernel_rfl) (hold _ _ (hold _ _ (hnew _ _ _ (by simp only [szA]))))⟩, upA (upA (upA (upA (upA (up0 w) _) _) _) _) _⟩
    · go_wp2_with fail
      go_meet
      exact ⟨rfl, (.slice (some ⟨w.heap.size, 0, none⟩) 1 1), (.slice (some ⟨w.heap.size + 1, 0, none⟩) 2 2), (.slice (some ⟨w.heap.size + 1 + 1, 0, none⟩) 2 2), box_lit (by kernel_rfl) (hold4 (hnew _ _ _ (by simp only [szA]))), ⟨rowV_lit (l := [⟨[109], false, 2⟩]) memC_len (by decide) (by decide) (by rfl) (by kernel_rfl) (hold _ _ (hold _ _ (hold _ _ (hold _ _ (hnew _ _ _ (by simp only [szA])))))), rowV_lit (l := [⟨[97], 0⟩, ⟨[98], 1⟩]) labC_len (by decide) (by decide) (by rfl) (by kernel_rfl) (hold _ _ (hold _ _ (hold _ _ (hnew _ _ _ (by simp only [szA]))))), rowV_lit (l := [⟨6, 0, 0, ⟨false, 0⟩, ⟨false, 0⟩, [], 1⟩, ⟨11, 0, 0, ⟨false, 0⟩, ⟨false, 0⟩, [], 0⟩]) insL_len (by decide) (by decide) (by rfl) (by kernel_rfl) (hold _ _ (hold _ _ (hnew _ _ _ (by simp only [szA]))))⟩, upA (upA (upA (upA (upA (up0 w) _) _) _) _) _⟩
    · go_wp2_with fail
      go_meet
      exact ⟨rfl, (.slice (some ⟨w.heap.size, 0, none⟩) 1 1), (.slice (some ⟨w.heap.size + 1, 0, none⟩) 2 2), (.slice (some ⟨w.heap.size + 1 + 1, 0, none⟩) 2 2), box_lit (by kernel_rfl) (hold4 (hnew _ _ _ (by simp only [szA]))), ⟨rowV_lit (l := [⟨[109], false, 2⟩]) memC_len (by decide) (by decide) (by rfl) (by kernel_rfl) (hold _ _ (hold _ _ (hold _ _ (hold _ _ (hnew _ _ _ (by simp only [szA])))))), rowV_lit (l := [⟨[97], 0⟩, ⟨[98], 1⟩]) labC_len (by decide) (by decide) (by rfl) (by kernel_rfl) (hold _ _ (hold _ _ (hold _ _ (hnew _ _ _ (by simp only [szA]))))), rowV_lit (l := [⟨6, 0, 0, ⟨false, 0⟩, ⟨false, 0⟩, [], 1⟩, ⟨11, 0, 0, ⟨false, 0⟩, ⟨false, 0⟩, [], 0⟩]) insL_len (by decide) (by decide) (by rfl) (by kernel_rfl) (hold _ _ (hold _ _ (hnew _ _ _ (by simp only [szA]))))⟩, upA (upA (upA (upA (upA (up0 w) _) _) _) _) _⟩
    · go_wp2_with fail
      go_meet
      exact ⟨rfl, (.slice (some ⟨w.heap.size, 0, none⟩) 1 1), (.slice (some ⟨w.heap.size + 1, 0, none⟩) 2 2), (.slice (some ⟨w.heap.size + 1 + 1, 0, none⟩) 2 2), box_lit (by kernel_rfl) (hold4 (hnew _ _ _ (by simp only [szA]))), ⟨rowV_lit (l := [⟨[109], false, 2⟩]) memC_len (by decide) (by decide) (by rfl) (by kernel_rfl) (hold _ _ (hold _ _ (hold _ _ (hold _ _ (hnew _ _ _ (by simp only [szA])))))), rowV_lit (l := [⟨[97], 0⟩, ⟨[98], 1⟩]) labC_len (by decide) (by decide) (by rfl) (by kernel_rfl) (hold _ _ (hold _ _ (hold _ _ (hnew _ _ _ (by simp only [szA]))))), rowV_lit (l := [⟨6, 0, 0, ⟨false, 0⟩, ⟨false, 0⟩, [], 1⟩, ⟨11, 0, 0, ⟨false, 0⟩, ⟨false, 0⟩, [], 0⟩]) insL_len (by decide) (by decide) (by rfl) (by kernel_rfl) (hold _ _ (hold _ _ (hnew _ _ _ (by simp only [szA]))))⟩, upA (upA (upA (upA (upA (up0 w) _) _) _) _) _⟩
    · go_wp2_with fail
      go_meet
      exact ⟨rfl, (.slice (some ⟨w.heap.size, 0, none⟩) 1 1), (.slice (some ⟨w.heap.size + 1, 0, none⟩) 2 2), (.slice (some ⟨w.heap.size + 1 + 1, 0, none⟩) 2 2), box_lit (by kernel_rfl) (hold4 (hnew _ _ _ (by simp only [szA]))), ⟨rowV_lit (l := [⟨[109], false, 2⟩]) memC_len (by decide) (by decide) (by rfl) (by kernel_rfl) (hold _ _ (hold _ _ (hold _ _ (hold _ _ (hnew _ _ _ (by simp only [szA])))))), rowV_lit (l := [⟨[97], 0⟩, ⟨[98], 1⟩]) labC_len (by decide) (by decide) (by rfl) (by kernel_rfl) (hold _ _ (hold _ _ (hold _ _ (hnew _ _ _ (by simp only [szA]))))), rowV_lit (l := [⟨6, 0, 0, ⟨false, 0⟩, ⟨false, 0⟩, [], 1⟩, ⟨11, 0, 0, ⟨false, 0⟩, ⟨false, 0⟩, [], 0⟩]) insL_len (by decide) (by decide) (by rfl) (by kernel_rfl) (hold _ _ (hold _ _ (hnew _ _ _ (by simp only [szA]))))⟩, upA (upA (upA (upA (upA (up0 w) _) _) _) _) _⟩
    · go_wp2_with fail
      go_meet
      exact ⟨rfl, (.slice (some ⟨w.heap.size + 1 + 1 + 1 + 1 + 1, 0, none⟩) 1 1), (.slice (some ⟨w.heap.size + 1, 0, none⟩) 2 2), (.slice (some ⟨w.heap.size + 1 + 1, 0, none⟩) 2 2), box_lit (by kernel_rfl) (hold4 (hold _ _ (hnew _ _ _ (by simp only [szA])))), ⟨rowV_lit (l := [⟨[109], false, 5⟩]) memC_len (by decide) (by decide) (by rfl) (by kernel_rfl) (hnew _ _ _ (by simp only [szA])), rowV_lit (l := [⟨[97], 0⟩, ⟨[98], 1⟩]) labC_len (by decide) (by decide) (by rfl) (by kernel_rfl) (hold _ _ (hold _ _ (hold _ _ (hold _ _ (hnew _ _ _ (by simp only [szA])))))), rowV_lit (l := [⟨6, 0, 0, ⟨false, 0⟩, ⟨false, 0⟩, [], 1⟩, ⟨11, 0, 0, ⟨false, 0⟩, ⟨false, 0⟩, [], 0⟩]) insL_len (by decide) (by decide) (by rfl) (by kernel_rfl) (hold _ _ (hold _ _ (hold _ _ (hnew _ _ _ (by simp only [szA])))))⟩, upA (upA (upA (upA (upA (upA (up0 w) _) _) _) _) _) _⟩
    · go_wp2_with fail
      go_meet
      exact ⟨rfl, (.slice (some ⟨w.heap.size + 1 + 1 + 1 + 1 + 1, 0, none⟩) 1 1), (.slice (some ⟨w.heap.size + 1, 0, none⟩) 2 2), (.slice (some ⟨w.heap.size + 1 + 1, 0, none⟩) 2 2), box_lit (by kernel_rfl) (hold4 (hold _ _ (hnew _ _ _ (by simp only [szA])))), ⟨rowV_lit (l := [⟨[97], false, 1⟩]) memC_len (by decide) (by decide) (by rfl) (by kernel_rfl) (hnew _ _ _ (by simp only [szA])), rowV_lit (l := [⟨[97], 0⟩, ⟨[98], 1⟩]) labC_len (by decide) (by decide) (by rfl) (by kernel_rfl) (hold _ _ (hold _ _ (hold _ _ (hold _ _ (hnew _ _ _ (by simp only [szA])))))), rowV_lit (l := [⟨6, 0, 0, ⟨false, 0⟩, ⟨false, 0⟩, [], 1⟩, ⟨11, 0, 0, ⟨false, 0⟩, ⟨false, 0⟩, [], 0⟩]) insL_len (by decide) (by decide) (by rfl) (by kernel_rfl) (hold _ _ (hold _ _ (hold _ _ (hnew _ _ _ (by simp only [szA])))))⟩, upA (upA (upA (upA (upA (upA (up0 w) _) _) _) _) _) _⟩
    · go_wp2_with fail
      go_meet
      exact ⟨rfl, (.slice (some ⟨w.heap.size, 0, none⟩) 1 1), (.slice (some ⟨w.heap.size + 1 + 1 + 1 + 1 + 1, 0, none⟩) 1 1), (.slice (some ⟨w.heap.size + 1 + 1, 0, none⟩) 2 2), box_lit (by kernel_rfl) (hold4 (hold _ _ (hnew _ _ _ (by simp only [szA])))), ⟨rowV_lit (l := [⟨[109], false, 2⟩]) memC_len (by decide) (by decide) (by rfl) (by kernel_rfl) (hold _ _ (hold _ _ (hold _ _ (hold _ _ (hold _ _ (hnew _ _ _ (by simp only [szA]))))))), rowV_lit (l := [⟨[97], 0⟩]) labC_len (by decide) (by decide) (by rfl) (by kernel_rfl) (hnew _ _ _ (by simp only [szA])), rowV_lit (l := [⟨6, 0, 0, ⟨false, 0⟩, ⟨false, 0⟩, [], 1⟩, ⟨11, 0, 0, ⟨false, 0⟩, ⟨false, 0⟩, [], 0⟩]) insL_len (by decide) (by decide) (by rfl) (by kernel_rfl) (hold _ _ (hold _ _ (hold _ _ (hnew _ _ _ (by simp only [szA])))))⟩, upA (upA (upA (upA (upA (upA (up0 w) _) _) _) _) _) _⟩
    · go_wp2_with fail
      go_meet
      exact ⟨rfl, (.slice (some ⟨w.heap.size, 0, none⟩) 1 1), (.slice (some ⟨w.heap.size + 1 + 1 + 1 + 1 + 1, 0, none⟩) 2 2), (.slice (some ⟨w.heap.size + 1 + 1, 0, none⟩) 2 2), box_lit (by kernel_rfl) (hold4 (hold _ _ (hnew _ _ _ (by simp only [szA])))), ⟨rowV_lit (l := [⟨[109], false, 2⟩]) memC_len (by decide) (by decide) (by rfl) (by kernel_rfl) (hold _ _ (hold _ _ (hold _ _ (hold _ _ (hold _ _ (hnew _ _ _ (by simp only [szA]))))))), rowV_lit (l := [⟨[98], 1⟩, ⟨[97], 0⟩]) labC_len (by decide) (by decide) (by rfl) (by kernel_rfl) (hnew _ _ _ (by simp only [szA])), rowV_lit (l := [⟨6, 0, 0, ⟨false, 0⟩, ⟨false, 0⟩, [], 1⟩, ⟨11, 0, 0, ⟨false, 0⟩, ⟨false, 0⟩, [], 0⟩]) insL_len (by decide) (by decide) (by rfl) (by kernel_rfl) (hold _ _ (hold _ _ (hold _ _ (hnew _ _ _ (by simp only [szA])))))⟩, upA (upA (upA (upA (upA (upA (up0 w) _) _) _) _) _) _⟩
    · go_wp2_with fail
      go_meet
      exact ⟨rfl, (.slice (some ⟨w.heap.size, 0, none⟩) 1 1), (.slice (some ⟨w.heap.size + 1 + 1 + 1 + 1 + 1, 0, none⟩) 3 3), (.slice (some ⟨w.heap.size + 1 + 1, 0, none⟩) 2 2), box_lit (by kernel_rfl) (hold4 (hold _ _ (hnew _ _ _ (by simp only [szA])))), ⟨rowV_lit (l := [⟨[109], false, 2⟩]) memC_len (by decide) (by decide) (by rfl) (by kernel_rfl) (hold _ _ (hold _ _ (hold _ _ (hold _ _ (hold _ _ (hnew _ _ _ (by simp only [szA]))))))), rowV_lit (l := [⟨[97], 0⟩, ⟨[98], 1⟩, ⟨[99], 3⟩]) labC_len (by decide) (by decide) (by rfl) (by kernel_rfl) (hnew _ _ _ (by simp only [szA])), rowV_lit (l := [⟨6, 0, 0, ⟨false, 0⟩, ⟨false, 0⟩, [], 1⟩, ⟨11, 0, 0, ⟨false, 0⟩, ⟨false, 0⟩, [], 0⟩]) insL_len (by decide) (by decide) (by rfl) (by kernel_rfl) (hold _ _ (hold _ _ (hold _ _ (hnew _ _ _ (by simp only [szA])))))⟩, upA (upA (upA (upA (upA (upA (up0 w) _) _) _) _) _) _⟩
    · go_wp2_with fail
      go_meet
      exact ⟨rfl, (.slice (some ⟨w.heap.size, 0, none⟩) 1 1), (.slice (some ⟨w.heap.size + 1 + 1 + 1 + 1 + 1, 0, none⟩) 3 3), (.slice (some ⟨w.heap.size + 1 + 1, 0, none⟩) 2 2), box_lit (by kernel_rfl) (hold4 (hold _ _ (hnew _ _ _ (by simp only [szA])))), ⟨rowV_lit (l := [⟨[109], false, 2⟩]) memC_len (by decide) (by decide) (by rfl) (by kernel_rfl) (hold _ _ (hold _ _ (hold _ _ (hold _ _ (hold _ _ (hnew _ _ _ (by simp only [szA]))))))), rowV_lit (l := [⟨[97], 0⟩, ⟨[98], 1⟩, ⟨[99], 2⟩]) labC_len (by decide) (by decide) (by rfl) (by kernel_rfl) (hnew _ _ _ (by simp only [szA])), rowV_lit (l := [⟨6, 0, 0, ⟨false, 0⟩, ⟨false, 0⟩, [], 1⟩, ⟨11, 0, 0, ⟨false, 0⟩, ⟨false, 0⟩, [], 0⟩]) insL_len (by decide) (by decide) (by rfl) (by kernel_rfl) (hold _ _ (hold _ _ (hold _ _ (hnew _ _ _ (by simp only [szA])))))⟩, upA (upA (upA (upA (upA (upA (up0 w) _) _) _) _) _) _⟩
    · go_wp2_with fail
      go_meet
      exact ⟨rfl, (.slice (some ⟨w.heap.size, 0, none⟩) 1 1), (.slice (some ⟨w.heap.size + 1, 0, none⟩) 2 2), (.slice none 0 0), box_lit (by kernel_rfl) (hold4 (hnew _ _ _ (by simp only [szA]))), ⟨rowV_lit (l := [⟨[109], false, 2⟩]) memC_len (by decide) (by decide) (by rfl) (by kernel_rfl) (hold _ _ (hold _ _ (hold _ _ (hold _ _ (hnew _ _ _ (by simp only [szA])))))), rowV_lit (l := [⟨[97], 0⟩, ⟨[98], 1⟩]) labC_len (by decide) (by decide) (by rfl) (by kernel_rfl) (hold _ _ (hold _ _ (hold _ _ (hnew _ _ _ (by simp only [szA]))))), rowV_nil⟩, upA (upA (upA (upA (upA (up0 w) _) _) _) _) _⟩
    · go_wp2_with fail
      go_meet
      exact ⟨rfl, (.slice (some ⟨w.heap.size, 0, none⟩) 1 1), (.slice (some ⟨w.heap.size + 1, 0, none⟩) 2 2), (.slice (some ⟨w.heap.size + 1 + 1 + 1 + 1 + 1, 0, none⟩) 2 2), box_lit (by kernel_rfl) (hold4 (hold _ _ (hnew _ _ _ (by simp only [szA])))), ⟨rowV_lit (l := [⟨[109], false, 2⟩]) memC_len (by decide) (by decide) (by rfl) (by kernel_rfl) (hold _ _ (hold _ _ (hold _ _ (hold _ _ (hold _ _ (hnew _ _ _ (by simp only [szA]))))))), rowV_lit (l := [⟨[97], 0⟩, ⟨[98], 1⟩]) labC_len (by decide) (by decide) (by rfl) (by kernel_rfl) (hold _ _ (hold _ _ (hold _ _ (hold _ _ (hnew _ _ _ (by simp only [szA])))))), rowV_lit (l := [⟨6, 0, 0, ⟨false, 0⟩, ⟨false, 0⟩, [98], 1⟩, ⟨11, 0, 0, ⟨false, 0⟩, ⟨false, 0⟩, [], 0⟩]) insL_len (by decide) (by decide) (by rfl) (by kernel_rfl) (hnew _ _ _ (by simp only [szA]))⟩, upA (upA (upA (upA (upA (upA (up0 w) _) _) _) _) _) _⟩
    · go_wp2_with fail
      go_meet
      exact ⟨rfl, (.slice (some ⟨w.heap.size, 0, none⟩) 1 1), (.slice (some ⟨w.heap.size + 1, 0, none⟩) 2 2), (.slice (some ⟨w.heap.size + 1 + 1 + 1 + 1 + 1, 0, none⟩) 2 2), box_lit (by kernel_rfl) (hold4 (hold _ _ (hnew _ _ _ (by simp only [szA])))), ⟨rowV_lit (l := [⟨[109], false, 2⟩]) memC_len (by decide) (by decide) (by rfl) (by kernel_rfl) (hold _ _ (hold _ _ (hold _ _ (hold _ _ (hold _ _ (hnew _ _ _ (by simp only [szA]))))))), rowV_lit (l := [⟨[97], 0⟩, ⟨[98], 1⟩]) labC_len (by decide) (by decide) (by rfl) (by kernel_rfl) (hold _ _ (hold _ _ (hold _ _ (hold _ _ (hnew _ _ _ (by simp only [szA])))))), rowV_lit (l := [⟨11, 0, 0, ⟨false, 0⟩, ⟨false, 0⟩, [], 0⟩, ⟨11, 0, 0, ⟨false, 0⟩, ⟨false, 0⟩, [], 1⟩]) insL_len (by decide) (by decide) (by rfl) (by kernel_rfl) (hnew _ _ _ (by simp only [szA]))⟩, upA (upA (upA (upA (upA (upA (up0 w) _) _) _) _) _) _⟩
    · go_wp2_with fail
      go_meet
      exact ⟨rfl, (.slice (some ⟨w.heap.size, 0, none⟩) 1 1), (.slice (some ⟨w.heap.size + 1, 0, none⟩) 2 2), (.slice (some ⟨w.heap.size + 1 + 1, 0, none⟩) 2 2), box_lit (by kernel_rfl) (hold4 (hnew _ _ _ (by simp only [szA]))), ⟨rowV_lit (l := [⟨[109], false, 2⟩]) memC_len (by decide) (by decide) (by rfl) (by kernel_rfl) (hold _ _ (hold _ _ (hold _ _ (hold _ _ (hnew _ _ _ (by simp only [szA])))))), rowV_lit (l := [⟨[97], 0⟩, ⟨[98], 1⟩]) labC_len (by decide) (by decide) (by rfl) (by kernel_rfl) (hold _ _ (hold _ _ (hold _ _ (hnew _ _ _ (by simp only [szA]))))), rowV_lit (l := [⟨6, 0, 0, ⟨false, 0⟩, ⟨false, 0⟩, [], 1⟩, ⟨11, 0, 0, ⟨false, 0⟩, ⟨false, 0⟩, [], 0⟩]) insL_len (by decide) (by decide) (by rfl) (by kernel_rfl) (hold _ _ (hold _ _ (hnew _ _ _ (by simp only [szA]))))⟩, upA (upA (upA (upA (upA (up0 w) _) _) _) _) _⟩
    · go_wp2_with fail
      go_meet
      exact ⟨rfl, (.slice (some ⟨w.heap.size, 0, none⟩) 1 1), (.slice (some ⟨w.heap.size + 1 + 1 + 1 + 1 + 1, 0, none⟩) 2 2), (.slice (some ⟨w.heap.size + 1 + 1, 0, none⟩) 2 2), box_lit (by kernel_rfl) (hold4 (hold _ _ (hnew _ _ _ (by simp only [szA])))), ⟨rowV_lit (l := [⟨[109], false, 2⟩]) memC_len (by decide) (by decide) (by rfl) (by kernel_rfl) (hold _ _ (hold _ _ (hold _ _ (hold _ _ (hold _ _ (hnew _ _ _ (by simp only [szA]))))))), rowV_lit (l := [⟨[97], 1⟩, ⟨[98], 1⟩]) labC_len (by decide) (by decide) (by rfl) (by kernel_rfl) (hnew _ _ _ (by simp only [szA])), rowV_lit (l := [⟨6, 0, 0, ⟨false, 0⟩, ⟨false, 0⟩, [], 1⟩, ⟨11, 0, 0, ⟨false, 0⟩, ⟨false, 0⟩, [], 0⟩]) insL_len (by decide) (by decide) (by rfl) (by kernel_rfl) (hold _ _ (hold _ _ (hold _ _ (hnew _ _ _ (by simp only [szA])))))⟩, upA (upA (upA (upA (upA (upA (up0 w) _) _) _) _) _) _⟩
  case rest =>
    obtain ⟨h5, vM, vL, vI, hbx4, hin, hb⟩ := hcut
    have hbx : wc.heap[w.heap.size + 1 + 1 + 1 + 1]? = some (.cells (PrA (pnP q) vM vL vI) 29 (0, 0)) := hbx4
    have hbk : ∀ W, Below wc.heap.size wc W → W.heap[w.heap.size + 1 + 1 + 1 + 1]? = some (.cells (PrA (pnP q) vM vL vI) 29 (0, 0)) := fun W h => (h.block _ (Array.getElem?_eq_some_iff.1 hbx).1).trans hbx
    have HBK := Lib.hid hbk; have HIN := Lib.hid hin; have HB := Lib.hid hb
    clear hbx4 hbk hin hb
    rcases HR.out with ⟨hB, t, hpt, hpar, htl⟩ | ⟨hB, hpn⟩
    · rw [hB] at h5
      subst h5
      have hpr := fun W h hi => HPR.out vM vL vI W h hi
      have hok := fun W h hi => HOK.out vM vL vI W h hi
      rw [hpt] at hpr hok
      have hpa := fun W (h : Below w.heap.size w W) => parse_prog (Pg.bytes t) (by simpa [Pg.bytes] using htl) W (HT.out.below h)
      rw [hpar] at hpa
      have HPT := Lib.hid hpr; have HOT := Lib.hid hok; have HPA := Lib.hid hpa
      have c0 : wc.cell? ⟨w.heap.size + 1 + 1 + 1 + 1, 0, none⟩ = some (.int .i64 (pnP q).w) := cell_of_row _ _ 0 _ _ _ hbx
      have c1 : wc.cell? ⟨w.heap.size + 1 + 1 + 1 + 1, 1, none⟩ = some (.int .i64 (pnP q).win) := cell_of_row _ _ 1 _ _ _ hbx
      have c2 : wc.cell? ⟨w.heap.size + 1 + 1 + 1 + 1, 2, none⟩ = some (.int .i64 (pnP q).fuel) := cell_of_row _ _ 2 _ _ _ hbx
      have c3 : wc.cell? ⟨w.heap.size + 1 + 1 + 1 + 1, 3, none⟩ = some (.int .i64 ((pnP q).regs.getD 0 0)) := cell_of_row _ _ 3 _ _ _ hbx
      have c4 : wc.cell? ⟨w.heap.size + 1 + 1 + 1 + 1, 4, none⟩ = some (.int .i64 ((pnP q).regs.getD 1 0)) := cell_of_row _ _ 4 _ _ _ hbx
      have c5 : wc.cell? ⟨w.heap.size + 1 + 1 + 1 + 1, 5, none⟩ = some (.int .i64 ((pnP q).regs.getD 2 0)) := cell_of_row _ _ 5 _ _ _ hbx
      have c6 : wc.cell? ⟨w.heap.size + 1 + 1 + 1 + 1, 6, none⟩ = some (.int .i64 ((pnP q).regs.getD 3 0)) := cell_of_row _ _ 6 _ _ _ hbx
      have c7 : wc.cell? ⟨w.heap.size + 1 + 1 + 1 + 1, 7, none⟩ = some (vM) := cell_of_row _ _ 7 _ _ _ hbx
      have c8 : wc.cell? ⟨w.heap.size + 1 + 1 + 1 + 1, 8, none⟩ = some (vL) := cell_of_row _ _ 8 _ _ _ hbx
      have c9 : wc.cell? ⟨w.heap.size + 1 + 1 + 1 + 1, 9, none⟩ = some (vI) := cell_of_row _ _ 9 _ _ _ hbx
      clear hpr hok hpa hpt hpar htl hB hbx HR HPR HOK HT HQ m255 b0
      go_wp2_with first
        | (go_at_call 9; refine (HPT.out _ HB.out HIN.out).mono ?_; rintro e w2 ⟨rfl, hb2⟩; have HB2 := Lib.hid hb2; clear hb2)
        | (go_at_call 6
           refine (HPA.out _ (upT HB.out HB2.out)).mono ?_
           rintro e w3 ⟨hb3, qM, qL, qI, rfl, hrows⟩
           have hin3 := hrows.inp
           obtain ⟨AM, cM, rfl, _⟩ := id hin3.rM
           obtain ⟨AL, cL, rfl, _⟩ := id hin3.rL
           obtain ⟨AI, cI, rfl, _⟩ := id hin3.rI
           have hx3 := upT HB2.out hb3
           have hbx3 := HBK.out _ hx3
           have hlt3 := (Array.getElem?_eq_some_iff.1 hbx3).1
           have z0 : ∀ o, (w3.alloc o).cell? ⟨w.heap.size + 1 + 1 + 1 + 1, 0, none⟩ = some (.int .i64 (pnP q).w) := fun o => (World.cell?_alloc_lt _ _ _ hlt3).trans (cell_of_row _ _ 0 _ _ _ hbx3)
           have z1 : ∀ o, (w3.alloc o).cell? ⟨w.heap.size + 1 + 1 + 1 + 1, 1, none⟩ = some (.int .i64 (pnP q).win) := fun o => (World.cell?_alloc_lt _ _ _ hlt3).trans (cell_of_row _ _ 1 _ _ _ hbx3)
           have z2 : ∀ o, (w3.alloc o).cell? ⟨w.heap.size + 1 + 1 + 1 + 1, 2, none⟩ = some (.int .i64 (pnP q).fuel) := fun o => (World.cell?_alloc_lt _ _ _ hlt3).trans (cell_of_row _ _ 2 _ _ _ hbx3)
           have z3 : ∀ o, (w3.alloc o).cell? ⟨w.heap.size + 1 + 1 + 1 + 1, 3, none⟩ = some (.int .i64 ((pnP q).regs.getD 0 0)) := fun o => (World.cell?_alloc_lt _ _ _ hlt3).trans (cell_of_row _ _ 3 _ _ _ hbx3)
           have z4 : ∀ o, (w3.alloc o).cell? ⟨w.heap.size + 1 + 1 + 1 + 1, 4, none⟩ = some (.int .i64 ((pnP q).regs.getD 1 0)) := fun o => (World.cell?_alloc_lt _ _ _ hlt3).trans (cell_of_row _ _ 4 _ _ _ hbx3)
           have z5 : ∀ o, (w3.alloc o).cell? ⟨w.heap.size + 1 + 1 + 1 + 1, 5, none⟩ = some (.int .i64 ((pnP q).regs.getD 2 0)) := fun o => (World.cell?_alloc_lt _ _ _ hlt3).trans (cell_of_row _ _ 5 _ _ _ hbx3)
           have z6 : ∀ o, (w3.alloc o).cell? ⟨w.heap.size + 1 + 1 + 1 + 1, 6, none⟩ = some (.int .i64 ((pnP q).regs.getD 3 0)) := fun o => (World.cell?_alloc_lt _ _ _ hlt3).trans (cell_of_row _ _ 6 _ _ _ hbx3)
           have z7 : ∀ o, (w3.alloc o).cell? ⟨w.heap.size + 1 + 1 + 1 + 1, 7, none⟩ = some (vM) := fun o => (World.cell?_alloc_lt _ _ _ hlt3).trans (cell_of_row _ _ 7 _ _ _ hbx3)
           have z8 : ∀ o, (w3.alloc o).cell? ⟨w.heap.size + 1 + 1 + 1 + 1, 8, none⟩ = some (vL) := fun o => (World.cell?_alloc_lt _ _ _ hlt3).trans (cell_of_row _ _ 8 _ _ _ hbx3)
           have z9 : ∀ o, (w3.alloc o).cell? ⟨w.heap.size + 1 + 1 + 1 + 1, 9, none⟩ = some (vI) := fun o => (World.cell?_alloc_lt _ _ _ hlt3).trans (cell_of_row _ _ 9 _ _ _ hbx3)
           have hqk : ∀ W, Below (w3.alloc (.cells (PrA (pnP q) (.slice AM (pnP q).mems.length cM) (.slice AL (pnP q).labels.length cL) (.slice AI (pnP q).ins.length cI)) 29)).heap.size (w3.alloc (.cells (PrA (pnP q) (.slice AM (pnP q).mems.length cM) (.slice AL (pnP q).labels.length cL) (.slice AI (pnP q).ins.length cI)) 29)) W → W.heap[w3.heap.size]? = some (.cells (PrA (pnP q) (.slice AM (pnP q).mems.length cM) (.slice AL (pnP q).labels.length cL) (.slice AI (pnP q).ins.length cI)) 29 (0, 0)) := fun W hb => (hb.block w3.heap.size (by simp)).trans (heap_alloc_new w3 _)
           have HQK := Lib.hid hqk; have HX3 := Lib.hid hx3; have HIN3 := Lib.hid hin3
           clear hqk hx3 hin3 hrows hbx3 hlt3 hb3 c0 c1 c2 c3 c4 c5 c6 c7 c8 c9)
        | (go_at_call 8
           refine (HOT.out _ (upT HB.out (upA HX3.out _)) (HIN.out.up (upA HX3.out _))).mono ?_
           rintro e w4 ⟨rfl, hb4⟩
           have hbx4 := HBK.out _ (upT (upA HX3.out _) hb4)
           have hqx4 := HQK.out _ hb4
           have HX4 := Lib.hid (upT (upA HX3.out _) hb4)
           have HQ4 := Lib.hid (HIN3.out.up (upT (upA (up0 w3) _) hb4))
           have y0 : w4.cell? ⟨w.heap.size + 1 + 1 + 1 + 1, 0, none⟩ = some (.int .i64 (pnP q).w) := cell_of_row _ _ 0 _ _ _ hbx4
           have y1 : w4.cell? ⟨w.heap.size + 1 + 1 + 1 + 1, 1, none⟩ = some (.int .i64 (pnP q).win) := cell_of_row _ _ 1 _ _ _ hbx4
           have y2 : w4.cell? ⟨w.heap.size + 1 + 1 + 1 + 1, 2, none⟩ = some (.int .i64 (pnP q).fuel) := cell_of_row _ _ 2 _ _ _ hbx4
           have y3 : w4.cell? ⟨w.heap.size + 1 + 1 + 1 + 1, 3, none⟩ = some (.int .i64 ((pnP q).regs.getD 0 0)) := cell_of_row _ _ 3 _ _ _ hbx4
           have y4 : w4.cell? ⟨w.heap.size + 1 + 1 + 1 + 1, 4, none⟩ = some (.int .i64 ((pnP q).regs.getD 1 0)) := cell_of_row _ _ 4 _ _ _ hbx4
           have y5 : w4.cell? ⟨w.heap.size + 1 + 1 + 1 + 1, 5, none⟩ = some (.int .i64 ((pnP q).regs.getD 2 0)) := cell_of_row _ _ 5 _ _ _ hbx4
           have y6 : w4.cell? ⟨w.heap.size + 1 + 1 + 1 + 1, 6, none⟩ = some (.int .i64 ((pnP q).regs.getD 3 0)) := cell_of_row _ _ 6 _ _ _ hbx4
           have y7 : w4.cell? ⟨w.heap.size + 1 + 1 + 1 + 1, 7, none⟩ = some (vM) := cell_of_row _ _ 7 _ _ _ hbx4
           have y8 : w4.cell? ⟨w.heap.size + 1 + 1 + 1 + 1, 8, none⟩ = some (vL) := cell_of_row _ _ 8 _ _ _ hbx4
           have y9 : w4.cell? ⟨w.heap.size + 1 + 1 + 1 + 1, 9, none⟩ = some (vI) := cell_of_row _ _ 9 _ _ _ hbx4
           have x0 : w4.cell? ⟨w3.heap.size, 0, none⟩ = some (.int .i64 (pnP q).w) := cell_of_row _ _ 0 _ _ _ hqx4
           have x1 : w4.cell? ⟨w3.heap.size, 1, none⟩ = some (.int .i64 (pnP q).win) := cell_of_row _ _ 1 _ _ _ hqx4
           have x2 : w4.cell? ⟨w3.heap.size, 2, none⟩ = some (.int .i64 (pnP q).fuel) := cell_of_row _ _ 2 _ _ _ hqx4
           have x3 : w4.cell? ⟨w3.heap.size, 3, none⟩ = some (.int .i64 ((pnP q).regs.getD 0 0)) := cell_of_row _ _ 3 _ _ _ hqx4
           have x4 : w4.cell? ⟨w3.heap.size, 4, none⟩ = some (.int .i64 ((pnP q).regs.getD 1 0)) := cell_of_row _ _ 4 _ _ _ hqx4
           have x5 : w4.cell? ⟨w3.heap.size, 5, none⟩ = some (.int .i64 ((pnP q).regs.getD 2 0)) := cell_of_row _ _ 5 _ _ _ hqx4
           have x6 : w4.cell? ⟨w3.heap.size, 6, none⟩ = some (.int .i64 ((pnP q).regs.getD 3 0)) := cell_of_row _ _ 6 _ _ _ hqx4
           have x7 : w4.cell? ⟨w3.heap.size, 7, none⟩ = some (.slice AM (pnP q).mems.length cM) := cell_of_row _ _ 7 _ _ _ hqx4
           have x8 : w4.cell? ⟨w3.heap.size, 8, none⟩ = some (.slice AL (pnP q).labels.length cL) := cell_of_row _ _ 8 _ _ _ hqx4
           have x9 : w4.cell? ⟨w3.heap.size, 9, none⟩ = some (.slice AI (pnP q).ins.length cI) := cell_of_row _ _ 9 _ _ _ hqx4
           clear hbx4 hqx4 hb4 z0 z1 z2 z3 z4 z5 z6 z7 z8 z9)
        | (go_at_call 10; refine (HSM.out _ _ _ _ _ _ _ HQ4.out (HIN.out.up HX4.out)).mono ?_; rintro e w5 ⟨rfl, hb5⟩; have HB5 := Lib.hid hb5; clear hb5)
        | (go_at_call 7; refine (HAL.out _ (upT HB.out (upT HX4.out HB5.out))).mono ?_; rintro e w6 ⟨rfl, hb6⟩)
      go_ret
      exact ⟨rfl, upT (upT HB.out (upT HX4.out HB5.out)) hb6⟩
    · rw [hB] at h5
      subst h5
      have hpr := fun W h hi => HPR.out vM vL vI W h hi
      have hok := fun W h hi => HOK.out vM vL vI W h hi
      rw [hpn] at hpr hok
      obtain ⟨k0, m0, hpe⟩ : ∃ k m, Pg.parse [] = .error (k, m) := by
        have h : (match Pg.parse [] with | .ok _ => false | .error _ => true) = true := by kernel_rfl
        cases hp : Pg.parse [] with
        | ok r => rw [hp] at h; cases h
        | error e => exact ⟨e.1, e.2, rfl⟩
      have hpa := fun W (h : Below w.heap.size w W) => parse_prog [] (by decide) W (HT.out.below h)
      rw [hpe] at hpa
      have HPT := Lib.hid hpr; have HOT := Lib.hid hok; have HPA := Lib.hid hpa
      have c0 : wc.cell? ⟨w.heap.size + 1 + 1 + 1 + 1, 0, none⟩ = some (.int .i64 (pnP q).w) := cell_of_row _ _ 0 _ _ _ hbx
      have c1 : wc.cell? ⟨w.heap.size + 1 + 1 + 1 + 1, 1, none⟩ = some (.int .i64 (pnP q).win) := cell_of_row _ _ 1 _ _ _ hbx
      have c2 : wc.cell? ⟨w.heap.size + 1 + 1 + 1 + 1, 2, none⟩ = some (.int .i64 (pnP q).fuel) := cell_of_row _ _ 2 _ _ _ hbx
      have c3 : wc.cell? ⟨w.heap.size + 1 + 1 + 1 + 1, 3, none⟩ = some (.int .i64 ((pnP q).regs.getD 0 0)) := cell_of_row _ _ 3 _ _ _ hbx
      have c4 : wc.cell? ⟨w.heap.size + 1 + 1 + 1 + 1, 4, none⟩ = some (.int .i64 ((pnP q).regs.getD 1 0)) := cell_of_row _ _ 4 _ _ _ hbx
      have c5 : wc.cell? ⟨w.heap.size + 1 + 1 + 1 + 1, 5, none⟩ = some (.int .i64 ((pnP q).regs.getD 2 0)) := cell_of_row _ _ 5 _ _ _ hbx
      have c6 : wc.cell? ⟨w.heap.size + 1 + 1 + 1 + 1, 6, none⟩ = some (.int .i64 ((pnP q).regs.getD 3 0)) := cell_of_row _ _ 6 _ _ _ hbx
      have c7 : wc.cell? ⟨w.heap.size + 1 + 1 + 1 + 1, 7, none⟩ = some (vM) := cell_of_row _ _ 7 _ _ _ hbx
      have c8 : wc.cell? ⟨w.heap.size + 1 + 1 + 1 + 1, 8, none⟩ = some (vL) := cell_of_row _ _ 8 _ _ _ hbx
      have c9 : wc.cell? ⟨w.heap.size + 1 + 1 + 1 + 1, 9, none⟩ = some (vI) := cell_of_row _ _ 9 _ _ _ hbx
      clear hpr hok hpa hpn hpe hB hbx HR HPR HOK HT HQ m255 b0 HSM
      go_wp2_with first
        | (go_at_call 9; refine (HPT.out _ HB.out HIN.out).mono ?_; rintro e w2 ⟨rfl, hb2⟩; have HB2 := Lib.hid hb2; clear hb2)
        | (go_at_call 6
           refine (HPA.out _ (upT HB.out HB2.out)).mono ?_
           rintro e w3 ⟨hb3, rfl⟩
           have hx3 := upT HB2.out hb3
           have hbx3 := HBK.out _ hx3
           have hlt3 := (Array.getElem?_eq_some_iff.1 hbx3).1
           have z0 : ∀ o, (w3.alloc o).cell? ⟨w.heap.size + 1 + 1 + 1 + 1, 0, none⟩ = some (.int .i64 (pnP q).w) := fun o => (World.cell?_alloc_lt _ _ _ hlt3).trans (cell_of_row _ _ 0 _ _ _ hbx3)
           have z1 : ∀ o, (w3.alloc o).cell? ⟨w.heap.size + 1 + 1 + 1 + 1, 1, none⟩ = some (.int .i64 (pnP q).win) := fun o => (World.cell?_alloc_lt _ _ _ hlt3).trans (cell_of_row _ _ 1 _ _ _ hbx3)
           have z2 : ∀ o, (w3.alloc o).cell? ⟨w.heap.size + 1 + 1 + 1 + 1, 2, none⟩ = some (.int .i64 (pnP q).fuel) := fun o => (World.cell?_alloc_lt _ _ _ hlt3).trans (cell_of_row _ _ 2 _ _ _ hbx3)
           have z3 : ∀ o, (w3.alloc o).cell? ⟨w.heap.size + 1 + 1 + 1 + 1, 3, none⟩ = some (.int .i64 ((pnP q).regs.getD 0 0)) := fun o => (World.cell?_alloc_lt _ _ _ hlt3).trans (cell_of_row _ _ 3 _ _ _ hbx3)
           have z4 : ∀ o, (w3.alloc o).cell? ⟨w.heap.size + 1 + 1 + 1 + 1, 4, none⟩ = some (.int .i64 ((pnP q).regs.getD 1 0)) := fun o => (World.cell?_alloc_lt _ _ _ hlt3).trans (cell_of_row _ _ 4 _ _ _ hbx3)
           have z5 : ∀ o, (w3.alloc o).cell? ⟨w.heap.size + 1 + 1 + 1 + 1, 5, none⟩ = some (.int .i64 ((pnP q).regs.getD 2 0)) := fun o => (World.cell?_alloc_lt _ _ _ hlt3).trans (cell_of_row _ _ 5 _ _ _ hbx3)
           have z6 : ∀ o, (w3.alloc o).cell? ⟨w.heap.size + 1 + 1 + 1 + 1, 6, none⟩ = some (.int .i64 ((pnP q).regs.getD 3 0)) := fun o => (World.cell?_alloc_lt _ _ _ hlt3).trans (cell_of_row _ _ 6 _ _ _ hbx3)
           have z7 : ∀ o, (w3.alloc o).cell? ⟨w.heap.size + 1 + 1 + 1 + 1, 7, none⟩ = some (vM) := fun o => (World.cell?_alloc_lt _ _ _ hlt3).trans (cell_of_row _ _ 7 _ _ _ hbx3)
           have z8 : ∀ o, (w3.alloc o).cell? ⟨w.heap.size + 1 + 1 + 1 + 1, 8, none⟩ = some (vL) := fun o => (World.cell?_alloc_lt _ _ _ hlt3).trans (cell_of_row _ _ 8 _ _ _ hbx3)
           have z9 : ∀ o, (w3.alloc o).cell? ⟨w.heap.size + 1 + 1 + 1 + 1, 9, none⟩ = some (vI) := fun o => (World.cell?_alloc_lt _ _ _ hlt3).trans (cell_of_row _ _ 9 _ _ _ hbx3)
           have HX3 := Lib.hid hx3
           clear hx3 hbx3 hlt3 hb3 c0 c1 c2 c3 c4 c5 c6 c7 c8 c9)
        | (go_at_call 8
           refine (HOT.out _ (upT HB.out (upA HX3.out _)) (HIN.out.up (upA HX3.out _))).mono ?_
           rintro e w4 ⟨rfl, hb4⟩
           have HX4 := Lib.hid (upT (upA HX3.out _) hb4)
           clear hb4 z0 z1 z2 z3 z4 z5 z6 z7 z8 z9)
        | (go_at_call 7; refine (HAL.out _ (upT HB.out HX4.out)).mono ?_; rintro e w6 ⟨rfl, hb6⟩)
      go_ret
      exact ⟨rfl, upT (upT HB.out HX4.out) hb6⟩
end Go.Proofs.YtmghklokbmdenaaDoor
