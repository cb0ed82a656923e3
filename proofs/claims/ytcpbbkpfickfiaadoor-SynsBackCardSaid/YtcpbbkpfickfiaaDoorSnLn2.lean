/- The contract of augurylaw5.Line: it hands back some string that is not long. -/
import Derived.Test.YtcpbbkpfickfiaaDoorSnLn
set_option linter.unusedVariables false
set_option linter.unusedSimpArgs false
namespace Go.Proofs.YtcpbbkpfickfiaaDoor
open Go.RowKit
abbrev lnD : Array Value := #[.string ⟨#[114, 48]⟩, .string ⟨#[114, 49]⟩, .string ⟨#[114, 50]⟩, .string ⟨#[114, 51]⟩]
theorem lnD_ok : StrRow lnD 2 := strRow_of (by decide)
abbrev lnN : Array Value := #[.string ⟨#[97]⟩, .string ⟨#[108, 97, 98]⟩, .string ⟨#[114, 52]⟩, .string ⟨#[114, 48]⟩, .string ⟨#[120, 49]⟩, .string ⟨#[97, 100, 100]⟩]
theorem lnN_ok : StrRow lnN 3 := strRow_of (by decide)
abbrev lnO : Array Value := #[.string ⟨#[97, 100, 100]⟩, .string ⟨#[115, 117, 98]⟩, .string ⟨#[97, 110, 100]⟩, .string ⟨#[111, 114]⟩, .string ⟨#[120, 111, 114]⟩, .string ⟨#[115, 104, 108]⟩, .string ⟨#[115, 104, 114]⟩, .string ⟨#[109, 117, 108]⟩, .string ⟨#[108, 116]⟩, .string ⟨#[101, 113]⟩, .string ⟨#[109, 111, 118]⟩]
theorem lnO_ok : StrRow lnO 3 := strRow_of (by decide)
abbrev lnM : Array Value := #[.string ⟨#[48]⟩, .string ⟨#[49]⟩, .string ⟨#[50]⟩, .string ⟨#[51]⟩, .string ⟨#[49, 54]⟩, .string ⟨#[49, 55]⟩, .string ⟨#[49, 48, 48, 48]⟩]
theorem lnM_ok : StrRow lnM 4 := strRow_of (by decide)
/-- the box of the row stands, and all that was there -/
structure LnG (w W : World) (A : Option Addr) (n c : Nat) : Prop where
  box : W.cell? ⟨w.heap.size, 0, none⟩ = some (.slice A n c)
  lt : w.heap.size < W.heap.size
  below : Below w.heap.size w W
section
variable {w W : World} {A : Option Addr} {n c : Nat}
theorem LnG.up (h : LnG w W A n c) {W' : World} (hb : Below W.heap.size W W') : LnG w W' A n c := ⟨(hb.cell (p := ⟨w.heap.size, 0, none⟩) h.lt).trans h.box, Nat.lt_of_lt_of_le h.lt hb.size, upT h.below hb⟩
theorem LnG.alloc (h : LnG w W A n c) (o : Obj) : LnG w (W.alloc o) A n c := h.up (upA (up0 W) o)
theorem wp_ld {ops : Array Oper} {rest : List Oper} {o : Oper} {a : Act} {Q : Exit → Act → World → Prop} (hgd : o.guard = none) (x : Operand) (ho : o.op = .load 9 x) (g q : Nat) (R : Array Value) (B : Nat) (t : TypeId)
    (hx : a.eval x = .pointer (some ⟨g, q, none⟩)) (hg : g = W.heap.size) (hG : LnG w W A n c) (hq : q < R.size) (hR : StrRow R B)
    (h : ∀ (s : ByteArray) (W2 : World), s.size ≤ B → LnG w W2 A n c → wpList Tryd.prog ops Q rest (a.put o.dst (.string s)) W2) : wpList Tryd.prog ops Q (o :: rest) a (W.alloc (.cells R t)) := by
  subst hg
  exact wp_load_str hgd x ho W.heap.size q R B t (0, 0) hx (heap_alloc_new W _) hq hR (fun s hs => h s _ hs (hG.alloc _))
end
theorem wp_cat {w : World} {ops : Array Oper} {rest : List Oper} {o : Oper} {a : Act} {Q : Exit → Act → World → Prop} (hgd : o.guard = none) (x y : Operand) (ho : o.op = .binOp .add 9 x y 9) (s t : ByteArray) {b1 b2 : Nat}
    (hx : a.eval x = .string s) (hy : a.eval y = .string t) (hs : s.size ≤ b1) (ht : t.size ≤ b2) (hb : b1 + b2 ≤ 1000)
    (h : ∀ u : ByteArray, u.size ≤ b1 + b2 → wpList Tryd.prog ops Q rest (a.put o.dst (.string u)) w) : wpList Tryd.prog ops Q (o :: rest) a w := by
  have hsz : (s ++ t).size ≤ b1 + b2 := by rw [ByteArray.size_append]; omega
  have hbig : s.size + t.size ≤ 1000 := by omega
  have hl : (binOp .add 9 (.string s) (.string t)).run Tryd.prog w = .ok (.string (s ++ t)) w := by
    rw [binOp_string_add, run_string_add_sum _ _ _ (by omega)]
  have hg : (eqGuard .add 9 x y (.string s) (.string t)).run Tryd.prog w = .ok () w := rfl
  refine wpList_plain hgd fun K hK => ?_
  unfold Oper.wp execOp
  simp only [ho, hx, hy, Sem.run_bind, Sem.run_pure, hg, hl, Result.andThen_ok]
  exact hK _ _ (h _ hsz)
theorem lit_size (a : Array UInt8) : (⟨a⟩ : ByteArray).size = a.size := rfl
theorem mod_of (x m : Int) (hm : 0 < m) : ∃ q : Nat, (q : Int) < m ∧ (bits .and .i64 x 255) % m = q :=
  ⟨((bits .and .i64 x 255) % m).toNat, by have h1 := Int.emod_nonneg (bits .and .i64 x 255) (show m ≠ 0 by omega); have h2 := Int.emod_lt_of_pos (bits .and .i64 x 255) hm; omega, by have h1 := Int.emod_nonneg (bits .and .i64 x 255) (show m ≠ 0 by omega); omega⟩
theorem and3_of (x : Int) : ∃ q : Nat, q < 4 ∧ bits .and .i64 x 3 = q :=
  ⟨(x % 4).toNat, by omega, by have := Wd.bits_mask x 2 (by omega); rw [show (3 : Int) = 2 ^ 2 - 1 from rfl, this]; omega⟩
theorem and255_nn (x : Int) : 0 ≤ bits .and .i64 x 255 := by have := Wd.bits_mask x 8 (by omega); rw [show (255 : Int) = 2 ^ 8 - 1 from rfl, this]; omega
theorem and7_of (x : Int) : ∃ q : Nat, q < 8 ∧ bits .and .i64 x 7 = q :=
  ⟨(x % 8).toNat, by omega, by have := Wd.bits_mask x 3 (by omega); rw [show (7 : Int) = 2 ^ 3 - 1 from rfl, this]; omega⟩
set_option maxRecDepth 100000 in
set_option maxHeartbeats 20000000 in
theorem line5_any (A : Option Addr) (n c : Nat) (z : List Int) (w : World) (hn : n = z.length) (hr : Rd w w.heap.size A (z.map (Value.int .i64))) :
    Calls Tryd.prog 14 #[.slice A n c] w fun e w' => ∃ s : ByteArray, e = .returned (.string s) ∧ s.size ≤ 100 ∧ Below w.heap.size w w' := by
  have HG : LnG w (w.alloc (.cells #[.slice A n c] 35)) A n c := ⟨cell_of_row _ _ 0 _ _ _ (heap_alloc_new w _), by simp, upA (up0 w) _⟩
  have hk := fun i hi W (hG : LnG w W A n c) => k_any i A n c w.heap.size z W hi hn hG.box ((hr.below hG.below (Nat.le_refl _)).more hG.below.size)
  have K0 := Lib.hid (fun W hG => hk 0 (by decide) W hG); have K1 := Lib.hid (fun W hG => hk 1 (by decide) W hG); have K2 := Lib.hid (fun W hG => hk 2 (by decide) W hG); have K3 := Lib.hid (fun W hG => hk 3 (by decide) W hG); have K4 := Lib.hid (fun W hG => hk 4 (by decide) W hG); have K5 := Lib.hid (fun W hG => hk 5 (by decide) W hG)
  clear hk hr hn
  generalize z.getD 0 0 = x0 at *
  generalize z.getD 1 0 = x1 at *
  generalize z.getD 2 0 = x2 at *
  generalize z.getD 3 0 = x3 at *
  generalize z.getD 4 0 = x4 at *
  generalize z.getD 5 0 = x5 at *
  obtain ⟨q1, hq1, m1⟩ := and3_of x1
  obtain ⟨q5, hq5, m5⟩ := mod_of x5 6 (by decide)
  obtain ⟨q2, hq2, m2⟩ := mod_of x2 11 (by decide)
  obtain ⟨r2, hr2, l2⟩ := mod_of x2 7 (by decide)
  obtain ⟨q0, hq0, m0⟩ := mod_of x0 22 (by decide)
  have hq5 : q5 < 6 := by omega
  have hq2 : q2 < 11 := by omega
  have hr2 : r2 < 7 := by omega
  have hq0 : q0 < 22 := by omega
  have n5 := and255_nn x5; have n2 := and255_nn x2; have n0 := and255_nn x0
  have hmf := hmf
  have get : ∀ (R : Array Value) (B q : Nat), StrRow R B → q < R.size → ∃ s : ByteArray, R[q]? = some (.string s) ∧ s.size ≤ B := fun R B q h hq => by
    obtain ⟨v, hv⟩ : ∃ v, R[q]? = some v := ⟨R[q], by simp [hq]⟩
    obtain ⟨s, rfl, hs⟩ := h q v hv
    exact ⟨s, hv, hs⟩
  obtain ⟨sD, gD, hD⟩ := get lnD 2 q1 lnD_ok hq1
  obtain ⟨sN, gN, hN⟩ := get lnN 3 q5 lnN_ok hq5
  obtain ⟨sO, gO, hO⟩ := get lnO 3 q2 lnO_ok hq2
  obtain ⟨sM, gM, hM⟩ := get lnM 4 r2 lnM_ok hr2
  clear get
  have cD : ((w.alloc (.cells #[.slice A n c] 35)).alloc (.cells lnD 9)).cell? ⟨w.heap.size + 1, q1, none⟩ = some (.string sD) := by
    have h := heap_alloc_new (w.alloc (.cells #[.slice A n c] 35)) (.cells lnD 9)
    rw [show (w.alloc (.cells #[.slice A n c] 35)).heap.size = w.heap.size + 1 by simp] at h
    rw [cell_of_row _ _ _ _ _ _ h]; exact gD
  have cN : (((w.alloc (.cells #[.slice A n c] 35)).alloc (.cells lnD 9)).alloc (.cells lnN 9)).cell? ⟨w.heap.size + 1 + 1, q5, none⟩ = some (.string sN) := by
    have h := heap_alloc_new ((w.alloc (.cells #[.slice A n c] 35)).alloc (.cells lnD 9)) (.cells lnN 9)
    rw [show ((w.alloc (.cells #[.slice A n c] 35)).alloc (.cells lnD 9)).heap.size = w.heap.size + 1 + 1 by simp] at h
    rw [cell_of_row _ _ _ _ _ _ h]; exact gN
  have cO : ((((w.alloc (.cells #[.slice A n c] 35)).alloc (.cells lnD 9)).alloc (.cells lnN 9)).alloc (.cells lnO 9)).cell? ⟨w.heap.size + 1 + 1 + 1, q2, none⟩ = some (.string sO) := by
    have h := heap_alloc_new (((w.alloc (.cells #[.slice A n c] 35)).alloc (.cells lnD 9)).alloc (.cells lnN 9)) (.cells lnO 9)
    rw [show (((w.alloc (.cells #[.slice A n c] 35)).alloc (.cells lnD 9)).alloc (.cells lnN 9)).heap.size = w.heap.size + 1 + 1 + 1 by simp] at h
    rw [cell_of_row _ _ _ _ _ _ h]; exact gO
  have cM : (((((w.alloc (.cells #[.slice A n c] 35)).alloc (.cells lnD 9)).alloc (.cells lnN 9)).alloc (.cells lnO 9)).alloc (.cells lnM 9)).cell? ⟨w.heap.size + 1 + 1 + 1 + 1, r2, none⟩ = some (.string sM) := by
    have h := heap_alloc_new ((((w.alloc (.cells #[.slice A n c] 35)).alloc (.cells lnD 9)).alloc (.cells lnN 9)).alloc (.cells lnO 9)) (.cells lnM 9)
    rw [show ((((w.alloc (.cells #[.slice A n c] 35)).alloc (.cells lnD 9)).alloc (.cells lnN 9)).alloc (.cells lnO 9)).heap.size = w.heap.size + 1 + 1 + 1 + 1 by simp] at h
    rw [cell_of_row _ _ _ _ _ _ h]; exact gM
  have G2 := Lib.hid (HG.alloc (.cells lnD 9))
  have G3 := Lib.hid (G2.out.alloc (.cells lnN 9))
  have G4 := Lib.hid (G3.out.alloc (.cells lnO 9))
  have G5 := Lib.hid (G4.out.alloc (.cells lnM 9))
  clear HG gD gN gO gM
  go_enter Tryd.func14, Tryd.ntmps14
  go_wp2_with fail
  refine (K1.out _ G2.out).mono ?_
  rintro e w9 ⟨rfl, rfl⟩
  go_wp2_with fail
  refine (K5.out _ G3.out).mono ?_
  rintro e w9 ⟨rfl, rfl⟩
  go_wp2_with fail
  refine (K2.out _ G4.out).mono ?_
  rintro e w9 ⟨rfl, rfl⟩
  go_wp2_with fail
  refine (K2.out _ G5.out).mono ?_
  rintro e w9 ⟨rfl, rfl⟩
  go_wp2_with fail
  clear cD cN cO cM
  refine (K3.out _ G5.out).mono ?_
  rintro e w9 ⟨rfl, rfl⟩
  go_wp2_with fail
  refine (v_any _ _).mono ?_
  rintro e w6 ⟨sA, rfl, hA, hb6⟩
  have G6 := Lib.hid (G5.out.up hb6)
  clear hb6 G2 G3 G4 G5
  go_wp2_with fail
  refine (K4.out _ G6.out).mono ?_
  rintro e w9 ⟨rfl, rfl⟩
  go_wp2_with fail
  refine (v_any _ _).mono ?_
  rintro e w7 ⟨sB, rfl, hB, hb7⟩
  have G7 := Lib.hid (G6.out.up hb7)
  clear hb7 G6
  go_wp2_with fail
  refine (K0.out _ (G7.out.alloc _)).mono ?_
  rintro e w9 ⟨rfl, rfl⟩
  go_wp2_with (show wpList _ _ _ (⟨_, .load _ _, _, _, _, _⟩ :: _) _ (World.alloc _ _); refine wp_ld rfl _ rfl w7.heap.size q0 _ 60 _ rfl rfl G7.out (by show q0 < 22; exact hq0) ?hR ?_; rotate_left; intro s8 W8 hs8 HG8)
  case hR =>
    intro q v hv
    have hm := Array.mem_of_getElem? hv
    simp only [List.mem_toArray, List.mem_cons, List.not_mem_nil, or_false] at hm
    rcases hm with rfl | rfl | rfl | rfl | rfl | rfl | rfl | rfl | rfl | rfl | rfl | rfl | rfl | rfl | rfl | rfl | rfl | rfl | rfl | rfl | rfl | rfl
    all_goals exact ⟨_, rfl, by simp only [ByteArray.size_append, lit_size, List.size_toArray, List.length_cons, List.length_nil]; omega⟩
  have y0 := and255_nn (x1 / 4)
  obtain ⟨r1, hr1, hl1⟩ : ∃ r : Nat, (bits .and .i64 (x1 / 4) 255).tmod ((s8.size : Int) + 1 + (sB.size : Int)) = r ∧ (r : Int) ≤ (s8.size : Int) + 1 + (sB.size : Int) :=
    ⟨((bits .and .i64 (x1 / 4) 255).tmod ((s8.size : Int) + 1 + (sB.size : Int))).toNat, by have := Int.tmod_nonneg ((s8.size : Int) + 1 + (sB.size : Int)) y0; omega, by have h1 := Int.tmod_nonneg ((s8.size : Int) + 1 + (sB.size : Int)) y0; have h2 := Int.tmod_lt_of_pos (bits .and .i64 (x1 / 4) 255) (show (0 : Int) < (s8.size : Int) + 1 + (sB.size : Int) by omega); omega⟩
  have hl1n : r1 ≤ s8.size + 1 + sB.size := by omega
  obtain ⟨r2, hr2', hl2, hl2n⟩ : ∃ r : Nat, (bits .and .i64 (x1 / 4) 255).tmod (s8.size : Int) = r ∧ (s8.size = 0 ∨ (r : Int) ≤ (s8.size : Int)) ∧ (s8.size = 0 ∨ r ≤ s8.size) := by
    have h1 := Int.tmod_nonneg (s8.size : Int) y0
    rcases Nat.eq_zero_or_pos s8.size with hz | hz
    · exact ⟨((bits .and .i64 (x1 / 4) 255).tmod (s8.size : Int)).toNat, by omega, .inl hz, .inl hz⟩
    · have h2 := Int.tmod_lt_of_pos (bits .and .i64 (x1 / 4) 255) (show (0 : Int) < (s8.size : Int) by omega)
      exact ⟨((bits .and .i64 (x1 / 4) 255).tmod (s8.size : Int)).toNat, by omega, .inr (by omega), .inr (by omega)⟩
  have hcases : s8.size = 0 ∨ (0 < s8.size ∧ (r2 : Int) ≤ (s8.size : Int) ∧ r2 ≤ s8.size) := by omega
  clear hl2 hl2n
  rcases hcases with hz | ⟨hz1, hz2, hz3⟩
  all_goals
    refine (K0.out _ HG8).mono ?_
    rintro e w9 ⟨rfl, rfl⟩
    go_wp2_with fail
  all_goals
    refine (K0.out _ HG8).mono ?_
    rintro e w9 ⟨rfl, rfl⟩
    go_wp2_with fail
  all_goals try (go_ret; exact ⟨_, rfl, by first | omega | (simp only [ByteArray.size_append, lit_size, List.size_toArray, List.length_cons, List.length_nil]; omega), HG8.below⟩)
  all_goals
    refine (K1.out _ HG8).mono ?_
    rintro e w9 ⟨rfl, rfl⟩
    go_wp2_with fail
  all_goals try (go_ret; exact ⟨_, rfl, by first | omega | (simp only [ByteArray.size_append, lit_size, List.size_toArray, List.length_cons, List.length_nil, ByteArray.size_extract]; omega), HG8.below⟩)
  all_goals
    rename_i hh
    exact absurd ⟨Int.emod_nonneg _ (by omega), Int.le_of_lt (Int.emod_lt_of_pos _ (by omega))⟩ hh
end Go.Proofs.YtcpbbkpfickfiaaDoor
