/- Merged: S8p. -/
import Derived.Test.YtjdiabjmphdhiaaMjL
set_option linter.unusedVariables false
set_option linter.unusedSimpArgs false
set_option maxRecDepth 100000
namespace Go.Proofs.Ytjdiabjmphdhiaa.Px
section
open Go.RowKit Go.Proofs.Ytjdiabjmphdhiaa.Rx
theorem xor1_ne {n : Int} (h0 : 0 ≤ n) (h1 : n < 65536) : bits .xor .i64 n 1 ≠ n := by
  rw [Wd.bits_xor h0 h1 (by omega) (by omega)]
  intro h
  have h2 : n.toNat ^^^ 1 = n.toNat := by
    have e : Wd.xorI n 1 = ((n.toNat ^^^ 1 : Nat) : Int) := rfl
    omega
  have h3 : n.toNat ^^^ (n.toNat ^^^ 1) = n.toNat ^^^ n.toNat := by rw [h2]
  rw [← Nat.xor_assoc, Nat.xor_self, Nat.zero_xor] at h3
  omega
theorem lowP {p : Pg} (hP : OkP p) {s s' : S7} {b : Bool} (hs : s.m.length = sumN p.ms) (hs' : s'.m.length = sumN p.ms) (hb : lowS p s s' [] [] = b) : PureC Try.prog 12 [.agg (progL p.W p.r0 p.r1 p.r2 p.r3 (memR p.ms)), .agg (stA (s).r0 (s).r1 (s).r2 (s).r3 (s).m .nils 0), .agg (stA (s').r0 (s').r1 (s').r2 (s').r3 (s').m .nils 0)] (.bool b) [] := by
  subst hb
  exact lowC_nn p.W p.r0 p.r1 p.r2 p.r3 p.ms s.r0 s.r1 s.r2 s.r3 0 s'.r0 s'.r1 s'.r2 s'.r3 0 s.m s'.m (by have := hP.ms; omega) (by have := hP.sum; omega) hs hs'
theorem lowP1 {p : Pg} (hP : OkP p) {s s' : S7} (hs : s.m.length = sumN p.ms) (hs' : s'.m.length = sumN p.ms) : PureC Try.prog 12 [.agg (progL p.W p.r0 p.r1 p.r2 p.r3 (memR p.ms)), .agg (stA (s).r0 (s).r1 (s).r2 (s).r3 (s).m .nils 0), .agg (stA (s').r0 (s').r1 (s').r2 (s').r3 (s').m (.row 1 1 (rowI [1])) 0)] (.bool false) [] := by
  have h := lowC_nr p.W p.r0 p.r1 p.r2 p.r3 p.ms s.r0 s.r1 s.r2 s.r3 0 s'.r0 s'.r1 s'.r2 s'.r3 0 s.m s'.m [1] (by have := hP.ms; omega) (by have := hP.sum; omega) hs hs' (by decide)
  have e : lowB p.r0 p.r1 p.r2 p.r3 p.ms s.r0 s.r1 s.r2 s.r3 s.m [] 0 s'.r0 s'.r1 s'.r2 s'.r3 s'.m [1] 0 = false := low_stack p s s'
  rw [e] at h
  exact h
theorem archLowC (m l : List Int) (w : Int) : PureC Try.prog 3 [lR m, lR l, .int .i64 w] (.bool true) [] := by
  have hP := mkPg_ok m
  have hM := mkC m
  generalize mkPg m = p at hP hM
  have hS : PureC Try.prog 10 [.agg (pgA p), lR l, .int .i64 1] (.tup [.agg (stC (stK p (xF p l)) (lR (stK p (xF p l)).m)), .agg (stC (stK p (yF p l 1)) (lR (stK p (yF p l 1)).m))]) [] := statesC p l 1 hP
  have hB : B7 (stK p (xF p l)) := putK_b _ _ _ _ (zer7_b _) _
  have hN : (stK p (xF p l)).m.length = sumN p.ms := stK_len p _
  generalize stK p (xF p l) = a at hS hB hN
  generalize stK p (yF p l 1) = b0 at hS
  have hPl : PureC Try.prog 11 [.agg (progL p.W p.r0 p.r1 p.r2 p.r3 (memR p.ms))] (plR (plF p)) [] := (refPlaces p.W p.r0 p.r1 p.r2 p.r3 p.ms (by have := hP.ms; omega) (by have := hP.sum; omega)).frozen
  have hlen := plF_len hP
  have hsum := hP.sum
  obtain ⟨⟨b0', b1', b2', b3'⟩, bm'⟩ := hB
  by_cases h0 : (plF p).length = 0
  · have hw : 0 ≤ bits .and .i64 w 3 ∧ bits .and .i64 w 3 < 4 := by
      have h := Wd.bits_mask w 2 (by omega)
      have h2 : bits .and .i64 w 3 = w % 4 := h
      rw [h2]; omega
    rcases four hw.1 hw.2 with hq | hq | hq | hq
    · exact PureC.vc (lw_no0 m l w p (plF p) a b0 (by omega) (by omega) hM hS hPl h0 hq b0' (lowP hP hN hN (low_self hN)) (lowP hP hN hN (low_reg h0 hN hN (r := 0) (by omega) (by show a.r0 ≠ a.r0 + 1; omega))))
    · exact PureC.vc (lw_no1 m l w p (plF p) a b0 (by omega) (by omega) hM hS hPl h0 hq b1' (lowP hP hN hN (low_self hN)) (lowP hP hN hN (low_reg h0 hN hN (r := 1) (by omega) (by show a.r1 ≠ a.r1 + 1; omega))))
    · exact PureC.vc (lw_no2 m l w p (plF p) a b0 (by omega) (by omega) hM hS hPl h0 hq b2' (lowP hP hN hN (low_self hN)) (lowP hP hN hN (low_reg h0 hN hN (r := 2) (by omega) (by show a.r2 ≠ a.r2 + 1; omega))))
    · exact PureC.vc (lw_no3 m l w p (plF p) a b0 (by omega) (by omega) hM hS hPl h0 hq b3' (lowP hP hN hN (low_self hN)) (lowP hP hN hN (low_reg h0 hN hN (r := 3) (by omega) (by show a.r3 ≠ a.r3 + 1; omega))))
  · have ht := tmBd (and255 w).1 (show 0 < ((plF p).length : Int) by omega)
    have hk : (Int.tmod (bits .and .i64 w 255) ((plF p).length : Int)).toNat < (plF p).length := by omega
    have hok := plF_ok p _ (mem_getD hk)
    cases hr : ((plF p).getD (Int.tmod (bits .and .i64 w 255) ((plF p).length : Int)).toNat default).reg with
    | true =>
      have hn := hok.1 hr
      rcases (by omega : ((plF p).getD (Int.tmod (bits .and .i64 w 255) ((plF p).length : Int)).toNat default).n = 0 ∨ ((plF p).getD (Int.tmod (bits .and .i64 w 255) ((plF p).length : Int)).toNat default).n = 1 ∨ ((plF p).getD (Int.tmod (bits .and .i64 w 255) ((plF p).length : Int)).toNat default).n = 2 ∨ ((plF p).getD (Int.tmod (bits .and .i64 w 255) ((plF p).length : Int)).toNat default).n = 3) with hq | hq | hq | hq
      · have e : { a with r0 := bits .xor .i64 a.r0 1 } = put7 a ((plF p).getD (Int.tmod (bits .and .i64 w 255) ((plF p).length : Int)).toNat default) (bits .xor .i64 a.r0 1) := by unfold put7; rw [if_pos hr, hq]; rfl
        have hv : bits .xor .i64 a.r0 1 ≠ at7 a ((plF p).getD (Int.tmod (bits .and .i64 w 255) ((plF p).length : Int)).toNat default) := by unfold at7; rw [if_pos hr, hq]; exact xor1_ne b0'.1 b0'.2
        have h1 := low_turn hN hk hv
        have h2 := low_back hN hk hv
        rw [← e] at h1 h2
        exact PureC.vc (lw_reg0 m l w p (plF p) a b0 (by omega) (by omega) hM hS hPl (by omega) ht hr hq (lowP hP hN hN h1) (lowP hP hN hN h2) (lowP1 hP hN hN) (lowP1 hP hN hN))
      · have e : { a with r1 := bits .xor .i64 a.r1 1 } = put7 a ((plF p).getD (Int.tmod (bits .and .i64 w 255) ((plF p).length : Int)).toNat default) (bits .xor .i64 a.r1 1) := by unfold put7; rw [if_pos hr, hq]; rfl
        have hv : bits .xor .i64 a.r1 1 ≠ at7 a ((plF p).getD (Int.tmod (bits .and .i64 w 255) ((plF p).length : Int)).toNat default) := by unfold at7; rw [if_pos hr, hq]; exact xor1_ne b1'.1 b1'.2
        have h1 := low_turn hN hk hv
        have h2 := low_back hN hk hv
        rw [← e] at h1 h2
        exact PureC.vc (lw_reg1 m l w p (plF p) a b0 (by omega) (by omega) hM hS hPl (by omega) ht hr hq (lowP hP hN hN h1) (lowP hP hN hN h2) (lowP1 hP hN hN) (lowP1 hP hN hN))
      · have e : { a with r2 := bits .xor .i64 a.r2 1 } = put7 a ((plF p).getD (Int.tmod (bits .and .i64 w 255) ((plF p).length : Int)).toNat default) (bits .xor .i64 a.r2 1) := by unfold put7; rw [if_pos hr, hq]; rfl
        have hv : bits .xor .i64 a.r2 1 ≠ at7 a ((plF p).getD (Int.tmod (bits .and .i64 w 255) ((plF p).length : Int)).toNat default) := by unfold at7; rw [if_pos hr, hq]; exact xor1_ne b2'.1 b2'.2
        have h1 := low_turn hN hk hv
        have h2 := low_back hN hk hv
        rw [← e] at h1 h2
        exact PureC.vc (lw_reg2 m l w p (plF p) a b0 (by omega) (by omega) hM hS hPl (by omega) ht hr hq (lowP hP hN hN h1) (lowP hP hN hN h2) (lowP1 hP hN hN) (lowP1 hP hN hN))
      · have e : { a with r3 := bits .xor .i64 a.r3 1 } = put7 a ((plF p).getD (Int.tmod (bits .and .i64 w 255) ((plF p).length : Int)).toNat default) (bits .xor .i64 a.r3 1) := by unfold put7; rw [if_pos hr, hq]; rfl
        have hv : bits .xor .i64 a.r3 1 ≠ at7 a ((plF p).getD (Int.tmod (bits .and .i64 w 255) ((plF p).length : Int)).toNat default) := by unfold at7; rw [if_pos hr, hq]; exact xor1_ne b3'.1 b3'.2
        have h1 := low_turn hN hk hv
        have h2 := low_back hN hk hv
        rw [← e] at h1 h2
        exact PureC.vc (lw_reg3 m l w p (plF p) a b0 (by omega) (by omega) hM hS hPl (by omega) ht hr hq (lowP hP hN hN h1) (lowP hP hN hN h2) (lowP1 hP hN hN) (lowP1 hP hN hN))
    | false =>
      have hn := hok.2 hr
      have e : { a with m := a.m.set ((plF p).getD (Int.tmod (bits .and .i64 w 255) ((plF p).length : Int)).toNat default).n (bits .xor .i64 (a.m.getD ((plF p).getD (Int.tmod (bits .and .i64 w 255) ((plF p).length : Int)).toNat default).n 0) 1) } = put7 a ((plF p).getD (Int.tmod (bits .and .i64 w 255) ((plF p).length : Int)).toNat default) (bits .xor .i64 (a.m.getD ((plF p).getD (Int.tmod (bits .and .i64 w 255) ((plF p).length : Int)).toNat default).n 0) 1) := by unfold put7; rw [if_neg (by rw [hr]; simp)]
      have hv : bits .xor .i64 (a.m.getD ((plF p).getD (Int.tmod (bits .and .i64 w 255) ((plF p).length : Int)).toNat default).n 0) 1 ≠ at7 a ((plF p).getD (Int.tmod (bits .and .i64 w 255) ((plF p).length : Int)).toNat default) := by
        unfold at7
        rw [if_neg (by rw [hr]; simp)]
        have := mem_bd bm' ((plF p).getD (Int.tmod (bits .and .i64 w 255) ((plF p).length : Int)).toNat default).n
        exact xor1_ne this.1 this.2
      have h1 := low_turn hN hk hv
      have h2 := low_back hN hk hv
      have hb := put7_len a ((plF p).getD (Int.tmod (bits .and .i64 w 255) ((plF p).length : Int)).toNat default) (bits .xor .i64 (a.m.getD ((plF p).getD (Int.tmod (bits .and .i64 w 255) ((plF p).length : Int)).toNat default).n 0) 1)
      rw [← e] at h1 h2 hb
      rw [hN] at hb
      exact PureC.vc (lw_mem m l w p (plF p) a b0 (by omega) (by omega) hM hS hPl (by omega) ht hr (by rw [hN]; exact hn) (lowP hP hN hb h1) (lowP hP hb hN h2) (lowP1 hP hb hb) (lowP1 hP hN hb))
theorem walk_ArchLow (A0 : Option Addr) (c0 : Nat) (z0 : List Int) (A1 : Option Addr) (c1 : Nat) (z1 : List Int) (a2 : Int) (W : World) (hc0 : z0.length ≤ c0) (hm0 : c0 ≤ maxLen) (hr0 : Rd W W.heap.size A0 (z0.map (Value.int .i64))) (hc1 : z1.length ≤ c1) (hm1 : c1 ≤ maxLen) (hr1 : Rd W W.heap.size A1 (z1.map (Value.int .i64))) : Calls Try.prog 3 #[.slice A0 z0.length c0, .slice A1 z1.length c1, .int .i64 a2] W (RetB (.bool true) W) :=
  (archLowC z0 z1 a2).lawB (R := fun g => g < W.heap.size) (fun _ h => h) rfl (fun j x v hx hv => match j, hx, hv with
    | 0, rfl, rfl => .ofRd hr0 hc0 hm0
    | 1, rfl, rfl => .ofRd hr1 hc1 hm1
    | 2, rfl, rfl => .int _ _)
end
end Go.Proofs.Ytjdiabjmphdhiaa.Px
