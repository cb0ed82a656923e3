/- Contracts of auguryref4's ops, op, reg and Word. -/
import Derived.Test.YtcpbbkpfickfiaaDoorSyOk
import Derived.Test.YtcpbbkpfickfiaaDoorMem2
import Derived.Test.YtcpbbkpfickfiaaDoorCdMath
set_option linter.unusedVariables false
set_option linter.unusedSimpArgs false
namespace Go.Proofs.YtcpbbkpfickfiaaDoor
open Go.RowKit
abbrev opRow : Array Value := #[.string ⟨#[]⟩, .string ⟨#[97, 100, 100]⟩, .string ⟨#[115, 117, 98]⟩, .string ⟨#[97, 110, 100]⟩, .string ⟨#[111, 114]⟩, .string ⟨#[120, 111, 114]⟩, .string ⟨#[115, 104, 108]⟩, .string ⟨#[115, 104, 114]⟩, .string ⟨#[109, 117, 108]⟩, .string ⟨#[108, 116]⟩, .string ⟨#[101, 113]⟩]
theorem rops_any (w : World) : Calls Tryd.prog 73 #[] w fun e w' => e = .returned (.slice (some ⟨w.heap.size, 0, none⟩) 11 11) ∧ w' = w.alloc (.cells opRow 9) := by
  go_enter Tryd.func73, Tryd.ntmps73
  go_wp2_with fail
  go_ret
  exact ⟨rfl, rfl⟩
theorem op_cell {W : World} {b : Nat} (hb : W.heap[b]? = some (.cells opRow 9 (0, 0))) (k : Nat) (h : k < 10) : ∃ x, Sy.ops[k]? = some x ∧ W.cell? ⟨b, k + 1, none⟩ = some (.string (strOfNums x)) ∧ (∀ y ∈ x, 0 ≤ y ∧ y < 256) := by
  rw [cell_of_row _ _ _ _ _ _ hb]
  rcases (by omega : k = 0 ∨ k = 1 ∨ k = 2 ∨ k = 3 ∨ k = 4 ∨ k = 5 ∨ k = 6 ∨ k = 7 ∨ k = 8 ∨ k = 9) with rfl | rfl | rfl | rfl | rfl | rfl | rfl | rfl | rfl | rfl
  all_goals exact ⟨_, rfl, rfl, by decide⟩
namespace Sy
theorem opF_hit : ∀ (l : List (List Int)) (a : Int) (t : List Int) (k : Nat), l[k]? = some t → (∀ j : Nat, j < k → l[j]? ≠ some t) → opF a l t = a + k
  | [], a, t, k, h, _ => by simp at h
  | x :: l, a, t, 0, h, _ => by
    simp at h
    simp [opF, h]
  | x :: l, a, t, k + 1, h, hn => by
    have h0 : x ≠ t := by have := hn 0 (by omega); simpa using this
    rw [opF, if_neg h0, opF_hit l (a + 1) t k (by simpa using h) (fun j hj => by have := hn (j + 1) (by omega); simpa using this)]
    omega
theorem opF_miss : ∀ (l : List (List Int)) (a : Int) (t : List Int), (∀ j : Nat, l[j]? ≠ some t) → opF a l t = 0
  | [], a, t, _ => rfl
  | x :: l, a, t, hn => by
    have h0 : x ≠ t := by have := hn 0; simpa using this
    rw [opF, if_neg h0, opF_miss l (a + 1) t (fun j => by have := hn (j + 1); simpa using this)]
end Sy
theorem str_beq2 {xs ys : List Int} (hx : ∀ y ∈ xs, 0 ≤ y ∧ y < 256) (hy : ∀ y ∈ ys, 0 ≤ y ∧ y < 256) : ((strOfNums xs).toList == (strOfNums ys).toList) = decide (xs = ys) := by
  rw [Lib.strOfNums_toList, Lib.strOfNums_toList, Bool.eq_iff_iff, beq_iff_eq, decide_eq_true_eq]
  exact ⟨Cd.bytesOf_inj hx hy, fun h => by rw [h]⟩
theorem str_inj {xs ys : List Int} (hx : ∀ y ∈ xs, 0 ≤ y ∧ y < 256) (hy : ∀ y ∈ ys, 0 ≤ y ∧ y < 256) (h : strOfNums xs = strOfNums ys) : xs = ys := by
  have e : (strOfNums xs).data.toList = (strOfNums ys).data.toList := by rw [h]
  rw [strOfNums_data, strOfNums_data] at e
  have key : ∀ (xs ys : List Int), (∀ y ∈ xs, 0 ≤ y ∧ y < 256) → (∀ y ∈ ys, 0 ≤ y ∧ y < 256) → xs.map (fun n => UInt8.ofNat n.toNat) = ys.map (fun n => UInt8.ofNat n.toNat) → xs = ys := by
    intro xs
    induction xs with
    | nil => intro ys _ _ h; cases ys with | nil => rfl | cons y ys => simp at h
    | cons x xs ih =>
      intro ys h1 h2 h
      cases ys with
      | nil => simp at h
      | cons y ys =>
        simp only [List.map_cons, List.cons.injEq] at h
        have hx := h1 x (by simp)
        have hy := h2 y (by simp)
        have e1 : (UInt8.ofNat x.toNat).toNat = (UInt8.ofNat y.toNat).toNat := by rw [h.1]
        simp at e1
        have e2 : x = y := by omega
        rw [e2, ih ys (fun z hz => h1 z (by simp [hz])) (fun z hz => h2 z (by simp [hz])) h.2]
  exact key xs ys hx hy e
set_option maxRecDepth 100000 in
set_option maxHeartbeats 4000000 in
theorem rop_any (t : List Int) (w : World) (ht : ∀ y ∈ t, 0 ≤ y ∧ y < 256) : Calls Tryd.prog 58 #[.string (strOfNums t)] w (RetB (.int .i64 (Sy.opN t)) w) := by
  go_enter Tryd.func58, Tryd.ntmps58
  go_wp2_with fail
  refine (rops_any _).mono ?_
  rintro e w1 ⟨rfl, rfl⟩
  have hb := heap_alloc_new w (.cells opRow 9)
  have hbw := upA (up0 w) (.cells opRow 9)
  go_wp2_with fail
  generalize w.alloc (.cells opRow 9) = W at *
  have HB := Lib.hid hb
  clear hb
  go_loop [4] (fun v4 => ∃ i : Nat, v4 = .int .i64 ((i + 1 : Nat) : Int) ∧ i ≤ 10 ∧ ∀ j, j < i → Sy.ops[j]? ≠ some t) (fun v4 => 11 - (intOf v4).toNat)
  case atStart => exact ⟨0, rfl, by omega, fun j hj => by omega⟩
  case round =>
    obtain ⟨i, rfl, hi, hno⟩ := hrel
    by_cases hil : i < 10
    · obtain ⟨x, hx, hc, hxb⟩ := op_cell HB.out i hil
      have i1 : ((i + 1 : Nat) : Int) < 11 := by omega
      have i0 : (0 : Int) ≤ ((i + 1 : Nat) : Int) := by omega
      have HNO := Lib.hid hno
      clear hno
      have hq := str_beq2 hxb ht
      by_cases hxt : x = t
      · rw [decide_eq_true hxt] at hq
        have hv : Sy.opN t = ((i + 1 : Nat) : Int) := by
          have := Sy.opF_hit Sy.ops 1 t i (by rw [hx, hxt]) HNO.out
          show Sy.opF 1 Sy.ops t = _
          omega
        have HV := Lib.hid hv
        clear hv hxt
        go_wp2_with fail
        go_ret
        exact ⟨by rw [HV.out]; rfl, hbw⟩
      · rw [decide_eq_false hxt] at hq
        have HXT := Lib.hid hxt; have HX := Lib.hid hx
        clear hxt hx
        go_wp2_with fail
        refine ⟨⟨i + 1, by go_num, by omega, fun j hj => ?_⟩, by simp [intOf]; omega⟩
        rcases Nat.lt_or_ge j i with h1 | h1
        · exact HNO.out j h1
        · have h2 : j = i := by omega
          rw [h2, HX.out]
          intro h3
          injection h3 with h3
          exact HXT.out h3
    · have i1 : ¬ ((i + 1 : Nat) : Int) < 11 := by omega
      have hm := Sy.opF_miss Sy.ops 1 t (fun j => by
        rcases Nat.lt_or_ge j 10 with hj | hj
        · exact hno j (by omega)
        · rw [List.getElem?_eq_none (by show (Sy.ops).length ≤ j; have : Sy.ops.length = 10 := rfl; omega)]; simp)
      have HM := Lib.hid hm
      clear hm hno
      go_wp2_with fail
      go_ret
      exact ⟨by show _ = Ending.returned (Value.int .i64 (Sy.opF 1 Sy.ops t)); rw [HM.out]; rfl, hbw⟩
set_option maxRecDepth 100000 in
theorem rreg_any (t : List Int) (w : World) (ht : ∀ y ∈ t, 0 ≤ y ∧ y < 256) : Calls Tryd.prog 37 #[.string (strOfNums t)] w (Ret (.int .i64 (Sy.regN t)) w) := by
  have hsz := strOfNums_size t
  by_cases hl : t.length = 2
  · obtain ⟨a, b, rfl⟩ : ∃ a b, t = [a, b] := by
      match t, hl with
      | [a, b], _ => exact ⟨a, b, rfl⟩
    have ha := ht a (by simp)
    have hb := ht b (by simp)
    have e0 : ∀ h, ((((strOfNums [a, b])[0]'h).toNat : Nat) : Int) = a := fun h => by
      show (((UInt8.ofNat a.toNat).toNat : Nat) : Int) = a
      simp
      omega
    have e1 : ∀ h, ((((strOfNums [a, b])[1]'h).toNat : Nat) : Int) = b := fun h => by
      show (((UInt8.ofNat b.toNat).toNat : Nat) : Int) = b
      simp
      omega
    have hrn : Sy.regN [a, b] = if a = 114 ∧ 48 ≤ b ∧ b ≤ 51 then b - 48 else -1 := rfl
    have HRN := Lib.hid hrn
    clear hrn
    generalize Sy.regN [a, b] = R at *
    generalize strOfNums [a, b] = S at *
    have hsz2 : S.size = 2 := hsz
    clear hsz ht
    rcases (by omega : (a = 114 ∧ 48 ≤ b ∧ b ≤ 51) ∨ (a = 114 ∧ 48 ≤ b ∧ 51 < b) ∨ (a = 114 ∧ b < 48) ∨ a ≠ 114) with ⟨rfl, h2, h3⟩ | ⟨rfl, h2, h3⟩ | ⟨rfl, h2⟩ | h2
    · have hR : R = b - 48 := by rw [HRN.out]; exact if_pos ⟨rfl, h2, h3⟩
      have HR := Lib.hid hR
      clear hR HRN
      go_enter Tryd.func37, Tryd.ntmps37
      go_wp2_with fail
      go_ret
      refine ⟨?_, rfl⟩
      rw [HR.out]
      first | done | rfl
    · have hR : R = -1 := by rw [HRN.out]; exact if_neg (by omega)
      have HR := Lib.hid hR
      clear hR HRN
      go_enter Tryd.func37, Tryd.ntmps37
      go_wp2_with fail
      go_ret
      refine ⟨?_, rfl⟩
      rw [HR.out]
      first | done | rfl
    · have hR : R = -1 := by rw [HRN.out]; exact if_neg (by omega)
      have HR := Lib.hid hR
      clear hR HRN
      go_enter Tryd.func37, Tryd.ntmps37
      go_wp2_with fail
      go_ret
      refine ⟨?_, rfl⟩
      rw [HR.out]
      first | done | rfl
    · have hR : R = -1 := by rw [HRN.out]; exact if_neg (by omega)
      have HR := Lib.hid hR
      clear hR HRN
      go_enter Tryd.func37, Tryd.ntmps37
      go_wp2_with fail
      go_ret
      refine ⟨?_, rfl⟩
      rw [HR.out]
      first | done | rfl
  · have hl2 : ¬ (t.length : Int) = 2 := by omega
    have hl3 : ((t.length : Int) == 2) = false := by simpa using hl2
    go_enter Tryd.func37, Tryd.ntmps37
    go_wp2_with fail
    go_ret
    refine ⟨?_, rfl⟩
    have : Sy.regN t = -1 := by
      unfold Sy.regN
      split
      · exact absurd rfl hl
      · rfl
    rw [this]
    rfl
abbrev woRow : Array Value := #[.string ⟨#[119, 105, 100, 116, 104]⟩, .string ⟨#[119, 105, 110, 100, 111, 119]⟩, .string ⟨#[102, 117, 101, 108]⟩, .string ⟨#[112, 117, 98, 108, 105, 99]⟩, .string ⟨#[115, 101, 99, 114, 101, 116]⟩, .string ⟨#[109, 111, 118]⟩, .string ⟨#[108, 111, 97, 100]⟩, .string ⟨#[115, 116, 111, 114, 101]⟩, .string ⟨#[99, 109, 111, 118]⟩, .string ⟨#[98, 114]⟩, .string ⟨#[106, 109, 112]⟩, .string ⟨#[99, 97, 108, 108]⟩, .string ⟨#[105, 110, 100]⟩, .string ⟨#[114, 101, 116]⟩, .string ⟨#[102, 101, 110, 99, 101]⟩, .string ⟨#[104, 97, 108, 116]⟩]
theorem wo_cell {W : World} {b : Nat} (hb : W.heap[b]? = some (.cells woRow 9 (0, 0))) (k : Nat) (h : k < 16) : ∃ x, Sy.words[k]? = some x ∧ W.cell? ⟨b, k, none⟩ = some (.string (strOfNums x)) ∧ (∀ y ∈ x, 0 ≤ y ∧ y < 256) := by
  rw [cell_of_row _ _ _ _ _ _ hb]
  rcases (by omega : k = 0 ∨ k = 1 ∨ k = 2 ∨ k = 3 ∨ k = 4 ∨ k = 5 ∨ k = 6 ∨ k = 7 ∨ k = 8 ∨ k = 9 ∨ k = 10 ∨ k = 11 ∨ k = 12 ∨ k = 13 ∨ k = 14 ∨ k = 15) with rfl | rfl | rfl | rfl | rfl | rfl | rfl | rfl | rfl | rfl | rfl | rfl | rfl | rfl | rfl | rfl
  all_goals exact ⟨_, rfl, rfl, by decide⟩
set_option maxRecDepth 100000 in
set_option maxHeartbeats 4000000 in
theorem rword_any (t : List Int) (w : World) (ht : ∀ y ∈ t, 0 ≤ y ∧ y < 256) : Calls Tryd.prog 40 #[.string (strOfNums t)] w (RetB (.bool (Sy.isWord t)) w) := by
  have hop := fun W => rop_any t W ht
  have hrg := fun W => rreg_any t W ht
  have HOP := Lib.hid hop; have HRG := Lib.hid hrg
  clear hop hrg
  go_enter Tryd.func40, Tryd.ntmps40
  go_wp2_with fail
  have hb := heap_alloc_new w (.cells woRow 9)
  have hbw := upA (up0 w) (.cells woRow 9)
  generalize w.alloc (.cells woRow 9) = W at *
  have HB := Lib.hid hb
  clear hb
  go_loop [4] (fun v4 => ∃ i : Nat, v4 = .int .i64 (i : Int) ∧ i ≤ 16 ∧ ∀ j, j < i → Sy.words[j]? ≠ some t) (fun v4 => 16 - (intOf v4).toNat)
  case atStart => exact ⟨0, rfl, by omega, fun j hj => by omega⟩
  case round =>
    obtain ⟨i, rfl, hi, hno⟩ := hrel
    by_cases hil : i < 16
    · obtain ⟨x, hx, hc, hxb⟩ := wo_cell HB.out i hil
      have i1 : (i : Int) < 16 := by omega
      have i0 : (0 : Int) ≤ (i : Int) := by omega
      have HNO := Lib.hid hno
      clear hno
      have hq := str_beq2 hxb ht
      by_cases hxt : x = t
      · rw [decide_eq_true hxt] at hq
        have hv : Sy.isWord t = true := by
          have hm : t ∈ Sy.words := by rw [← hxt]; exact List.mem_of_getElem? hx
          have : Sy.words.contains t = true := List.contains_iff_mem.2 hm
          unfold Sy.isWord
          rw [this]
          rfl
        have HV := Lib.hid hv
        clear hv hxt
        go_wp2_with fail
        go_ret
        exact ⟨by rw [HV.out]; rfl, hbw⟩
      · rw [decide_eq_false hxt] at hq
        have HXT := Lib.hid hxt; have HX := Lib.hid hx
        clear hxt hx
        go_wp2_with fail
        refine ⟨⟨i + 1, by go_num, by omega, fun j hj => ?_⟩, by simp [intOf]; omega⟩
        rcases Nat.lt_or_ge j i with h1 | h1
        · exact HNO.out j h1
        · have h2 : j = i := by omega
          rw [h2, HX.out]
          intro h3
          injection h3 with h3
          exact HXT.out h3
    · have i1 : ¬ (i : Int) < 16 := by omega
      have hm : Sy.words.contains t = false := by
        rw [Bool.eq_false_iff]
        intro hc
        obtain ⟨k, hk, he⟩ := List.getElem_of_mem (List.contains_iff_mem.1 hc)
        have hk' : k < 16 := hk
        exact hno k (by omega) (by rw [List.getElem?_eq_getElem hk, he])
      have hv : Sy.isWord t = (decide (0 < Sy.opN t) || decide (0 ≤ Sy.regN t)) := by
        unfold Sy.isWord
        rw [hm]
        rfl
      have HV := Lib.hid hv
      clear hv hm hno
      by_cases h1 : 0 < Sy.opN t
      · have H1 := Lib.hid h1
        go_wp2_with (go_at_call 58; refine (HOP.out _).mono ?_; rintro e w2 ⟨rfl, hb2⟩)
        go_ret
        exact ⟨by rw [HV.out, decide_eq_true H1.out]; rfl, upT hbw hb2⟩
      · have H1 := Lib.hid h1
        by_cases h2 : 0 ≤ Sy.regN t
        all_goals
          have H2 := Lib.hid h2
          go_wp2_with (first
            | (go_at_call 58; refine (HOP.out _).mono ?_; rintro e w2 ⟨rfl, hb2⟩)
            | (go_at_call 37; refine (HRG.out _).mono ?_; rintro e w3 ⟨rfl, rfl⟩))
          go_ret
          exact ⟨by rw [HV.out]; first | rfl | (rw [decide_eq_true H2.out, Bool.or_true]; rfl), upT hbw hb2⟩
end Go.Proofs.YtcpbbkpfickfiaaDoor
