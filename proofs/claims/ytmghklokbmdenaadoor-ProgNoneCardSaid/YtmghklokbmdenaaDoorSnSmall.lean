/- Contracts of the landed syns's opOf, regOf, opText, isWord. -/
import Derived.Test.YtmghklokbmdenaaDoorSnTab
import Derived.Test.YtmghklokbmdenaaDoorSyRef1
set_option linter.unusedVariables false
set_option linter.unusedSimpArgs false
namespace Go.Proofs.YtmghklokbmdenaaDoor
open Go.RowKit
abbrev IB (n : Int) (b : Bool) : Value := .tuple #[.int .i64 n, .bool b]
set_option maxRecDepth 100000 in
set_option maxHeartbeats 4000000 in
theorem op_any (t : List Int) (w : World) (T : Sn.Tab w) (ht : ∀ y ∈ t, 0 ≤ y ∧ y < 256) : Calls Tryd.prog 59 #[.string (strOfNums t)] w (RetB (IB (Sy.opN t) (decide (0 < Sy.opN t))) w) := by
  obtain ⟨tt, fr, ho⟩ := T.o
  have HO := Lib.hid ho
  clear ho T
  go_enter Tryd.func59, Tryd.ntmps59
  go_wp2_with (refine wpList_load_row (o := ⟨_, .load 120 (.global 2), _, _, _, none⟩) rfl _ _ rfl 2 rfl _ _ _ _ HO.out Tryd.underlying120 rfl Sn.infoOps ?_)
  have hsz : Sn.opsC.size = 11 := by decide +kernel
  have hrow := fun k hk => Sn.ops_index (k := k) hk
  have HROW := Lib.hid hrow
  clear hrow
  generalize Sn.opsC = C at *
  go_loop [7] (fun v7 => ∃ i : Nat, v7 = .int .i64 (i : Int) ∧ i ≤ 11 ∧ ∀ j, j < i → Sn.opsL[j]? ≠ some t) (fun v7 => 11 - (intOf v7).toNat)
  case atStart => exact ⟨0, rfl, by omega, fun j hj => by omega⟩
  case round =>
    obtain ⟨i, rfl, hi, hno⟩ := hrel
    by_cases hil : i < 11
    · obtain ⟨x, hx, hc, hxb⟩ := HROW.out i hil
      have i1 : (i : Int) < 11 := by omega
      have i0 : (0 : Int) ≤ (i : Int) := by omega
      have HNO := Lib.hid hno
      clear hno
      have hq := str_beq2 hxb ht
      by_cases hxt : x = t
      · rw [decide_eq_true hxt] at hq
        have hv : Sy.opN t = (i : Int) := by
          cases i with
          | zero => simp [Sn.opsL] at hx; rw [← hxt, hx]; rfl
          | succ i =>
            have := Sy.opF_hit Sy.ops 1 t i (by rw [← hxt]; exact hx) (fun j hj => by have := HNO.out (j + 1) (by omega); simpa [Sn.opsL] using this)
            show Sy.opF 1 Sy.ops t = _
            omega
        have HV := Lib.hid hv
        clear hv hxt
        have HD := Lib.hid (show decide (0 < (i : Int)) = decide (0 < i) by simp)
        go_wp2_with fail
        go_ret2
        refine ⟨?_, up0 w⟩
        rw [HV.out, HD.out]
        rfl
      · rw [decide_eq_false hxt] at hq
        have HXT := Lib.hid hxt; have HX := Lib.hid hx
        clear hxt hx
        go_wp2_with fail
        refine ⟨⟨i + 1, by go_num, by omega, fun j hj => ?_⟩, by simp [intOf]; omega⟩
        rcases Nat.lt_or_ge j i with h1 | h1
        · exact HNO.out j h1
        · have h2 : j = i := by omega
          rw [h2, HX.out]
          intro h3
          injection h3 with h3
          exact HXT.out h3
    · have i1 : ¬ (i : Int) < 11 := by omega
      have hm := Sy.opF_miss Sy.ops 1 t (fun j => by
        rcases Nat.lt_or_ge j 10 with hj | hj
        · have := hno (j + 1) (by omega); simpa [Sn.opsL] using this
        · rw [List.getElem?_eq_none (by show (Sy.ops).length ≤ j; have : Sy.ops.length = 10 := rfl; omega)]; simp)
      have HM := Lib.hid hm
      clear hm hno
      go_wp2_with fail
      go_ret2
      refine ⟨?_, up0 w⟩
      show _ = Ending.returned (IB (Sy.opF 1 Sy.ops t) (decide (0 < Sy.opF 1 Sy.ops t)))
      rw [HM.out]
      rfl
set_option maxRecDepth 100000 in
theorem reg_any (t : List Int) (w : World) (ht : ∀ y ∈ t, 0 ≤ y ∧ y < 256) : Calls Tryd.prog 60 #[.string (strOfNums t)] w (Ret (IB (Sn.rv t) (decide (0 ≤ Sy.regN t))) w) := by
  have hsz := strOfNums_size t
  unfold Sn.rv
  by_cases hl : t.length = 2
  · obtain ⟨a, b, rfl⟩ : ∃ a b, t = [a, b] := by
      match t, hl with
      | [a, b], _ => exact ⟨a, b, rfl⟩
    have ha := ht a (by simp)
    have hb := ht b (by simp)
    have e0 : ∀ h, ((((strOfNums [a, b])[0]'h).toNat : Nat) : Int) = a := fun h => by
      show (((UInt8.ofNat a.toNat).toNat : Nat) : Int) = a
      simp
      omega
    have e1 : ∀ h, ((((strOfNums [a, b])[1]'h).toNat : Nat) : Int) = b := fun h => by
      show (((UInt8.ofNat b.toNat).toNat : Nat) : Int) = b
      simp
      omega
    have hrn : Sy.regN [a, b] = if a = 114 ∧ 48 ≤ b ∧ b ≤ 51 then b - 48 else -1 := rfl
    have HRN := Lib.hid hrn
    clear hrn
    generalize Sy.regN [a, b] = R at *
    generalize strOfNums [a, b] = S at *
    have hsz2 : S.size = 2 := hsz
    clear hsz ht
    rcases (by omega : (a = 114 ∧ 48 ≤ b ∧ b ≤ 51) ∨ (a = 114 ∧ 48 ≤ b ∧ 51 < b) ∨ (a = 114 ∧ b < 48) ∨ a ≠ 114) with ⟨rfl, h2, h3⟩ | ⟨rfl, h2, h3⟩ | ⟨rfl, h2⟩ | h2
    · have hR : R = b - 48 := by rw [HRN.out]; exact if_pos ⟨rfl, h2, h3⟩
      have hR0 : 0 ≤ R := by omega
      rw [if_pos hR0, decide_eq_true hR0]
      have HR := Lib.hid hR
      clear hR hR0 HRN
      go_enter Tryd.func60, Tryd.ntmps60
      go_wp2_with fail
      go_ret2
      refine ⟨?_, rfl⟩
      rw [HR.out]
      first | done | rfl
    all_goals
      have hR : R = -1 := by rw [HRN.out]; exact if_neg (by omega)
      have hR0 : ¬ 0 ≤ R := by omega
      rw [if_neg hR0, decide_eq_false hR0]
      clear hR hR0 HRN
      go_enter Tryd.func60, Tryd.ntmps60
      go_wp2_with fail
      go_ret2
      exact ⟨rfl, rfl⟩
  · have hl2 : ¬ (t.length : Int) = 2 := by omega
    have hl3 : ((t.length : Int) == 2) = false := by simpa using hl2
    have hR : Sy.regN t = -1 := by
      unfold Sy.regN
      split
      · exact absurd rfl hl
      · rfl
    rw [hR, if_neg (by decide)]
    clear hR
    go_enter Tryd.func60, Tryd.ntmps60
    go_wp2_with fail
    go_ret2
    exact ⟨rfl, rfl⟩
/-- what stands for an op -/
def opTx (n : Int) : List Int := if 0 ≤ n ∧ n < 11 then Sn.opsL.getD n.toNat [] else []
set_option maxRecDepth 100000 in
set_option maxHeartbeats 4000000 in
theorem opText_any (n : Int) (w : World) (T : Sn.Tab w) : Calls Tryd.prog 74 #[.int .i64 n] w (RetB (.string (strOfNums (opTx n))) w) := by
  obtain ⟨tt, fr, ho⟩ := T.o
  clear T
  unfold opTx
  by_cases h1 : 0 ≤ n
  · by_cases h2 : n < 11
    · obtain ⟨k, rfl⟩ : ∃ k : Nat, n = k := ⟨n.toNat, by omega⟩
      rw [if_pos ⟨h1, h2⟩, Int.toNat_natCast]
      have hk : k < 11 := by omega
      obtain ⟨x, hx, hc, hxb⟩ := Sn.ops_row hk
      have hcell : w.cell? ⟨2, k, none⟩ = some (.string (strOfNums x)) := by rw [cell_of_row _ _ _ _ _ _ ho]; exact hc
      have hg : Sn.opsL.getD k [] = x := by simp [List.getD, hx]
      have HG := Lib.hid hg
      clear hg ho hc hx
      go_enter Tryd.func74, Tryd.ntmps74
      go_wp2_with fail
      go_ret
      refine ⟨?_, up0 w⟩
      rw [HG.out]
      rfl
    · rw [if_neg (fun h => h2 h.2)]
      have h3 : 11 ≤ n := by omega
      go_enter Tryd.func74, Tryd.ntmps74
      go_wp2_with fail
      go_ret
      exact ⟨rfl, up0 w⟩
  · rw [if_neg (fun h => h1 h.1)]
    have h3 : n < 0 := by omega
    go_enter Tryd.func74, Tryd.ntmps74
    go_wp2_with fail
    go_ret
    exact ⟨rfl, up0 w⟩
theorem word_mem {t : List Int} : Sn.forms.any (fun f => decide (f.word = t)) = true ↔ ∃ k : Nat, ∃ f, Sn.forms[k]? = some f ∧ f.word = t := by
  rw [List.any_eq_true]
  constructor
  · rintro ⟨f, hf, h⟩
    obtain ⟨k, hk, e⟩ := List.getElem_of_mem hf
    exact ⟨k, f, by rw [List.getElem?_eq_getElem hk, e], of_decide_eq_true h⟩
  · rintro ⟨k, f, hk, h⟩
    exact ⟨f, List.mem_of_getElem? hk, decide_eq_true h⟩
set_option maxRecDepth 100000 in
set_option maxHeartbeats 4000000 in
theorem word_any (t : List Int) (w : World) (T : Sn.Tab w) (ht : ∀ y ∈ t, 0 ≤ y ∧ y < 256) : Calls Tryd.prog 68 #[.string (strOfNums t)] w (RetB (.bool (Sn.isWordL t)) w) := by
  have T0 := Lib.hid T
  obtain ⟨tt, fr, ho⟩ := T.f
  have HO := Lib.hid ho
  clear ho T
  go_enter Tryd.func68, Tryd.ntmps68
  go_wp2_with (refine wpList_load_row (o := ⟨_, .load 69 (.global 0), _, _, _, none⟩) rfl _ _ rfl 0 rfl _ _ _ _ HO.out Tryd.underlying69 rfl (by rw [Sn.forms_size]; exact Sn.infoForms) ?_)
  have hrow := fun k hk => Sn.forms_index (k := k) hk
  have HROW := Lib.hid hrow
  clear hrow HO
  generalize Sn.formsC = C at *
  go_loopw [8] (fun v8 wx => ∃ i : Nat, v8 = .int .i64 (i : Int) ∧ i ≤ 20 ∧ Below w.heap.size w wx ∧ ∀ (j : Nat) f, j < i → Sn.forms[j]? = some f → f.word ≠ t) (fun v8 _ => 20 - (intOf v8).toNat)
  case atStart => exact ⟨0, rfl, by omega, up0 w, fun j f hj => by omega⟩
  case round =>
    obtain ⟨i, rfl, hi, hbw, hno⟩ := hrel
    by_cases hil : i < 20
    · obtain ⟨x, hx, hix⟩ := HROW.out i hil
      have hxb : ∀ y ∈ x.word, 0 ≤ y ∧ y < 256 := fun y hy => by have := (Sn.form_bytes (List.mem_of_getElem? hx)).1 y hy; omega
      have i1 : (i : Int) < 20 := by omega
      have i0 : (0 : Int) ≤ (i : Int) := by omega
      have HNO := Lib.hid hno
      clear hno
      have hq := str_beq2 hxb ht
      obtain ⟨xw, xr, xk, xi, xo, xs⟩ := x
      simp only at hix hq hxb
      by_cases hxt : xw = t
      · rw [decide_eq_true hxt] at hq
        have hv : Sn.isWordL t = true := by
          unfold Sn.isWordL
          rw [word_mem.2 ⟨i, _, hx, hxt⟩]
          rfl
        have HV := Lib.hid hv
        clear hv hxt
        go_wp2_with fail
        go_ret
        refine ⟨?_, upA hbw _⟩
        rw [HV.out]
        rfl
      · rw [decide_eq_false hxt] at hq
        have HXT := Lib.hid hxt; have HX := Lib.hid hx
        clear hxt hx
        go_wp2_with fail
        go_roundw
        case rel =>
          refine ⟨i + 1, by go_num, by omega, upA hbw _, fun j f hj hf => ?_⟩
          rcases Nat.lt_or_ge j i with h1 | h1
          · exact HNO.out j f h1 hf
          · have h2 : j = i := by omega
            rw [h2, HX.out] at hf
            injection hf with hf
            rw [← hf]
            exact HXT.out
        case measure => simp [intOf]; omega
    · have i1 : ¬ (i : Int) < 20 := by omega
      have hm : Sn.forms.any (fun f => decide (f.word = t)) = false := by
        rw [Bool.eq_false_iff]
        intro hc
        obtain ⟨k, f, hk, he⟩ := word_mem.1 hc
        have hk' : k < 20 := (List.getElem?_eq_some_iff.1 hk).1
        exact hno k f (by omega) hk he
      have hv : Sn.isWordL t = decide (0 < Sy.opN t) := by
        unfold Sn.isWordL
        rw [hm]
        rfl
      have HV := Lib.hid hv
      clear hv hm hno
      go_wp2_with (go_at_call 59; refine (op_any t _ (T0.out.below hbw) ht).mono ?_; rintro e w2 ⟨rfl, hb2⟩)
      go_ret
      refine ⟨?_, upT hbw hb2⟩
      rw [HV.out]
      rfl
end Go.Proofs.YtmghklokbmdenaaDoor
