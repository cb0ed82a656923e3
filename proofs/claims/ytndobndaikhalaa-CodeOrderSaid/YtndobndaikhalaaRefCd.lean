/- Contracts of the document's own words (package auguryref1), as layer 2 reaches them. -/
import Derived.Test.YtndobndaikhalaaCode3
import Derived.Deep.QuietTactic
import Derived.BigQuiet
set_option linter.unusedVariables false
set_option linter.unusedSimpArgs false
namespace Go.Proofs.Ytndobndaikhalaa
open Go.RowKit
theorem ne_at {xs ys : List Int} {k : Nat} (hne : xs.getD k 0 ≠ ys.getD k 0) : (xs == ys) = false := by
  rw [beq_eq_false_iff_ne]
  rintro rfl
  exact hne rfl
set_option maxHeartbeats 1000000 in
theorem same_any (A A' : Option Addr) (B c c' n n' : Nat) (xs ys : List Int) (w : World) (hn : n = xs.length) (hn' : n' = ys.length) (hx : Rd w B A (xs.map (Value.int .i64))) (hy : Rd w B A' (ys.map (Value.int .i64))) (hm : n ≤ 1000000) (hm' : n' ≤ 1000000) :
    Calls Try.prog 11 #[.slice A n c, .slice A' n' c'] w (RetQ (.bool (xs == ys)) w) := by
  subst hn hn'
  by_cases hl : xs.length = ys.length
  · have HL := Lib.hid hl
    have hl1 : xs.length ≤ ys.length := by omega
    have hl2 : ys.length ≤ xs.length := by omega
    have hl3 : ((xs.length : Int) != (ys.length : Int)) = false := by simp [hl]
    clear hl
    go_enter Try.func11, Try.ntmps11
    go_wp2
    go_loopw [5] (fun v wr => ∃ k : Nat, k ≤ xs.length ∧ v = .int .i64 k ∧ (∃ q, wr = w.drewN q) ∧ xs.take k = ys.take k) (fun v _ => xs.length - (intOf v).toNat)
    case atStart => exact ⟨0, by omega, rfl, ⟨0, rfl⟩, rfl⟩
    case round =>
      obtain ⟨k, hk, rfl, ⟨q, rfl⟩, he⟩ := hrel
      have HE := Lib.hid he
      clear he
      by_cases hlt : k < xs.length
      · obtain ⟨ad, rfl, hb, hc⟩ := hx.at_ (k := k) (by omega)
        obtain ⟨ad', rfl, hb', hc'⟩ := hy.at_ (k := k) (by omega)
        have i1 : 0 ≤ (k : Int) := by omega
        have i2 : (k : Int) < (xs.length : Int) := by omega
        have i3 : (k : Int) < (ys.length : Int) := by omega
        have hsx := take_snoc xs k hlt
        have hsy := take_snoc ys k (by omega)
        have hne := ne_at (xs := xs) (ys := ys) (k := k)
        generalize xs.getD k 0 = x at hc hsx hne
        generalize ys.getD k 0 = y at hc' hsy hne
        have HX := Lib.hid hsx
        have HY := Lib.hid hsy
        clear hsx hsy
        by_cases hxy : x = y
        · have hxy' : (x != y) = false := by simpa using hxy
          have HXY := Lib.hid hxy
          clear hxy hne
          go_wp2
          go_quiet (fail)
          go_wp2
          go_roundw
          case rel => exact ⟨k + 1, by omega, by go_num, ⟨_, rfl⟩, by rw [HX.out, HY.out, HE.out, HXY.out]⟩
          case measure => simp [intOf]; omega
        · have hxy' : (x != y) = true := by simpa using hxy
          have hf := hne hxy
          have HF := Lib.hid hf
          clear hxy hne hf
          go_wp2
          go_quiet (fail)
          go_wp2
          go_ret
          exact RetQ.b rfl HF.out.symm (World.drewN_drewN _ _ _)
      · go_wp2
        go_ret
        have hk' : k = xs.length := by omega
        have he := HE.out
        rw [List.take_of_length_le (by omega), List.take_of_length_le (by omega)] at he
        exact RetQ.b rfl (by simp [he]) rfl
  · have hl3 : ((xs.length : Int) != (ys.length : Int)) = true := by simp; omega
    go_enter Try.func11, Try.ntmps11
    go_wp2
    go_ret
    exact RetQ.b (q := 0) rfl (by symm; rw [beq_eq_false_iff_ne]; rintro rfl; exact hl rfl) rfl

theorem str_eq {xs ys : List Int} (hx : Cd.isB xs) (hy : Cd.isB ys) : strOfNums xs = strOfNums ys ↔ xs = ys := by
  constructor
  · intro h
    have h1 := congrArg (fun s : ByteArray => s.data.toList) h
    exact Cd.bytesOf_inj hx hy (by simpa [strOfNums, Lib.bytesOf] using h1)
  · rintro rfl; rfl
theorem strOfNums_toList' (xs : List Int) : (strOfNums xs).toList = Lib.bytesOf xs := Lib.strOfNums_toList xs
theorem str_beq {xs ys : List Int} (hx : Cd.isB xs) (hy : Cd.isB ys) : ((strOfNums xs).toList == (strOfNums ys).toList) = (xs == ys) := by
  rw [strOfNums_toList', strOfNums_toList', Bool.eq_iff_iff, beq_iff_eq, beq_iff_eq]
  exact ⟨Cd.bytesOf_inj hx hy, fun h => by rw [h]⟩
theorem bytesLess_eq : ∀ (a b : List UInt8), Op.bytesLess a b = decide (Lib.compareBytes a b < 0)
  | [], [] => rfl
  | [], _ :: _ => rfl
  | _ :: _, [] => rfl
  | x :: a, y :: b => by
    have ih := bytesLess_eq a b
    simp only [Op.bytesLess, Lib.compareBytes]
    by_cases h1 : x < y
    · simp [h1]
    · by_cases h2 : y < x
      · have : x ≠ y := by rintro rfl; exact h1 h2
        simp [h1, h2, this]
      · have : x = y := UInt8.le_antisymm (UInt8.not_lt.1 h2) (UInt8.not_lt.1 h1)
        simp [h1, h2, this, ih]
theorem rsame_any (A A' : Option Addr) (B c c' n n' : Nat) (xs ys : List Int) (w : World) (hn : n = xs.length) (hn' : n' = ys.length) (hx : Rd w B A (xs.map (Value.int .u8))) (hy : Rd w B A' (ys.map (Value.int .u8))) (h1 : Cd.isB xs) (h2 : Cd.isB ys) :
    Calls Try.prog 14 #[.slice A n c, .slice A' n' c'] w (Ret (.bool (xs == ys)) w) := by
  subst hn hn'
  have k1 := conv_any (P := Try.prog) (c := c) hx rfl 24 5 9 Try.underlying24 Try.underlying5 Try.underlying9
  have k2 := conv_any (P := Try.prog) (c := c') hy rfl 24 5 9 Try.underlying24 Try.underlying5 Try.underlying9
  go_enter Try.func14, Try.ntmps14
  go_wp2
  go_ret
  exact Ret.b rfl (str_beq h1 h2)
theorem rless_any (A A' : Option Addr) (B n n' c c' : Nat) (xs ys : List Int) (w : World) (hn : n = xs.length) (hn' : n' = ys.length) (hx : Rd w B A (xs.map (Value.int .u8))) (hy : Rd w B A' (ys.map (Value.int .u8))) :
    Calls Try.prog 16 #[.slice A n c, .slice A' n' c'] w (Ret (.bool (Cd.lessB xs ys)) w) := by
  subst hn hn'
  have k1 := conv_any (P := Try.prog) (c := c) hx rfl 24 5 9 Try.underlying24 Try.underlying5 Try.underlying9
  have k2 := conv_any (P := Try.prog) (c := c') hy rfl 24 5 9 Try.underlying24 Try.underlying5 Try.underlying9
  by_cases hl : xs.length = ys.length
  · have hl3 : ((xs.length : Int) != (ys.length : Int)) = false := by simp [hl]
    have HL := Lib.hid hl
    clear hl
    go_enter Try.func16, Try.ntmps16
    go_wp2
    go_ret
    exact Ret.b rfl (by rw [Cd.lessB, if_pos HL.out, strOfNums_toList', strOfNums_toList', bytesLess_eq])
  · have hl3 : ((xs.length : Int) != (ys.length : Int)) = true := by simp; omega
    go_enter Try.func16, Try.ntmps16
    go_wp2_with fail
    go_ret
    exact Ret.b rfl (by rw [Cd.lessB, if_neg hl])
end Go.Proofs.Ytndobndaikhalaa
