/- Contracts of package code's functions, as they are reached here. -/
import Derived.Test.YtdbnfdcjibgikaaRetW
import Derived.Test.YtdbnfdcjibgikaaCdMath
import Derived.Deep.QuietTactic
import Derived.BigQuiet
import Derived.Outline
set_option linter.unusedVariables false
set_option linter.unusedSimpArgs false
namespace Go.Proofs.Ytdbnfdcjibgikaa
open Go.RowKit
theorem narrow_any (n : Int) (w : World) : Calls Try.prog 40 #[.int .i64 n] w (Ret (.bool (Cd.nrB n)) w) := by
  by_cases h1 : -1 ≤ n
  all_goals by_cases h2 : n ≤ 253
  all_goals
    go_enter Try.func40, Try.ntmps40
    go_wp2
    go_ret
    exact Ret.b rfl (by simp [Cd.nrB]; omega)

theorem eight_snoc (m : Int) (k : Nat) (h : k < 8) : (Cd.eight m).take (k + 1) = (Cd.eight m).take k ++ [Cd.byteAt m k] := by
  rw [List.take_succ_eq_append_getElem (by rw [Cd.eight_len]; exact h)]
  simp [Cd.eight]
theorem byteAt_w (m : Int) (k : Nat) : IntKind.u64.wrap m / 2 ^ (8 * (7 - k)) % 256 = Cd.byteAt m k := by unfold Cd.byteAt; rw [IntKind.wrap_u64]
theorem RetOwn.mk {B : Nat} {t : TypeId} {xs ys : List Value} {n : Nat} {w w' : World} {v : Value} (h : w'.ownsRow B t 1 v n ys) (he : ys = xs) (hb : Below B w w') : RetOwn B t xs w (.returned v) w' := by
  subst he
  have := own_len h
  subst this
  exact ⟨v, rfl, h, hb⟩

set_option maxHeartbeats 1000000 in
theorem put_any (B : Nat) (v : Value) (n : Nat) (xs : List Int) (m : Int) (w : World) (hown : w.ownsRow B 5 1 v n (xs.map (Value.int .u8))) (hB : B ≤ w.heap.size) (hn : n ≤ 1099511627000)
    (h1 : -9223372036854775808 ≤ m) (h2 : m < 9223372036854775808) :
    Calls Try.prog 36 #[v, .int .i64 m] w (RetOwn B 5 ((xs ++ Cd.putN m).map (Value.int .u8)) w) := by
  obtain ⟨i0, hi0, hz0, hs0, hb0⟩ := info_parts infoB
  cases hnr : Cd.nrB m
  · have hp : (xs ++ Cd.putN m).map (Value.int .u8) = (xs.map (Value.int .u8) ++ [Value.int .u8 255]) ++ (Cd.eight m).map (Value.int .u8) := by simp [Cd.putN, hnr]
    have HP := Lib.hid hp
    clear hp
    go_enter Try.func36, Try.ntmps36
    go_wp2_with (first
      | (go_at_call 40; refine (narrow_any _ _).mono ?_; rintro e w' ⟨rfl, rfl⟩)
      | (at_builtin; refine wp_app1 _ rfl (.tmp 14) (.tmp 15) _ rfl B 5 i0 _ 1 Try.underlying48 hi0 hz0 hs0 hb0 rfl v n _ rfl hown (.int .u8 255) rfl rfl (by omega) (by omega) hB ?_; intro v1 w1 hown1 hb1))
    go_loopw [0, 5] (fun v i wr => ∃ k : Nat, k ≤ 8 ∧ i = .int .i64 (7 - k) ∧ wr.ownsRow B 5 1 v (n + 1 + k) ((xs.map (Value.int .u8) ++ [Value.int .u8 255]) ++ ((Cd.eight m).take k).map (Value.int .u8)) ∧ Below B w wr) (fun _ i _ => (intOf i + 1).toNat)
    case atStart => exact ⟨0, by omega, rfl, by simpa using hown1, hb1⟩
    case round =>
      obtain ⟨k, hk, rfl, hown2, hb2⟩ := hrel
      by_cases hlt : k < 8
      · have hB2 : B ≤ wr.heap.size := by have := hb2.size; omega
        go_wp2_with (at_builtin; refine wp_app1 _ rfl (.tmp 21) (.tmp 28) _ rfl B 5 i0 _ 1 Try.underlying48 hi0 hz0 hs0 hb0 rfl _ (n + 1 + k) _ rfl hown2 _ rfl rfl (by omega) (by omega) hB2 ?_; intro v3 w3 hown3 hb3)
        go_round
        case rel =>
          refine ⟨k + 1, by omega, by go_num, ?_, hb2.trans hb3⟩
          rw [eight_snoc m k hlt, List.map_append, List.map_cons, List.map_nil, ← List.append_assoc]
          rw [byteAt_w] at hown3
          exact hown3
        case measure => simp [intOf]; omega
      · have : k = 8 := by omega
        subst this
        go_wp2
        go_ret
        refine RetOwn.mk hown2 ?_ hb2
        rw [HP.out, List.take_of_length_le (by rw [Cd.eight_len]; omega)]
  · have hm := Cd.nrB_iff.1 hnr
    obtain ⟨hm1, hm2⟩ := hm
    have hp : (xs ++ Cd.putN m).map (Value.int .u8) = xs.map (Value.int .u8) ++ [Value.int .u8 (m + 1)] := by simp [Cd.putN, hnr]
    have HP := Lib.hid hp
    clear hp
    go_enter Try.func36, Try.ntmps36
    go_wp2_with (first
      | (go_at_call 40; refine (narrow_any _ _).mono ?_; rintro e w' ⟨rfl, rfl⟩)
      | (at_builtin; refine wp_app1 _ rfl (.tmp 8) (.tmp 12) _ rfl B 5 i0 _ 1 Try.underlying48 hi0 hz0 hs0 hb0 rfl v n _ rfl hown (.int .u8 (m + 1)) rfl rfl (by omega) (by omega) hB ?_; intro v1 w1 hown1 hb1))
    go_ret
    exact RetOwn.mk hown1 HP.out.symm hb1

theorem isI_at {l : List Int} (h : Cd.isI l) {k : Nat} (hk : k < l.length) : -9223372036854775808 ≤ l.getD k 0 ∧ l.getD k 0 < 9223372036854775808 := by
  have := h l[k] (List.getElem_mem hk)
  simpa [List.getD, hk] using this
theorem take_snoc (l : List Int) (k : Nat) (h : k < l.length) : l.take (k + 1) = l.take k ++ [l.getD k 0] := by
  rw [List.take_succ_eq_append_getElem h]
  simp [List.getD, h]
set_option maxHeartbeats 1000000 in
theorem Put_any (A : Option Addr) (n c : Nat) (l : List Int) (w : World) (hn : n = l.length) (hx : Rd w w.heap.size A (l.map (Value.int .i64))) (hl : Cd.isI l) (hs : n ≤ 1000000) :
    Calls Try.prog 27 #[.slice A n c] w (RetOwn w.heap.size 5 ((Cd.putL l).map (Value.int .u8)) w) := by
  subst hn
  obtain ⟨i0, hi0, hz0, hs0, hb0⟩ := info_parts infoB
  go_enter Try.func27, Try.ntmps27
  go_wp2_with (at_make; refine wpList_make_own _ rfl _ _ 48 rfl w.heap.size 5 i0 _ 1 Try.underlying48 hi0 hz0 hs0 _ _ _ l.length rfl rfl (by omega) (by rw [hb0]; omega) (by simp only [maxLen]; omega) (by omega) ?_; intro w1 hown1 hg1)
  have hb1 : Below w.heap.size w w1 := (Below.refl _ _).grown hg1 (by omega) (by simp)
  go_loopw [3, 11] (fun v i wr => ∃ k : Nat, k ≤ l.length ∧ i = .int .i64 k ∧ wr.ownsRow w.heap.size 5 1 v ((Cd.putL (l.take k)).map (Value.int .u8)).length ((Cd.putL (l.take k)).map (Value.int .u8)) ∧ Below w.heap.size w wr) (fun _ i _ => l.length - (intOf i).toNat)
  case atStart => exact ⟨0, by omega, rfl, by simpa [Cd.putL] using hown1, hb1⟩
  case round =>
    obtain ⟨k, hk, rfl, hown2, hb2⟩ := hrel
    have hs2 := hb2.size
    by_cases hlt : k < l.length
    · have hx2 := hx.below hb2 (by omega)
      obtain ⟨ad, rfl, hb, hc⟩ := hx2.at_ (k := k) hlt
      have hz := isI_at hl hlt
      have hlen : ((Cd.putL (l.take k)).map (Value.int .u8)).length ≤ 9000000 := by
        rw [List.length_map]
        have := Cd.putL_len_le (l.take k)
        rw [List.length_take] at this
        omega
      go_wp2_with (go_at_call 36; refine (put_any w.heap.size _ _ _ _ _ hown2 (by omega) (by omega) (by first | exact hz.1 | (simpa [List.getD, hlt] using hz.1)) (by first | exact hz.2 | (simpa [List.getD, hlt] using hz.2))).mono ?_; rintro e w' ⟨v3, rfl, hown3, hb3⟩)
      go_round
      case rel =>
        refine ⟨k + 1, by omega, by go_num, ?_, hb2.trans hb3⟩
        rw [take_snoc l k hlt, Cd.putL_snoc]
        simpa [List.getD, hlt] using hown3
      case measure => simp [intOf]; omega
    · go_wp2
      go_ret
      have hk : k = l.length := by omega
      subst hk
      rw [List.take_of_length_le (by omega)] at hown2
      exact ⟨_, rfl, hown2, hb2⟩
end Go.Proofs.Ytdbnfdcjibgikaa
