/- Contracts of slices.Grow, slices.Concat and slices.Clone at rows of numbers. -/
import Derived.Test.YtdbnfdcjibgikaaRetW
import Derived.Test.YtdbnfdcjibgikaaMem2
import Derived.Lib.AppendZeros
import Derived.Deep.QuietTactic
import Derived.Laws.Rows
set_option linter.unusedVariables false
set_option linter.unusedSimpArgs false
namespace Go.Proofs.Ytdbnfdcjibgikaa
open Go.RowKit
theorem grow_own (w : World) (n cap : Nat) (h0 : n ≤ cap) (hc : cap ≤ maxLen) : (w.drew.alloc (.cells (Builtin.zeroCells #[.int .i64 0] n ++ Builtin.zeroCells #[.int .i64 0] (cap - n)) 3)).ownsRow w.heap.size 3 1 (.slice (some ⟨w.heap.size, 0, none⟩) 0 cap) 0 [] := by
  refine ⟨rfl, .inr ⟨w.heap.size, cap, Builtin.zeroCells #[.int .i64 0] n ++ Builtin.zeroCells #[.int .i64 0] (cap - n), rfl, Nat.le_refl _, ?_, by omega, hc, ?_, by simp⟩⟩
  · exact heap_alloc_new w.drew _
  · simp [Builtin.zeroCells]; omega
set_option maxHeartbeats 2000000 in
theorem grow_any (n : Nat) (w : World) (h0 : 0 < n) (hn : n ≤ 1000000) :
    Calls Try.prog 35 #[.slice none 0 0, .int .i64 n] w (fun e w' => ∃ v, e = .returned v ∧ w'.ownsRow w.heap.size 3 1 v 0 [] ∧ Below w.heap.size w w') := by
  obtain ⟨i0, hi0, hz0, hs0, hb0⟩ := info_parts infoI
  have hrun := Lib.run_append_nil_zeros (P := Try.prog) w 42 3 42 3 i0 (.int .i64 0) .i64 .i64 rfl rfl hi0 hz0 n h0 (by omega) (by omega) (by rw [hb0]; omega)
  have hge := grownCap_ge w n 0 3
  have hle := grownCap_le_maxLen w n 0 3 (by simp only [maxLen]; omega)
  go_enter Try.func35, Try.ntmps35
  go_wp2_with (at_builtin; refine Lib.wpList_append_run _ rfl _ _ _ _ rfl _ _ rfl rfl _ _ hrun ?_)
  go_ret
  refine ⟨_, rfl, ?_, ?_⟩
  · exact grow_own w n _ hge hle
  · exact upA (upD (up0 w) 1) _
/-- a slice of numbers: where it lies, its capacity, what it reads as -/
abbrev Part := Option Addr × Nat × List Int
def Part.v (p : Part) : Value := .slice p.1 p.2.2.length p.2.1
def tot : List Part → Nat
  | [] => 0
  | p :: l => p.2.2.length + tot l
def allP : List Part → List Int
  | [] => []
  | p :: l => p.2.2 ++ allP l
def pd : Part := (none, 0, [])
theorem tot_take {l : List Part} {k : Nat} (h : k < l.length) : tot (l.take (k + 1)) = tot (l.take k) + (l.getD k pd).2.2.length := by
  induction l generalizing k with
  | nil => simp at h
  | cons p l ih =>
    cases k with
    | zero => simp [tot]
    | succ k =>
      have := ih (k := k) (by simpa using h)
      simp only [List.take_succ_cons, tot, this, List.getD_cons_succ]
      omega
theorem allP_take {l : List Part} {k : Nat} (h : k < l.length) : allP (l.take (k + 1)) = allP (l.take k) ++ (l.getD k pd).2.2 := by
  induction l generalizing k with
  | nil => simp at h
  | cons p l ih =>
    cases k with
    | zero => simp [allP]
    | succ k =>
      have := ih (k := k) (by simpa using h)
      simp only [List.take_succ_cons, allP, this, List.getD_cons_succ, List.append_assoc]
theorem tot_le (l : List Part) (k : Nat) : tot (l.take k) ≤ tot l := by
  induction l generalizing k with
  | nil => simp
  | cons p l ih =>
    cases k with
    | zero => simp [tot]
    | succ k => simp only [List.take_succ_cons, tot]; have := ih k; omega
theorem allP_len (l : List Part) : (allP l).length = tot l := by
  induction l with
  | nil => rfl
  | cons p l ih => simp [allP, tot, ih]
theorem part_at {w : World} {B : Nat} {A : Option Addr} {l : List Part} (h : Rd w B A (l.map Part.v)) {k : Nat} (hk : k < l.length) :
    ∃ ad, A = some ad ∧ ad.block < B ∧ w.cell? (ad.add k) = some (.slice (l.getD k pd).1 (l.getD k pd).2.2.length (l.getD k pd).2.1) := by
  obtain ⟨ad, e, hb, hc⟩ := h (by simp; omega)
  refine ⟨ad, e, hb, hc k _ ?_⟩
  simp [List.getD, hk, Part.v]
set_option maxHeartbeats 2000000 in
theorem concat_any (A : Option Addr) (n c : Nat) (l : List Part) (w : World) (hn : n = l.length) (hr : Rd w w.heap.size A (l.map Part.v)) (hp : ∀ k, k < l.length → Rd w w.heap.size (l.getD k pd).1 ((l.getD k pd).2.2.map (Value.int .i64))) (h0 : 0 < tot l) (ht : tot l ≤ 1000000) (hl : l.length ≤ 1000) :
    Calls Try.prog 26 #[.slice A n c] w (RetOwn w.heap.size 3 ((allP l).map (Value.int .i64)) w) := by
  subst hn
  obtain ⟨i0, hi0, hz0, hs0, hb0⟩ := info_parts infoI
  go_enter Try.func26, Try.ntmps26
  go_wp2_with fail
  go_loopw [3, 11] (fun s i wr => ∃ k : Nat, k ≤ l.length ∧ i = .int .i64 k ∧ s = .int .i64 (tot (l.take k) : Nat) ∧ w = wr) (fun _ i _ => l.length - (intOf i).toNat)
  case atStart => exact ⟨0, by omega, rfl, rfl, rfl⟩
  case round =>
    obtain ⟨k, hk, rfl, rfl, rfl⟩ := hrel
    by_cases hlt : k < l.length
    · obtain ⟨ad, rfl, hb, hc⟩ := part_at hr hlt
      have h1 := tot_take hlt
      have h2 := tot_le l (k + 1)
      obtain ⟨⟨pa, pc, px⟩, hpd⟩ : ∃ p, l.getD k pd = p := ⟨_, rfl⟩
      rw [hpd] at hc h1
      simp only at hc h1
      clear hpd
      go_wp2_with fail
      go_round
      case rel =>
        refine ⟨k + 1, by omega, by go_num, ?_, by first | rfl | trivial⟩
        rw [h1]; go_num
      case measure => simp [intOf]; omega
    · obtain rfl : k = l.length := by omega
      rw [List.take_length]
      go_wp2_with (go_at_call 35; refine (grow_any _ _ h0 ht).mono ?_; rintro e w1 ⟨v1, rfl, hown1, hb1⟩)
      go_loopw [6, 27] (fun v i wr => ∃ k : Nat, k ≤ l.length ∧ i = .int .i64 k ∧ wr.ownsRow w.heap.size 3 1 v (tot (l.take k)) ((allP (l.take k)).map (Value.int .i64)) ∧ Below w.heap.size w wr) (fun _ i _ => l.length - (intOf i).toNat)
      case atStart => exact ⟨0, by omega, rfl, by simpa [tot, allP] using hown1, hb1⟩
      case round =>
        obtain ⟨k, hk, rfl, hown2, hb2⟩ := hrel
        have hs2 := hb2.size
        by_cases hlt : k < l.length
        · obtain ⟨ad, rfl, hb, hc⟩ := part_at (hr.below hb2 (Nat.le_refl _)) hlt
          have hrk := (hp k hlt).below hb2 (Nat.le_refl _)
          have h1 := tot_take hlt
          have h2 := tot_le l (k + 1)
          have h3 := allP_take hlt
          obtain ⟨⟨pa, pc, px⟩, hpd⟩ : ∃ p, l.getD k pd = p := ⟨_, rfl⟩
          rw [hpd] at hc h1 hrk h3
          simp only at hc h1 hrk h3
          have HA := Lib.hid h3
          clear hpd h3
          go_wp2_with (at_builtin; refine wp_appR _ rfl (.tmp 31) (.tmp 32) _ rfl w.heap.size 3 i0 _ 8 Try.underlying42 hi0 hz0 hs0 hb0 rfl _ _ _ rfl hown2 w.heap.size _ _ _ _ rfl (by rw [List.length_map]) hrk (ints_one _ _) (by omega) (by omega) hs2 ?_; intro v3 w3 hown3 hb3)
          go_round
          case rel =>
            refine ⟨k + 1, by omega, by go_num, ?_, hb2.trans hb3⟩
            rw [h1, HA.out, List.map_append]
            exact hown3
          case measure => simp [intOf]; omega
        · obtain rfl : k = l.length := by omega
          go_wp2
          go_ret
          rw [List.take_length] at hown2
          refine ⟨_, rfl, ?_, hb2⟩
          rw [List.length_map, allP_len]
          exact hown2
set_option maxHeartbeats 2000000 in
theorem clone_any (A : Option Addr) (n c : Nat) (xs : List Int) (w : World) (hn : n = xs.length) (hr : Rd w w.heap.size A (xs.map (Value.int .i64))) (hs : n ≤ 1000000) :
    Calls Try.prog 38 #[.slice A n c] w (RetOwn w.heap.size 3 (xs.map (Value.int .i64)) w) := by
  subst hn
  obtain ⟨i0, hi0, hz0, hs0, hb0⟩ := info_parts infoI
  cases A with
  | none =>
    have hx : xs = [] := by have := hr.none_nil; simpa using this
    subst hx
    have he : ∀ w : World, (binOp .eql 42 (.slice none 0 c) (.slice none 0 0)).run Try.prog w = .ok (.bool true) w := fun _ => rfl
    go_enter Try.func38, Try.ntmps38
    go_wp2_with fail
    go_ret
    exact ⟨_, rfl, World.ownsRow_nil _ _ _ _, up0 _⟩
  | some ad =>
    have hlit := own_lit1 w 3 _ rfl
    have he : ∀ w : World, (binOp .eql 42 (.slice (some ad) xs.length c) (.slice none 0 0)).run Try.prog w = .ok (.bool false) w := fun _ => rfl
    go_enter Try.func38, Try.ntmps38
    go_wp2_with (at_builtin; refine wp_appR _ rfl (.tmp 5) (.tmp 6) _ rfl w.heap.size 3 i0 _ 8 Try.underlying42 hi0 hz0 hs0 hb0 rfl _ 0 [] rfl hlit (w.alloc (.cells #[] 3)).heap.size (some ad) xs.length c (xs.map (Value.int .i64)) rfl (by simp) (hr.allocT _) (ints_one _ _) (by omega) (by omega) (by simp) ?_; intro v1 w1 hown1 hb1)
    go_ret
    refine ⟨_, rfl, ?_, (upA (up0 w) _).trans hb1⟩
    have := own_zero hown1
    rwa [List.length_map]
end Go.Proofs.Ytdbnfdcjibgikaa
