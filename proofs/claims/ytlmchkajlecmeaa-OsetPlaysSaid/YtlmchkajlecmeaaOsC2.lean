/- Contracts of bytes.Clone and of the program's own At. -/
import Derived.Test.YtlmchkajlecmeaaOsC1
import Derived.Test.YtlmchkajlecmeaaMem2
set_option linter.unusedVariables false
set_option linter.unusedSimpArgs false
namespace Go.Proofs.Ytlmchkajlecmeaa
open Go.RowKit
set_option maxHeartbeats 2000000 in
theorem clone_any (A : Option Addr) (n c : Nat) (xs : List Int) (w : World) (hn : n = xs.length) (hr : Rd w w.heap.size A (xs.map (Value.int .u8))) (hs : n ≤ 140737488351232) :
    Calls Try.prog 19 #[.slice A n c] w (RetOwn w.heap.size 5 (xs.map (Value.int .u8)) w) := by
  subst hn
  obtain ⟨i0, hi0, hz0, hs0, hb0⟩ := info_parts infoB
  cases A with
  | none =>
    have hx : xs = [] := by have := hr.none_nil; simpa using this
    subst hx
    have he : ∀ w : World, (binOp .eql 25 (.slice none 0 c) (.slice none 0 0)).run Try.prog w = .ok (.bool true) w := fun _ => rfl
    go_enter Try.func19, Try.ntmps19
    go_wp2_with fail
    go_ret
    exact ⟨_, rfl, World.ownsRow_nil _ _ _ _, up0 _⟩
  | some ad =>
    have hlit := own_lit1 w 5 _ rfl
    have he : ∀ w : World, (binOp .eql 25 (.slice (some ad) xs.length c) (.slice none 0 0)).run Try.prog w = .ok (.bool false) w := fun _ => rfl
    go_enter Try.func19, Try.ntmps19
    go_wp2_with (at_builtin; refine wp_appRB _ rfl (.tmp 5) (.tmp 6) _ rfl w.heap.size 5 i0 _ 1 Try.underlying25 hi0 hz0 hs0 hb0 rfl _ 0 [] rfl hlit (w.alloc (.cells #[] 5)).heap.size (some ad) xs.length c (xs.map (Value.int .u8)) rfl (by simp) (hr.allocT _) (ints_one _ _) (by simp only [maxLen]; omega) (by omega) (by simp) ?_; intro v1 w1 hown1 hb1)
    go_ret
    refine ⟨_, rfl, ?_, (upA (up0 w) _).trans hb1⟩
    have := own_zero hown1
    rwa [List.length_map]
theorem RetOwn.sl {B : Nat} {t : TypeId} {k : IntKind} {zs : List Int} {w w' : World} {e : Ending} (h : RetOwn B t (zs.map (Value.int k)) w e w') :
    ∃ A c, e = .returned (.slice A zs.length c) ∧ zs.length ≤ c ∧ c ≤ maxLen ∧ w'.ownsRow B t 1 (.slice A zs.length c) zs.length (zs.map (Value.int k)) ∧ Rd w' w'.heap.size A (zs.map (Value.int k)) ∧ Below B w w' := by
  obtain ⟨v, rfl, hown, hb⟩ := h
  obtain ⟨A, c, rfl, h1, h2, h3, h4⟩ := own_slice hown
  rw [List.length_map] at *
  exact ⟨A, c, rfl, h1, h2, hown, h4, hb⟩
/-- what At answers: the key in new memory; nothing -/
def AtPost (L : List (List Int)) (i : Int) (w : World) (e : Ending) (w' : World) : Prop :=
  if 0 ≤ i ∧ i < (L.length : Int) then ∃ A c, e = .returned (.tuple #[.slice A (Os.keyAt L i.toNat).length c, .bool true]) ∧ (Os.keyAt L i.toNat).length ≤ c ∧ c ≤ maxLen ∧ w'.ownsRow w.heap.size 5 1 (.slice A (Os.keyAt L i.toNat).length c) (Os.keyAt L i.toNat).length ((Os.keyAt L i.toNat).map (Value.int .u8)) ∧ Rd w' w'.heap.size A ((Os.keyAt L i.toNat).map (Value.int .u8)) ∧ Below w.heap.size w w'
  else e = .returned (.tuple #[.slice none 0 0, .bool false]) ∧ w' = w
set_option maxHeartbeats 2000000 in
theorem cat_any (g most : Nat) (L : List (List Int)) (S : Nat → Prop) (i : Int) (w : World) (hS : CSet w g most L S) :
    Calls Try.prog 11 #[.pointer (some ⟨g, 0, none⟩), .int .i64 i] w (AtPost L i w) := by
  obtain ⟨b, rk, R, vK, vR, KS, RS, h⟩ := hS
  have hf := h.few
  rcases Int.lt_or_le i 0 with h0 | h0
  · have hp : AtPost L i w = fun e w' => e = .returned (.tuple #[.slice none 0 0, .bool false]) ∧ w' = w := by
      funext e w'; unfold AtPost; rw [if_neg (by omega)]
    rw [hp]
    clear hp h
    go_enter Try.func11, Try.ntmps11
    go_wp2_with fail
    go_ret2
    exact ⟨rfl, rfl⟩
  · rcases Int.lt_or_le i (L.length : Int) with h1 | h1
    · obtain ⟨k, rfl⟩ : ∃ k : Nat, i = k := ⟨i.toNat, by omega⟩
      obtain ⟨aK, cK, A, c, rfl, hcK, hcell, hr, hc, hm, hB, hl⟩ := h.keyAt (i := k) (by omega)
      have c1 : w.cell? ⟨g, 1, none⟩ = some (.slice (some aK) L.length cK) := h.cell 1
      have hp : AtPost L k w = fun e w' => ∃ A c, e = .returned (.tuple #[.slice A (Os.keyAt L k).length c, .bool true]) ∧ (Os.keyAt L k).length ≤ c ∧ c ≤ maxLen ∧ w'.ownsRow w.heap.size 5 1 (.slice A (Os.keyAt L k).length c) (Os.keyAt L k).length ((Os.keyAt L k).map (Value.int .u8)) ∧ Rd w' w'.heap.size A ((Os.keyAt L k).map (Value.int .u8)) ∧ Below w.heap.size w w' := by
        funext e w'; unfold AtPost; rw [if_pos (by omega)]; simp
      rw [hp]
      clear hp h
      generalize Os.keyAt L k = x at *
      go_enter Try.func11, Try.ntmps11
      go_wp2_with fail
      refine (clone_any A _ c x w rfl hr hl).mono ?_
      intro e w1 hp1
      obtain ⟨A1, c1', rfl, q1, q2, q3, q4, q5⟩ := hp1.sl
      go_wp2_with fail
      go_ret2
      exact ⟨_, _, rfl, q1, q2, q3, q4, q5⟩
    · have hp : AtPost L i w = fun e w' => e = .returned (.tuple #[.slice none 0 0, .bool false]) ∧ w' = w := by
        funext e w'; unfold AtPost; rw [if_neg (by omega)]
      rw [hp]
      obtain ⟨A, c, rfl, hc, hm, hr⟩ := h.sliceK
      have c1 : w.cell? ⟨g, 1, none⟩ = some (.slice A L.length c) := h.cell 1
      clear hp h hr
      go_enter Try.func11, Try.ntmps11
      go_wp2_with fail
      go_ret2
      exact ⟨rfl, rfl⟩
end Go.Proofs.Ytlmchkajlecmeaa
