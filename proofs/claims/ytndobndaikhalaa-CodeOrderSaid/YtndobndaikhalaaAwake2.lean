/- The contract of the statements' own check of what the document fixes (augurylaw2.awake): it is true. -/
import Derived.Test.YtndobndaikhalaaRefPut
set_option linter.unusedVariables false
set_option linter.unusedSimpArgs false
namespace Go.Proofs.Ytndobndaikhalaa
open Go.RowKit
theorem RetOwn.sl {B : Nat} {t : TypeId} {k : IntKind} {zs : List Int} {w w' : World} {e : Ending} (h : RetOwn B t (zs.map (Value.int k)) w e w') :
    ∃ A c, e = .returned (.slice A zs.length c) ∧ zs.length ≤ c ∧ c ≤ maxLen ∧ Rd w' w'.heap.size A (zs.map (Value.int k)) ∧ Below B w w' := by
  obtain ⟨v, rfl, hown, hb⟩ := h
  obtain ⟨A, c, rfl, h1, h2, h3, h4⟩ := own_slice hown
  rw [List.length_map] at *
  exact ⟨A, c, rfl, h1, h2, h4, hb⟩
theorem GetPost.sl {b l : List Int} {w w' : World} {e : Ending} (h : GetPost b w e w') (hl : Cd.getL b = some l) :
    ∃ A c, e = .returned (.tuple #[.slice A l.length c, .bool true]) ∧ l.length ≤ c ∧ c ≤ maxLen ∧ Rd w' w'.heap.size A (l.map (Value.int .i64)) ∧ Below w.heap.size w w' := by
  obtain ⟨hb, h⟩ := h
  rw [hl] at h
  obtain ⟨v, rfl, hown⟩ := h
  obtain ⟨A, c, rfl, h1, h2, h3, h4⟩ := own_slice hown
  exact ⟨A, c, rfl, h1, h2, h4, hb⟩
theorem GetPost.none_ {b : List Int} {w w' : World} {e : Ending} (h : GetPost b w e w') (hl : Cd.getL b = none) : e = .returned (.tuple #[.slice none 0 0, .bool false]) ∧ Below w.heap.size w w' := by
  obtain ⟨hb, h⟩ := h
  rw [hl] at h
  exact ⟨h, hb⟩
theorem put_1 (w : World) (A : Option Addr) (c : Nat) (hx : Rd w w.heap.size A ([0, 300, -1, -2].map (Value.int .i64))) : Calls Try.prog 9 #[.slice A 4 c] w (RetOwn w.heap.size 5 ([1, 255, 0, 0, 0, 0, 0, 0, 1, 44, 0, 255, 255, 255, 255, 255, 255, 255, 255, 254].map (Value.int .u8)) w) :=
  Put_any A 4 c [0, 300, -1, -2] w rfl hx (by unfold Cd.isI; decide) (by decide)
theorem put_2 (w : World) (A : Option Addr) (c : Nat) (hx : Rd w w.heap.size A ([0, 300].map (Value.int .i64))) : Calls Try.prog 9 #[.slice A 2 c] w (RetOwn w.heap.size 5 ([1, 255, 0, 0, 0, 0, 0, 0, 1, 44].map (Value.int .u8)) w) :=
  Put_any A 2 c [0, 300] w rfl hx (by unfold Cd.isI; decide) (by decide)
theorem put_3 (w : World) (A : Option Addr) (c : Nat) : Calls Try.prog 9 #[.slice A 0 c] w (RetOwn w.heap.size 5 (([] : List Int).map (Value.int .u8)) w) :=
  Put_any A 0 c [] w rfl Rd.nil (by unfold Cd.isI; simp) (by decide)
theorem get_1 (w : World) (A : Option Addr) (c : Nat) (hc : 20 ≤ c) (hc2 : c ≤ maxLen) (hx : Rd w w.heap.size A ([1, 255, 0, 0, 0, 0, 0, 0, 1, 44, 0, 255, 255, 255, 255, 255, 255, 255, 255, 254].map (Value.int .u8))) :
    Calls Try.prog 10 #[.slice A 20 c] w fun e w' => ∃ A c, e = .returned (.tuple #[.slice A 4 c, .bool true]) ∧ Rd w' w'.heap.size A ([0, 300, -1, -2].map (Value.int .i64)) ∧ Below w.heap.size w w' := by
  refine (Get_any A 20 c _ w rfl hc hc2 hx (by unfold Cd.isB; decide) (by decide)).mono ?_
  intro e w' h
  obtain ⟨A, c, rfl, h1, h2, h3, h4⟩ := h.sl (l := [0, 300, -1, -2]) (by decide)
  exact ⟨A, c, rfl, h3, h4⟩
theorem get_2 (w : World) (A : Option Addr) (hx : Rd w w.heap.size A ([255, 0, 0, 0, 0, 0, 0, 0, 1].map (Value.int .u8))) :
    Calls Try.prog 10 #[.slice A 9 9] w (RetB (.tuple #[.slice none 0 0, .bool false]) w) := by
  refine (Get_any A 9 9 _ w rfl (by omega) (by simp [maxLen]) hx (by unfold Cd.isB; decide) (by decide)).mono ?_
  intro e w' h
  obtain ⟨rfl, h4⟩ := h.none_ (by decide)
  exact ⟨rfl, h4⟩
theorem less_1 (w : World) (B : Nat) (A A' : Option Addr) (hx : Rd w B A ([98].map (Value.int .u8))) (hy : Rd w B A' ([97, 97].map (Value.int .u8))) :
    Calls Try.prog 12 #[.slice A 1 1, .slice A' 2 2] w (Ret (.bool true) w) := less_any A A' B 1 2 1 2 _ _ w rfl rfl hx hy
theorem same_1 (w : World) (B : Nat) (A A' : Option Addr) (c : Nat) (hx : Rd w B A ([0, 300, -1, -2].map (Value.int .i64))) (hy : Rd w B A' ([0, 300, -1, -2].map (Value.int .i64))) :
    Calls Try.prog 11 #[.slice A 4 c, .slice A' 4 4] w (RetQ (.bool true) w) := same_any A A' B c 4 4 4 _ _ w rfl rfl hx hy (by decide) (by decide)
set_option maxHeartbeats 2000000 in
theorem awake2 (w : World) : Calls Try.prog 8 #[] w (RetB (.bool true) w) := by
  have kc : ∀ (w : World) (g : Nat) (C : Array Value) (n c : Nat), g = w.heap.size → (convert 24 24 (.slice (some ⟨g, 0, none⟩) n c)).run Try.prog (w.alloc (.cells C 5)) = .ok (.slice (some ⟨g, 0, none⟩) n c) (w.alloc (.cells C 5 (C.size, C.size + 1))) := fun w g C n c hg => by
    rw [hg]; exact Lib.run_convert_bytes_const (P := Try.prog) w 24 5 C n c Try.underlying24 Try.underlying5
  go_enter Try.func8, Try.ntmps8
  go_wp2_with fail
  refine (put_1 _ _ _ (Rd.lit _ _ _)).mono ?_
  intro e w1 h1
  obtain ⟨A1, c1, rfl, hc1, hm1, hr1, hb1⟩ := h1.sl
  clear h1
  go_wp2_with fail
  refine (get_1 _ _ _ hc1 hm1 hr1).mono ?_
  rintro e w2 ⟨A2, c2, rfl, hr2, hb2⟩
  go_wp2_with fail
  refine (get_2 _ _ (Rd.lit _ _ _)).mono ?_
  rintro e w3 ⟨rfl, hb3⟩
  go_wp2_with fail
  refine (put_2 _ _ _ (Rd.lit _ _ _)).mono ?_
  intro e w4 h4
  obtain ⟨A4, c4, rfl, hc4, hm4, hr4, hb4⟩ := h4.sl
  clear h4
  have k4 : (convert 24 9 (.slice A4 10 c4)).run Try.prog w4 = .ok (.string ⟨#[1, 255, 0, 0, 0, 0, 0, 0, 1, 44]⟩) w4 := conv_any (n := 10) hr4 rfl 24 5 9 Try.underlying24 Try.underlying5 Try.underlying9
  go_wp2_with fail
  refine (same_1 _ _ _ _ _ (((((hr2.allocT _).belowT hb3).allocT _).belowT hb4).allocT _) (Rd.lit _ _ _)).mono ?_
  rintro e w5 ⟨rfl, q5, rfl⟩
  go_wp2_with fail
  refine (less_1 _ _ _ _ ((Rd.litG _ #[.int .u8 98] _ _ _ (by simp)).allocT _) (Rd.litG _ #[.int .u8 97, .int .u8 97] _ _ _ (by simp))).mono ?_
  rintro e w6 ⟨rfl, rfl⟩
  go_wp2_with fail
  refine (put_3 _ _ _).mono ?_
  intro e w7 h7
  obtain ⟨A7, c7, rfl, hc7, hm7, hr7, hb7⟩ := h7.sl
  clear h7
  go_wp2_with fail
  go_ret
  exact RetB.b rfl rfl (upT (upA (upA (upD (upA (upT (upA (upT (upA (upT (upT (upA (up0 _) _) hb1) hb2) _) hb3) _) hb4) _) _) _) _) hb7)
end Go.Proofs.Ytndobndaikhalaa
