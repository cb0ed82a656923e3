/- Contracts of package code's reading, as they are reached here. -/
import Derived.Test.YtndobndaikhalaaCode
set_option linter.unusedVariables false
set_option linter.unusedSimpArgs false
namespace Go.Proofs.Ytndobndaikhalaa
open Go.RowKit
/-- three results, the world as it was -/
def Ret3 (a b : Int) (c : Bool) (w : World) (e : Ending) (w' : World) : Prop := e = .returned (.tuple #[.int .i64 a, .int .i64 b, .bool c]) ∧ w = w'
def No3 (w : World) (e : Ending) (w' : World) : Prop := ∃ a b : Int, e = .returned (.tuple #[.int .i64 a, .int .i64 b, .bool false]) ∧ w = w'
theorem Ret3.mk {X Y Z : Value} {a a' b b' : Int} {c c' : Bool} {w : World} (hx : X = .int .i64 a') (hy : Y = .int .i64 b') (hz : Z = .bool c') (h1 : a' = a) (h2 : b' = b) (h3 : c' = c) : Ret3 a b c w (.returned (.tuple #[X, Y, Z])) w := by
  subst h1 h2 h3; exact ⟨by rw [hx, hy, hz], rfl⟩
theorem No3.mk {X Y Z : Value} {a' b' : Int} {c' : Bool} {w : World} (hx : X = .int .i64 a') (hy : Y = .int .i64 b') (hz : Z = .bool c') (h3 : c' = false) : No3 w (.returned (.tuple #[X, Y, Z])) w := by
  subst h3; exact ⟨_, _, by rw [hx, hy, hz], rfl⟩
theorem first_one (A : Option Addr) (B n c : Nat) (x : Int) (r : List Int) (w : World) (hn : n = (x :: r).length) (hx : Rd w B A ((x :: r).map (Value.int .u8))) (h0 : 0 ≤ x) (h1 : x < 256) (hne : x ≠ 255) :
    Calls Try.prog 18 #[.slice A n c] w (Ret3 (x - 1) 1 true w) := by
  subst hn
  obtain ⟨ad, rfl, hb, hc⟩ := hx.at_ (k := 0) (by simp)
  have hc0 : w.cell? ad = some (.int .u8 x) := by simpa [adr_zero] using hc
  have hl : 0 < (x :: r).length := by simp
  have hne' : (x != 255) = true := by simpa using hne
  generalize (x :: r).length = n at *
  go_enter Try.func18, Try.ntmps18
  go_wp2
  go_ret3
  exact Ret3.mk rfl rfl rfl (by omega) rfl rfl
theorem first_short (A : Option Addr) (B n c : Nat) (r : List Int) (w : World) (hn : n = (255 :: r).length) (hx : Rd w B A ((255 :: r).map (Value.int .u8))) (hr : r.length < 8) :
    Calls Try.prog 18 #[.slice A n c] w (No3 w) := by
  subst hn
  obtain ⟨ad, rfl, hb, hc⟩ := hx.at_ (k := 0) (by simp)
  have hc0 : w.cell? ad = some (.int .u8 255) := by simpa [adr_zero] using hc
  have hl : 0 < (255 :: r).length := by simp
  have hl2 : (255 :: r).length < 9 := by simp; omega
  generalize (255 :: r).length = n at *
  go_enter Try.func18, Try.ntmps18
  go_wp2
  go_ret3
  exact No3.mk rfl rfl rfl rfl
theorem isB_at {l : List Int} (h : Cd.isB l) {k : Nat} (hk : k < l.length) : 0 ≤ l.getD k 0 ∧ l.getD k 0 < 256 := by
  have := h l[k] (List.getElem_mem hk)
  simpa [List.getD, hk] using this
theorem isB_take {l : List Int} (h : Cd.isB l) (k : Nat) : Cd.isB (l.take k) := fun x hx => h x (List.mem_of_mem_take hx)
theorem num_bd {r : List Int} (hB : Cd.isB r) (k : Nat) (hk : k < 8) : 0 ≤ Cd.numOf ((r.take 8).take k) ∧ Cd.numOf ((r.take 8).take k) < 72057594037927936 := by
  have h := Cd.numOf_bd (isB_take (isB_take hB 8) k)
  refine ⟨h.1, Int.lt_of_lt_of_le h.2 ?_⟩
  have hl : ((r.take 8).take k).length ≤ 7 := by rw [List.length_take]; omega
  generalize ((r.take 8).take k).length = m at hl
  rcases (by omega : m = 0 ∨ m = 1 ∨ m = 2 ∨ m = 3 ∨ m = 4 ∨ m = 5 ∨ m = 6 ∨ m = 7) with rfl | rfl | rfl | rfl | rfl | rfl | rfl | rfl <;> decide
theorem num_bd8 {r : List Int} (hB : Cd.isB r) (hr : 8 ≤ r.length) : 0 ≤ Cd.numOf (r.take 8) ∧ Cd.numOf (r.take 8) < 18446744073709551616 := by
  have h := Cd.numOf_bd (isB_take hB 8)
  rw [show (r.take 8).length = 8 by simp; omega] at h
  exact h
theorem or_add {a x : Int} (h0 : 0 ≤ a) (h1 : a < 72057594037927936) (h2 : 0 ≤ x) (h3 : x < 256) : bits .or .u64 (a * 256) x = a * 256 + x := by
  obtain ⟨a, rfl⟩ : ∃ b : Nat, a = b := ⟨a.toNat, by omega⟩
  obtain ⟨x, rfl⟩ : ∃ b : Nat, x = b := ⟨x.toNat, by omega⟩
  rw [show ((a : Int) * 256) = ((a * 256 : Nat) : Int) by simp, bits_or_u64_nat _ _ (by omega) (by omega)]
  have := Nat.shiftLeft_add_eq_or_of_lt (a := a) (b := x) (i := 8) (by omega)
  rw [Nat.shiftLeft_eq] at this
  rw [← this]
  simp
theorem num_or {r : List Int} (hB : Cd.isB r) (k : Nat) (hk : k < 8) (hr : 8 ≤ r.length) :
    bits .or .u64 (Cd.numOf ((r.take 8).take k) * 256) (r.getD k 0) = Cd.numOf ((r.take 8).take (k + 1)) := by
  have hs : (r.take 8).take (k + 1) = (r.take 8).take k ++ [r.getD k 0] := by
    rw [take_snoc (r.take 8) k (by rw [List.length_take]; omega)]
    congr 2
    simp [List.getD, List.getElem?_take, hk]
  rw [hs, Cd.numOf_snoc]
  exact or_add (num_bd hB k hk).1 (num_bd hB k hk).2 (isB_at hB (k := k) (by omega)).1 (isB_at hB (k := k) (by omega)).2
theorem toI_conv {u : Int} (h0 : 0 ≤ u) (h1 : u < 18446744073709551616) : wrap64 u = Cd.toI u := by
  unfold wrap64 Cd.toI; split <;> omega
theorem int_eq {k : IntKind} {a b : Int} (h : a = b) : Value.int k a = Value.int k b := by rw [h]
theorem first_wide (A : Option Addr) (B n c : Nat) (r : List Int) (w : World) (hn : n = (255 :: r).length) (hc : n ≤ c) (hx : Rd w B A ((255 :: r).map (Value.int .u8))) (hr : 8 ≤ r.length) (hB : Cd.isB r) :
    Calls Try.prog 18 #[.slice A n c] w (Ret3 (Cd.toI (Cd.numOf (r.take 8))) 9 (!Cd.nrB (Cd.toI (Cd.numOf (r.take 8)))) w) := by
  subst hn
  obtain ⟨ad, rfl, hb, hc⟩ := hx.at_ (k := 0) (by simp)
  have hc0 : w.cell? ad = some (.int .u8 255) := by simpa [adr_zero] using hc
  have hcs : ∀ k, k < 8 → w.cell? ((ad.add 1).add k) = some (.int .u8 (r.getD k 0)) := by
    intro k hk
    rw [adr_add]
    obtain ⟨ad', e, _, h⟩ := hx.at_ (k := 1 + k) (by simp; omega)
    injection e with e
    subst e
    rw [h]
    simp [Nat.add_comm 1 k]
  have hl : 0 < (255 :: r).length := by simp
  have hl2 : 9 ≤ (255 :: r).length := by simp; omega
  have HCS := Lib.hid hcs
  clear hcs
  have HX := Lib.hid hx
  clear hx
  generalize (255 :: r).length = n at *
  go_enter Try.func18, Try.ntmps18
  go_wp2
  go_loop [5, 23] (fun u i => ∃ k : Nat, k ≤ 8 ∧ i = .int .i64 k ∧ u = .int .u64 (Cd.numOf ((r.take 8).take k))) (fun _ i => 8 - (intOf i).toNat)
  case atStart => exact ⟨0, by omega, rfl, rfl⟩
  case round =>
    obtain ⟨k, hk, rfl, rfl⟩ := hrel
    by_cases hlt : k < 8
    · have hck : w.cell? ⟨ad.block, ad.off + 1 + k, none⟩ = some (.int .u8 (r.getD k 0)) := by
        have := HCS.out k hlt
        rwa [show (ad.add 1).add k = ⟨ad.block, ad.off + 1 + k, none⟩ by rw [adr_add]; unfold Addr.add; rw [if_neg (by omega)]; simp [Nat.add_assoc]] at this
      obtain ⟨b1, b2⟩ := num_bd hB k hlt
      obtain ⟨x1, x2⟩ := isB_at hB (k := k) (by omega)
      have hor := num_or hB k hlt hr
      generalize r.getD k 0 = x at hck x1 x2 hor
      have HOR := Lib.hid hor
      clear hor
      go_wp2
      go_round
      case rel => exact ⟨k + 1, by omega, by go_num, int_eq HOR.out⟩
      case measure => simp [intOf]; omega
    · have : k = 8 := by omega
      subst this
      obtain ⟨b1, b2⟩ := num_bd8 hB hr
      have hI := toI_conv b1 b2
      rw [List.take_of_length_le (l := r.take 8) (by simp; omega)]
      have HI := Lib.hid hI
      clear hI
      go_wp2_with (go_at_call 20; refine (narrow_any _ _).mono ?_; rintro e w' ⟨rfl, rfl⟩)
      go_ret3
      have hI := HI.out
      exact Ret3.mk rfl rfl rfl hI rfl (by rw [hI])

/-- what Get answers of these bytes -/
def GetPost (b : List Int) (w : World) (e : Ending) (w' : World) : Prop :=
  Below w.heap.size w w' ∧ match Cd.getL b with
    | some l => ∃ v, e = .returned (.tuple #[v, .bool true]) ∧ w'.ownsRow w.heap.size 3 1 v l.length (l.map (Value.int .i64))
    | none => e = .returned (.tuple #[.slice none 0 0, .bool false])
theorem GetPost.yes {b l : List Int} {w w' : World} {v X : Value} {n : Nat} (h : Cd.getL b = some l) (hX : X = .bool true) (hown : w'.ownsRow w.heap.size 3 1 v n (l.map (Value.int .i64))) (hb : Below w.heap.size w w') : GetPost b w (.returned (.tuple #[v, X])) w' := by
  subst hX
  refine ⟨hb, ?_⟩
  rw [h]
  have := own_len hown
  rw [List.length_map] at this
  exact ⟨v, rfl, by rw [this]; exact hown⟩
theorem GetPost.no {b : List Int} {w w' : World} {X Y : Value} (h : Cd.getL b = none) (hX : X = .slice none 0 0) (hY : Y = .bool false) (hb : Below w.heap.size w w') : GetPost b w (.returned (.tuple #[X, Y])) w' := by
  subst hX hY
  refine ⟨hb, ?_⟩
  rw [h]
/-- first, whatever it is given -/
def FstPost (b : List Int) (w : World) (e : Ending) (w' : World) : Prop :=
  w = w' ∧ match Cd.fst1 b with
    | some (m, k) => e = .returned (.tuple #[.int .i64 m, .int .i64 k, .bool true])
    | none => ∃ a c : Int, e = .returned (.tuple #[.int .i64 a, .int .i64 c, .bool false])
theorem first_any (A : Option Addr) (B n c : Nat) (b : List Int) (w : World) (hn : n = b.length) (hc : n ≤ c) (hx : Rd w B A (b.map (Value.int .u8))) (hB : Cd.isB b) (hb : b ≠ []) :
    Calls Try.prog 18 #[.slice A n c] w (FstPost b w) := by
  cases b with
  | nil => exact absurd rfl hb
  | cons x r =>
    have h0 := hB x (by simp)
    by_cases hne : x = 255
    · subst hne
      by_cases hr : r.length < 8
      · refine (first_short A B n c r w hn hx hr).mono ?_
        rintro e w' ⟨a, b, rfl, rfl⟩
        refine ⟨rfl, ?_⟩
        simp only [Cd.fst1, if_true, hr]
        exact ⟨a, b, rfl⟩
      · refine (first_wide A B n c r w hn hc hx (by omega) (fun y hy => hB y (by simp [hy]))).mono ?_
        rintro e w' ⟨rfl, rfl⟩
        refine ⟨rfl, ?_⟩
        simp only [Cd.fst1, if_true, hr, if_false]
        cases hq : Cd.nrB (Cd.toI (Cd.numOf (r.take 8)))
        · simp
        · simp only [if_true, Bool.not_true]; exact ⟨_, _, rfl⟩
    · refine (first_one A B n c x r w hn hx h0.1 h0.2 hne).mono ?_
      rintro e w' ⟨rfl, rfl⟩
      refine ⟨rfl, ?_⟩
      simp only [Cd.fst1, if_neg hne]
      rfl
end Go.Proofs.Ytndobndaikhalaa
