/- The runes of a string, as Go's range reads it; the contract of auguryref4.Signs. -/
import Derived.Test.YtcpbbkpfickfiaaDoorMem2
import Derived.Test.YtcpbbkpfickfiaaDoorRetW
import Derived.Lib.OthersKept
set_option linter.unusedVariables false
set_option linter.unusedSimpArgs false
namespace Go.Proofs.YtcpbbkpfickfiaaDoor
open Go.RowKit
namespace Lx
/-- the runes of a string from a place on -/
def runesF (s : ByteArray) : Nat → Nat → List Int
  | 0, _ => []
  | f + 1, p => if p < s.size then ((Utf8.decode s p).1 : Int) :: runesF s f (p + (Utf8.decode s p).2) else []
def runes (s : ByteArray) : List Int := runesF s s.size 0
theorem decode_step (s : ByteArray) (p : Nat) (h : p < s.size) : 1 ≤ (Utf8.decode s p).2 := by
  rcases Nat.lt_or_ge (s[p]'h).toNat 128 with h1 | h1
  · rw [decode_ascii s p h h1]; exact Nat.le_refl 1
  · exact (decode_high s p h h1).2
theorem runesF_two (s : ByteArray) : ∀ (n f g p : Nat), s.size - p ≤ n → s.size - p ≤ f → s.size - p ≤ g → runesF s f p = runesF s g p
  | n, 0, 0, p, _, _, _ => rfl
  | n, 0, g + 1, p, _, h, _ => by
    show [] = if p < s.size then _ else _
    rw [if_neg (by omega)]
  | n, f + 1, 0, p, _, _, h => by
    show (if p < s.size then _ else _) = []
    rw [if_neg (by omega)]
  | 0, f + 1, g + 1, p, h, _, _ => by
    unfold runesF
    rw [if_neg (by omega), if_neg (by omega)]
  | n + 1, f + 1, g + 1, p, h1, h2, h3 => by
    unfold runesF
    by_cases hp : p < s.size
    · have := decode_step s p hp
      rw [if_pos hp, if_pos hp, runesF_two s n f g _ (by omega) (by omega) (by omega)]
    · rw [if_neg hp, if_neg hp]
/-- what is left to read at a place -/
def runesAt (s : ByteArray) (p : Nat) : List Int := runesF s (s.size - p) p
theorem runesAt_zero (s : ByteArray) : runesAt s 0 = runes s := by unfold runesAt runes; rw [Nat.sub_zero]
theorem runesAt_end {s : ByteArray} {p : Nat} (h : ¬ p < s.size) : runesAt s p = [] := by
  unfold runesAt
  rw [show s.size - p = 0 by omega]
  rfl
theorem runesAt_step {s : ByteArray} {p : Nat} (h : p < s.size) : runesAt s p = ((Utf8.decode s p).1 : Int) :: runesAt s (p + (Utf8.decode s p).2) := by
  have hs := decode_step s p h
  unfold runesAt
  obtain ⟨k, hk⟩ : ∃ k, s.size - p = k + 1 := ⟨s.size - p - 1, by omega⟩
  rw [hk]
  show (if p < s.size then _ else _) = _
  rw [if_pos h, runesF_two s k k (s.size - (p + (Utf8.decode s p).2)) _ (by omega) (by omega) (Nat.le_refl _)]
theorem runesF_len (s : ByteArray) : ∀ (f p : Nat), (runesF s f p).length ≤ f
  | 0, p => by simp [runesF]
  | f + 1, p => by
    unfold runesF
    split
    · simp only [List.length_cons]
      have := runesF_len s f (p + (Utf8.decode s p).2)
      omega
    · simp
theorem runes_len (s : ByteArray) : (runes s).length ≤ s.size := runesF_len s s.size 0
end Lx
theorem infoR : (Tryd.prog.info? 21).map (fun i => (i.zero, i.size, i.bytes)) = some (some (.int .i32 0), 1, 4) := by kernel_rfl
theorem own_iterAt {w : World} {B k n p : Nat} {s : ByteArray} {e : TypeId} {v : Value} {xs : List Value} (h : w.ownsRow B e 1 v n xs) (hk : k < B) : (w.iterAt k s p).ownsRow B e 1 v n xs := by
  refine ⟨h.1, ?_⟩
  rcases h.2 with h2 | ⟨g, cap, cur, rfl, hg, hh, r⟩
  · exact .inl h2
  · exact .inr ⟨g, cap, cur, rfl, hg, (Lib.iterAt_other w k g s p (by omega)).trans hh, r⟩
end Go.Proofs.YtcpbbkpfickfiaaDoor
