/- Merged: LxRunes, LxSigns, LxMath, LxMath2, LxTok, LxLaid. -/
import Derived.Test.YtmghklokbmdenaaDoorMgMem
import Derived.Lib.OthersKept
import Derived.Test.YtmghklokbmdenaaDoorRows
import Derived.Laws.Cover4
import Derived.Lib.RuneCountTail
import Derived.Lib.Atoi
set_option linter.unusedVariables false
set_option linter.unusedSimpArgs false
namespace Go.Proofs.YtmghklokbmdenaaDoor
section
open Go.RowKit
namespace Lx
/-- the runes of a string from a place on -/
def runesF (s : ByteArray) : Nat → Nat → List Int
  | 0, _ => []
  | f + 1, p => if p < s.size then ((Utf8.decode s p).1 : Int) :: runesF s f (p + (Utf8.decode s p).2) else []
def runes (s : ByteArray) : List Int := runesF s s.size 0
theorem decode_step (s : ByteArray) (p : Nat) (h : p < s.size) : 1 ≤ (Utf8.decode s p).2 := by
  rcases Nat.lt_or_ge (s[p]'h).toNat 128 with h1 | h1
  · rw [decode_ascii s p h h1]; exact Nat.le_refl 1
  · exact (decode_high s p h h1).2
theorem runesF_two (s : ByteArray) : ∀ (n f g p : Nat), s.size - p ≤ n → s.size - p ≤ f → s.size - p ≤ g → runesF s f p = runesF s g p
  | n, 0, 0, p, _, _, _ => rfl
  | n, 0, g + 1, p, _, h, _ => by
    show [] = if p < s.size then _ else _
    rw [if_neg (by omega)]
  | n, f + 1, 0, p, _, _, h => by
    show (if p < s.size then _ else _) = []
    rw [if_neg (by omega)]
  | 0, f + 1, g + 1, p, h, _, _ => by
    unfold runesF
    rw [if_neg (by omega), if_neg (by omega)]
  | n + 1, f + 1, g + 1, p, h1, h2, h3 => by
    unfold runesF
    by_cases hp : p < s.size
    · have := decode_step s p hp
      rw [if_pos hp, if_pos hp, runesF_two s n f g _ (by omega) (by omega) (by omega)]
    · rw [if_neg hp, if_neg hp]
/-- what is left to read at a place -/
def runesAt (s : ByteArray) (p : Nat) : List Int := runesF s (s.size - p) p
theorem runesAt_zero (s : ByteArray) : runesAt s 0 = runes s := by unfold runesAt runes; rw [Nat.sub_zero]
theorem runesAt_end {s : ByteArray} {p : Nat} (h : ¬ p < s.size) : runesAt s p = [] := by
  unfold runesAt
  rw [show s.size - p = 0 by omega]
  rfl
theorem runesAt_step {s : ByteArray} {p : Nat} (h : p < s.size) : runesAt s p = ((Utf8.decode s p).1 : Int) :: runesAt s (p + (Utf8.decode s p).2) := by
  have hs := decode_step s p h
  unfold runesAt
  obtain ⟨k, hk⟩ : ∃ k, s.size - p = k + 1 := ⟨s.size - p - 1, by omega⟩
  rw [hk]
  show (if p < s.size then _ else _) = _
  rw [if_pos h, runesF_two s k k (s.size - (p + (Utf8.decode s p).2)) _ (by omega) (by omega) (Nat.le_refl _)]
theorem runesF_len (s : ByteArray) : ∀ (f p : Nat), (runesF s f p).length ≤ f
  | 0, p => by simp [runesF]
  | f + 1, p => by
    unfold runesF
    split
    · simp only [List.length_cons]
      have := runesF_len s f (p + (Utf8.decode s p).2)
      omega
    · simp
theorem runes_len (s : ByteArray) : (runes s).length ≤ s.size := runesF_len s s.size 0
end Lx
theorem infoR : (Tryd.prog.info? 21).map (fun i => (i.zero, i.size, i.bytes)) = some (some (.int .i32 0), 1, 4) := by kernel_rfl
theorem own_iterAt {w : World} {B k n p : Nat} {s : ByteArray} {e : TypeId} {v : Value} {xs : List Value} (h : w.ownsRow B e 1 v n xs) (hk : k < B) : (w.iterAt k s p).ownsRow B e 1 v n xs := by
  refine ⟨h.1, ?_⟩
  rcases h.2 with h2 | ⟨g, cap, cur, rfl, hg, hh, r⟩
  · exact .inl h2
  · exact .inr ⟨g, cap, cur, rfl, hg, (Lib.iterAt_other w k g s p (by omega)).trans hh, r⟩
end
end Go.Proofs.YtmghklokbmdenaaDoor
namespace Go.Proofs.YtmghklokbmdenaaDoor
section
open Go.RowKit
end
end Go.Proofs.YtmghklokbmdenaaDoor
namespace Go.Proofs.YtmghklokbmdenaaDoor
section
namespace Lx
def lower (c : Int) : Bool := decide (97 ≤ c ∧ c ≤ 122)
def dig (c : Int) : Bool := decide (48 ≤ c ∧ c ≤ 57)
def word (c : Int) : Bool := lower c || dig c
def blank (c : Int) : Bool := decide (c = 32 ∨ c = 9)
def sgn (c : Int) : Bool := decide (c = 44 ∨ c = 58 ∨ c = 91 ∨ c = 93 ∨ c = 43)
structure Tk where
  kind : Int
  text : List Int
  n : Int
  at_ : Nat
/-- a number's digits, from its first on -/
def digs : List Int → List Int
  | [] => []
  | c :: r => if c = 48 then [c] else ((c :: r).take 5).takeWhile dig
def val (t : List Int) : Int := t.foldl (fun n c => 10 * n + (c - 48)) 0
def cons (t : Tk) : Except Nat (List Tk) → Except Nat (List Tk)
  | .ok l => .ok (t :: l)
  | .error e => .error e
def stops (r : List Int) : Bool := match r with | [] => true | d :: _ => !word d
def lxF : Nat → Nat → List Int → Except Nat (List Tk)
  | 0, a, r => .ok []
  | f + 1, a, [] => .ok []
  | f + 1, a, c :: r =>
    if c = 59 then .ok []
    else if blank c = true then lxF f (a + 1) r
    else if lower c = true then cons ⟨1, (c :: r).takeWhile word, 0, a⟩ (lxF f (a + ((c :: r).takeWhile word).length) ((c :: r).drop ((c :: r).takeWhile word).length))
    else if dig c = true then
      if stops ((c :: r).drop (digs (c :: r)).length) = true then cons ⟨2, digs (c :: r), val (digs (c :: r)), a⟩ (lxF f (a + (digs (c :: r)).length) ((c :: r).drop (digs (c :: r)).length))
      else .error (a + (digs (c :: r)).length)
    else if sgn c = true then cons ⟨3, [c], 0, a⟩ (lxF f (a + 1) r)
    else .error a
/-- what the document says of a line of runes, from a place on -/
def lxA (a : Nat) (r : List Int) : Except Nat (List Tk) := lxF r.length a r
theorem digs_cons (c : Int) (r : List Int) : digs (c :: r) = if c = 48 then [c] else ((c :: r).take 5).takeWhile dig := rfl
theorem digs_pos {c : Int} {r : List Int} (h : dig c = true) : 0 < (digs (c :: r)).length := by
  rw [digs_cons]
  split
  · simp
  · simp [h]
theorem digs_le (r : List Int) : (digs r).length ≤ r.length := by
  cases r with
  | nil => simp [digs]
  | cons c r =>
    rw [digs_cons]
    split
    · simp
    · refine Nat.le_trans (List.takeWhile_prefix dig).length_le ?_
      rw [List.length_take]
      exact Nat.min_le_right _ _
theorem name_pos {c : Int} {r : List Int} (h : lower c = true) : 0 < ((c :: r).takeWhile word).length := by simp [word, h]
theorem name_le (r : List Int) : (r.takeWhile word).length ≤ r.length := (List.takeWhile_prefix word).length_le
theorem lxF_two : ∀ (n f g a : Nat) (r : List Int), r.length ≤ n → r.length ≤ f → r.length ≤ g → lxF f a r = lxF g a r
  | n, f, g, a, [], _, _, _ => by cases f <;> cases g <;> rfl
  | 0, f, g, a, c :: r, h, _, _ => by simp at h
  | n + 1, 0, g, a, c :: r, _, h, _ => by simp at h
  | n + 1, f + 1, 0, a, c :: r, _, _, h => by simp at h
  | n + 1, f + 1, g + 1, a, c :: r, h1, h2, h3 => by
    simp only [List.length_cons] at h1 h2 h3
    have e1 := lxF_two n f g (a + 1) r (by omega) (by omega) (by omega)
    have e2 : lower c = true → lxF f (a + ((c :: r).takeWhile word).length) ((c :: r).drop ((c :: r).takeWhile word).length) = lxF g (a + ((c :: r).takeWhile word).length) ((c :: r).drop ((c :: r).takeWhile word).length) := fun hc => by
      have hp := name_pos (r := r) hc
      have hl : ((c :: r).drop ((c :: r).takeWhile word).length).length ≤ r.length := by rw [List.length_drop]; simp only [List.length_cons]; omega
      exact lxF_two n f g _ _ (by omega) (by omega) (by omega)
    have e3 : dig c = true → lxF f (a + (digs (c :: r)).length) ((c :: r).drop (digs (c :: r)).length) = lxF g (a + (digs (c :: r)).length) ((c :: r).drop (digs (c :: r)).length) := fun hc => by
      have hp := digs_pos (r := r) hc
      have hl : ((c :: r).drop (digs (c :: r)).length).length ≤ r.length := by rw [List.length_drop]; simp only [List.length_cons]; omega
      exact lxF_two n f g _ _ (by omega) (by omega) (by omega)
    unfold lxF
    split
    · rfl
    split
    · exact e1
    split
    · rename_i hc; rw [e2 hc]
    split
    · rename_i hc; rw [e3 hc]
    · rw [e1]
theorem lxF_fuel (f : Nat) (a : Nat) (r : List Int) (h : r.length ≤ f) : lxF f a r = lxF r.length a r := lxF_two f f r.length a r h h (Nat.le_refl _)
theorem lxA_nil (a : Nat) : lxA a [] = .ok [] := rfl
theorem lxA_semi (a : Nat) (r : List Int) : lxA a (59 :: r) = .ok [] := rfl
theorem lxA_blank {a : Nat} {c : Int} {r : List Int} (h : blank c = true) : lxA a (c :: r) = lxA (a + 1) r := by
  have h0 : c ≠ 59 := by intro e; subst e; simp [blank] at h
  show lxF (r.length + 1) a (c :: r) = _
  unfold lxF
  rw [if_neg h0, if_pos h]
  rfl
theorem lxA_name {a : Nat} {c : Int} {r : List Int} (h : lower c = true) : lxA a (c :: r) = cons ⟨1, (c :: r).takeWhile word, 0, a⟩ (lxA (a + ((c :: r).takeWhile word).length) ((c :: r).drop ((c :: r).takeWhile word).length)) := by
  have h9 : 97 ≤ c ∧ c ≤ 122 := by simpa [lower] using h
  have h0 : c ≠ 59 := by omega
  have h1 : blank c = false := by simp [blank]; omega
  have hp := name_pos (r := r) h
  show lxF (r.length + 1) a (c :: r) = _
  unfold lxF
  rw [if_neg h0, if_neg (by simp [h1]), if_pos h]
  rw [lxF_fuel r.length _ _ (by rw [List.length_drop]; simp only [List.length_cons]; omega)]
  rfl
theorem lxA_num {a : Nat} {c : Int} {r : List Int} (h : dig c = true) (hs : stops ((c :: r).drop (digs (c :: r)).length) = true) : lxA a (c :: r) = cons ⟨2, digs (c :: r), val (digs (c :: r)), a⟩ (lxA (a + (digs (c :: r)).length) ((c :: r).drop (digs (c :: r)).length)) := by
  have h9 : 48 ≤ c ∧ c ≤ 57 := by simpa [dig] using h
  have h0 : c ≠ 59 := by omega
  have h1 : blank c = false := by simp [blank]; omega
  have h2 : lower c = false := by simp [lower]; omega
  have hp := digs_pos (r := r) h
  show lxF (r.length + 1) a (c :: r) = _
  unfold lxF
  rw [if_neg h0, if_neg (by simp [h1]), if_neg (by simp [h2]), if_pos h, if_pos hs]
  rw [lxF_fuel r.length _ _ (by rw [List.length_drop]; simp only [List.length_cons]; omega)]
  rfl
theorem lxA_nums {a : Nat} {c : Int} {r : List Int} (h : dig c = true) (hs : stops ((c :: r).drop (digs (c :: r)).length) = false) : lxA a (c :: r) = .error (a + (digs (c :: r)).length) := by
  have h9 : 48 ≤ c ∧ c ≤ 57 := by simpa [dig] using h
  have h0 : c ≠ 59 := by omega
  have h1 : blank c = false := by simp [blank]; omega
  have h2 : lower c = false := by simp [lower]; omega
  show lxF (r.length + 1) a (c :: r) = _
  unfold lxF
  rw [if_neg h0, if_neg (by simp [h1]), if_neg (by simp [h2]), if_pos h, if_neg (by simp [hs])]
theorem lxA_sign {a : Nat} {c : Int} {r : List Int} (h : sgn c = true) : lxA a (c :: r) = cons ⟨3, [c], 0, a⟩ (lxA (a + 1) r) := by
  have h9 : c = 44 ∨ c = 58 ∨ c = 91 ∨ c = 93 ∨ c = 43 := by simpa [sgn] using h
  have h0 : c ≠ 59 := by omega
  have h1 : blank c = false := by simp [blank]; omega
  have h2 : lower c = false := by simp [lower]; omega
  have h3 : dig c = false := by simp [dig]; omega
  show lxF (r.length + 1) a (c :: r) = _
  unfold lxF
  rw [if_neg h0, if_neg (by simp [h1]), if_neg (by simp [h2]), if_neg (by simp [h3]), if_pos h]
  rfl
theorem lxA_bad {a : Nat} {c : Int} {r : List Int} (h0 : c ≠ 59) (h1 : blank c = false) (h2 : lower c = false) (h3 : dig c = false) (h4 : sgn c = false) : lxA a (c :: r) = .error a := by
  show lxF (r.length + 1) a (c :: r) = _
  unfold lxF
  rw [if_neg h0, if_neg (by simp [h1]), if_neg (by simp [h2]), if_neg (by simp [h3]), if_neg (by simp [h4])]
end Lx
end
end Go.Proofs.YtmghklokbmdenaaDoor
namespace Go.Proofs.YtmghklokbmdenaaDoor
section
namespace Lx
/-- a sign as it may be -/
def Good (t : Tk) : Prop :=
  (t.kind = 1 ∧ t.n = 0 ∧ ∃ c r, t.text = c :: r ∧ lower c = true ∧ ∀ x ∈ t.text, word x = true) ∨
  (t.kind = 2 ∧ t.n = val t.text ∧ ∃ c r, t.text = c :: r ∧ dig c = true ∧ digs t.text = t.text) ∨
  (t.kind = 3 ∧ t.n = 0 ∧ ∃ c, t.text = [c] ∧ sgn c = true)
theorem Good.pos {t : Tk} (h : Good t) : 0 < t.text.length := by
  rcases h with ⟨_, _, c, r, e, _⟩ | ⟨_, _, c, r, e, _⟩ | ⟨_, _, c, e, _⟩ <;> rw [e] <;> simp
theorem dig_word {c : Int} (h : dig c = true) : word c = true := by simp [word, h]
theorem takeWhile_app {p : Int → Bool} : ∀ {a b : List Int}, (∀ x ∈ a, p x = true) → (∀ x r, b = x :: r → p x = false) → (a ++ b).takeWhile p = a
  | [], [], _, _ => rfl
  | [], x :: b, _, h => by simp [h x b rfl]
  | y :: a, b, h1, h2 => by
    have := takeWhile_app (a := a) (b := b) (fun x hx => h1 x (by simp [hx])) h2
    simp [h1 y (by simp), this]
theorem takeWhile_all {p : Int → Bool} {a : List Int} : ∀ x ∈ a.takeWhile p, p x = true := fun x hx => by
  induction a with
  | nil => simp at hx
  | cons y a ih =>
    rw [List.takeWhile_cons] at hx
    split at hx
    · rcases List.mem_cons.1 hx with rfl | hx
      · assumption
      · exact ih hx
    · simp at hx
theorem stops_word {r : List Int} (h : stops r = true) : ∀ x q, r = x :: q → word x = false := fun x q e => by
  subst e
  simpa [stops] using h
theorem stops_dig {r : List Int} (h : stops r = true) : ∀ x q, r = x :: q → dig x = false := fun x q e => by
  have := stops_word h x q e
  simp [word] at this
  exact this.2
theorem digs_idem (c : Int) (r : List Int) : digs (digs (c :: r)) = digs (c :: r) := by
  rw [digs_cons]
  split
  · rename_i h; subst h; rfl
  · rename_i h
    cases hw : ((c :: r).take 5).takeWhile dig with
    | nil => rfl
    | cons y q =>
      have hall := takeWhile_all (p := dig) (a := (c :: r).take 5)
      rw [hw] at hall
      have hlen := (List.takeWhile_prefix dig (l := (c :: r).take 5)).length_le
      rw [hw, List.length_take] at hlen
      have hy : y = c := by
        rw [List.take_succ_cons, List.takeWhile_cons] at hw
        split at hw
        · injection hw with h1 _; exact h1.symm
        · cases hw
      rw [digs_cons, hy, if_neg h, ← hy, List.take_of_length_le (by omega)]
      have := takeWhile_app (p := dig) (a := y :: q) (b := []) hall (fun x r e => by cases e)
      simpa using this
theorem digs_app {c : Int} {r b : List Int} (hd : digs (c :: r) = c :: r) (hb : stops b = true) : digs (c :: r ++ b) = c :: r := by
  show digs (c :: (r ++ b)) = c :: r
  rw [digs_cons] at hd ⊢
  split
  · rename_i h
    rw [if_pos h] at hd
    exact hd
  · rename_i h
    rw [if_neg h] at hd
    have hall : ∀ x ∈ c :: r, dig x = true := by
      have := takeWhile_all (p := dig) (a := (c :: r).take 5)
      rwa [hd] at this
    have hlen : (c :: r).length ≤ 5 := by
      have := (List.takeWhile_prefix dig (l := (c :: r).take 5)).length_le
      rw [hd, List.length_take] at this
      omega
    have e : (c :: (r ++ b)).take 5 = (c :: r) ++ b.take (5 - (c :: r).length) := by
      show ((c :: r) ++ b).take 5 = _
      rw [List.take_append, List.take_of_length_le hlen]
    rw [e]
    refine takeWhile_app hall (fun x q hx => ?_)
    cases b with
    | nil => simp at hx
    | cons y b =>
      have hk : 5 - (c :: r).length ≠ 0 := fun h0 => by rw [h0] at hx; simp at hx
      obtain ⟨k, hk⟩ := Nat.exists_eq_succ_of_ne_zero hk
      rw [hk] at hx
      simp at hx
      exact stops_dig hb x b (by rw [hx.1])
/-- where the signs stand: behind blanks, one behind the other, up to the end or a comment -/
def Laid : Nat → List Int → List Tk → Prop
  | a, r, [] => ∃ b rest, r = b ++ rest ∧ (∀ x ∈ b, blank x = true) ∧ (rest = [] ∨ ∃ q, rest = 59 :: q)
  | a, r, t :: ts => ∃ b rest, r = b ++ (t.text ++ rest) ∧ (∀ x ∈ b, blank x = true) ∧ t.at_ = a + b.length ∧ Good t ∧ Laid (t.at_ + t.text.length) rest ts
theorem laid_blank {a : Nat} {c : Int} {r : List Int} {l : List Tk} (hc : blank c = true) (h : Laid (a + 1) r l) : Laid a (c :: r) l := by
  cases l with
  | nil =>
    obtain ⟨b, rest, e, h1, h2⟩ := h
    exact ⟨c :: b, rest, by rw [e]; rfl, fun x hx => by rcases List.mem_cons.1 hx with rfl | hx; exact hc; exact h1 x hx, h2⟩
  | cons t ts =>
    obtain ⟨b, rest, e, h1, h2, h3, h4⟩ := h
    exact ⟨c :: b, rest, by rw [e]; rfl, fun x hx => by rcases List.mem_cons.1 hx with rfl | hx; exact hc; exact h1 x hx, by rw [h2]; simp; omega, h3, h4⟩
theorem cons_ok {t : Tk} {e : Except Nat (List Tk)} {l : List Tk} (h : cons t e = .ok l) : ∃ l', e = .ok l' ∧ l = t :: l' := by
  cases e with
  | error x => simp [cons] at h
  | ok l' => simp [cons] at h; exact ⟨l', rfl, h.symm⟩
theorem laid_of : ∀ (n a : Nat) (r : List Int) (l : List Tk), r.length ≤ n → lxA a r = .ok l → Laid a r l
  | n, a, [], l, _, h => by
    rw [lxA_nil] at h
    injection h with h
    subst h
    exact ⟨[], [], rfl, fun x hx => by simp at hx, .inl rfl⟩
  | 0, a, c :: r, l, h, _ => by simp at h
  | n + 1, a, c :: r, l, hn, h => by
    simp only [List.length_cons] at hn
    by_cases h0 : c = 59
    · subst h0
      rw [lxA_semi] at h
      injection h with h
      subst h
      exact ⟨[], 59 :: r, rfl, fun x hx => by simp at hx, .inr ⟨r, rfl⟩⟩
    · cases h1 : blank c
      · cases h2 : lower c
        · cases h3 : dig c
          · cases h4 : sgn c
            · rw [lxA_bad h0 h1 h2 h3 h4] at h; cases h
            · rw [lxA_sign h4] at h
              obtain ⟨l', e1, rfl⟩ := cons_ok h
              exact ⟨[], r, rfl, fun x hx => by simp at hx, by simp, .inr (.inr ⟨rfl, rfl, c, rfl, h4⟩), laid_of n _ _ _ (by omega) (by simpa using e1)⟩
          · cases hs : stops ((c :: r).drop (digs (c :: r)).length)
            · rw [lxA_nums h3 hs] at h; cases h
            · rw [lxA_num h3 hs] at h
              obtain ⟨l', e1, rfl⟩ := cons_ok h
              have hp := digs_pos (r := r) h3
              have hpre : digs (c :: r) <+: c :: r := by
                rw [digs_cons]
                split
                · exact ⟨r, rfl⟩
                · exact (List.takeWhile_prefix dig).trans (List.take_prefix _ _)
              obtain ⟨q, hq⟩ := hpre
              have hdr : (c :: r).drop (digs (c :: r)).length = q := by
                rw [← hq]
                have e : digs (digs (c :: r) ++ q) = digs (c :: r) := by rw [hq]
                rw [e]
                simp
              obtain ⟨y, ys, hy⟩ : ∃ y ys, digs (c :: r) = y :: ys := by
                cases hd : digs (c :: r) with
                | nil => rw [hd] at hp; simp at hp
                | cons y ys => exact ⟨y, ys, rfl⟩
              have hyd : dig y = true := by
                rw [hy] at hq
                simp at hq
                rw [hq.1]; exact h3
              refine ⟨[], q, hq.symm, fun x hx => by simp at hx, by simp, .inr (.inl ⟨rfl, rfl, y, ys, hy, hyd, digs_idem c r⟩), ?_⟩
              rw [hdr] at e1
              have hl : q.length ≤ n := by
                have := congrArg List.length hq
                simp at this
                omega
              exact laid_of n _ _ _ hl e1
        · rw [lxA_name h2] at h
          obtain ⟨l', e1, rfl⟩ := cons_ok h
          have hp := name_pos (r := r) h2
          obtain ⟨q, hq⟩ := List.takeWhile_prefix word (l := c :: r)
          have hdr : (c :: r).drop ((c :: r).takeWhile word).length = q := by
            have := List.drop_left (l₁ := (c :: r).takeWhile word) (l₂ := q)
            rwa [hq] at this
          have hty : (c :: r).takeWhile word = c :: r.takeWhile word := by simp [word, h2]
          refine ⟨[], q, hq.symm, fun x hx => by simp at hx, by simp, .inl ⟨rfl, rfl, c, r.takeWhile word, hty, h2, fun x hx => takeWhile_all x hx⟩, ?_⟩
          rw [hdr] at e1
          have hl : q.length ≤ n := by
            have := congrArg List.length hq
            rw [List.length_append, List.length_cons] at this
            omega
          exact laid_of n _ _ _ hl e1
      · rw [lxA_blank h1] at h
        exact laid_blank h1 (laid_of n _ _ _ (by omega) h)
theorem Laid.good : ∀ {l : List Tk} {a : Nat} {r : List Int}, Laid a r l → ∀ t ∈ l, Good t
  | [], _, _, _, t, ht => by simp at ht
  | u :: l, a, r, h, t, ht => by
    obtain ⟨b, rest, _, _, _, h3, h4⟩ := h
    rcases List.mem_cons.1 ht with rfl | ht
    · exact h3
    · exact h4.good t ht
/-- the same signs, but for their places -/
def SameTs : List Tk → List Tk → Prop
  | [], [] => True
  | t :: ts, u :: us => u.kind = t.kind ∧ u.text = t.text ∧ u.n = t.n ∧ SameTs ts us
  | _, _ => False
/-- signs one behind the other, f i + 1 blanks ahead of each -/
def spaced (f : Nat → Nat) : Nat → List Tk → List Int
  | _, [] => []
  | i, t :: ts => List.replicate (f i + 1) 32 ++ (t.text ++ spaced f (i + 1) ts)
theorem lxA_blanks : ∀ (k a : Nat) (r : List Int), lxA a (List.replicate k 32 ++ r) = lxA (a + k) r
  | 0, a, r => rfl
  | k + 1, a, r => by
    have : lxA a (32 :: (List.replicate k 32 ++ r)) = lxA (a + 1) (List.replicate k 32 ++ r) := lxA_blank (by decide)
    rw [List.replicate_succ, List.cons_append, this, lxA_blanks k]
    congr 1
    omega
theorem spaced_stops (f : Nat → Nat) (i : Nat) (ts : List Tk) (z : List Int) : stops (spaced f i ts ++ 9 :: z) = true := by
  cases ts with
  | nil => rfl
  | cons t ts => rfl
/-- one good sign is read as it is -/
theorem lxA_good {t : Tk} (h : Good t) {a : Nat} {r : List Int} (hs : stops r = true) : lxA a (t.text ++ r) = cons ⟨t.kind, t.text, t.n, a⟩ (lxA (a + t.text.length) r) := by
  obtain ⟨kd, tx, n, pl⟩ := t
  rcases h with ⟨e1, e2, c, q, e, h1, h2⟩ | ⟨e1, e2, c, q, e, h1, h2⟩ | ⟨e1, e2, c, e, h1⟩
  · simp only at e1 e2 e h2
    subst e1 e2 e
    have ht : (c :: (q ++ r)).takeWhile word = c :: q := takeWhile_app (a := c :: q) h2 (stops_word hs)
    show lxA a (c :: (q ++ r)) = _
    rw [lxA_name h1, ht]
    have : (c :: (q ++ r)).drop (c :: q).length = r := List.drop_left (l₁ := c :: q) (l₂ := r)
    rw [this]
  · simp only at e1 e2 e h2
    subst e1 e2 e
    have ht : digs (c :: (q ++ r)) = c :: q := digs_app h2 hs
    have hd : (c :: (q ++ r)).drop (c :: q).length = r := List.drop_left (l₁ := c :: q) (l₂ := r)
    show lxA a (c :: (q ++ r)) = _
    rw [lxA_num h1 (by rw [ht, hd]; exact hs), ht, hd]
  · simp only at e1 e2 e
    subst e1 e2 e
    show lxA a (c :: r) = _
    rw [lxA_sign h1]
    rfl
theorem lxA_spaced (f : Nat → Nat) (z : List Int) : ∀ (ts : List Tk) (i a : Nat), (∀ t ∈ ts, Good t) → ∃ us, lxA a (spaced f i ts ++ 9 :: 59 :: z) = .ok us ∧ SameTs ts us
  | [], i, a, _ => ⟨[], by show lxA a (9 :: 59 :: z) = _; rw [lxA_blank (by decide), lxA_semi], trivial⟩
  | t :: ts, i, a, h => by
    obtain ⟨us, e, hs⟩ := lxA_spaced f z ts (i + 1) (a + (f i + 1) + t.text.length) (fun u hu => h u (by simp [hu]))
    refine ⟨⟨t.kind, t.text, t.n, a + (f i + 1)⟩ :: us, ?_, rfl, rfl, rfl, hs⟩
    show lxA a (List.replicate (f i + 1) 32 ++ (t.text ++ spaced f (i + 1) ts) ++ 9 :: 59 :: z) = _
    rw [List.append_assoc, lxA_blanks, List.append_assoc, lxA_good (h t (by simp)) (spaced_stops _ _ _ _), e]
    rfl
end Lx
end
end Go.Proofs.YtmghklokbmdenaaDoor
namespace Go.Proofs.YtmghklokbmdenaaDoor
section
open Go.RowKit
/-- a sign's cells -/
def tokC (t : Lx.Tk) : List Value := [.int .i64 t.kind, .string (strOfNums t.text), .int .i64 t.n, .int .i64 (t.at_ : Int)]
def flat : List Lx.Tk → List Value
  | [] => []
  | t :: ts => tokC t ++ flat ts
theorem flat_len : ∀ ts : List Lx.Tk, (flat ts).length = ts.length * 4
  | [] => rfl
  | t :: ts => by
    have := flat_len ts
    simp only [flat, List.length_append, tokC, List.length_cons, List.length_nil]
    omega
theorem flat_app : ∀ (ts us : List Lx.Tk), flat (ts ++ us) = flat ts ++ flat us
  | [], us => rfl
  | t :: ts, us => by
    show tokC t ++ flat (ts ++ us) = tokC t ++ flat ts ++ flat us
    rw [flat_app ts us, List.append_assoc]
theorem flat_one (t : Lx.Tk) : flat [t] = tokC t := by simp [flat]
theorem flat_at : ∀ (ts : List Lx.Tk) (j : Nat) (t : Lx.Tk) (k : Nat), ts[j]? = some t → k < 4 → (flat ts)[j * 4 + k]? = (tokC t)[k]?
  | [], j, t, k, h, _ => by simp at h
  | u :: ts, 0, t, k, h, hk => by
    simp at h
    subst h
    show (tokC u ++ flat ts)[0 * 4 + k]? = _
    rw [Nat.zero_mul, Nat.zero_add, List.getElem?_append_left (by simpa [tokC] using hk)]
  | u :: ts, j + 1, t, k, h, hk => by
    have := flat_at ts j t k (by simpa using h) hk
    show (tokC u ++ flat ts)[(j + 1) * 4 + k]? = _
    rw [List.getElem?_append_right (by simp [tokC]; omega)]
    rw [← this]
    congr 1
    simp [tokC]
    omega
theorem tokC_one (t : Lx.Tk) : ∀ u ∈ tokC t, u.oneCell' = true := by
  intro u hu
  simp only [tokC, List.mem_cons, List.not_mem_nil, or_false] at hu
  rcases hu with rfl | rfl | rfl | rfl <;> rfl
section
variable {P : Program} (w : World)
/-- append of one sign to a row of the call's own -/
theorem wp_appT {ops : Array Oper} {rest : List Oper} {o : Oper} {a : Act} {Q : Exit → Act → World → Prop} (hgd : o.guard = none) (s x : Operand) (t : TypeId)
    (ho : o.op = .call { callee := .builtin .append, args := #[s, x], argTypes := #[t, t] })
    (B : Nat) (e : TypeId) (i : TypeInfo) (z : Value) (bytes : Nat) (ht : P.underlying t = some (.slice e)) (hi : P.info? e = some i) (hz : i.zero = some z)
    (hsize : i.size = 4) (hby : i.bytes = bytes) (hzs : z.cells.size = 4)
    (v : Value) (n : Nat) (xs : List Value) (hs : a.eval s = v) (hown : w.ownsRow B e 4 v n xs)
    (C : Array Value) (T : Lx.Tk) (hC : C.toList = tokC T) (G : Nat) (hG : G = w.heap.size) (hx : a.eval x = .slice (some ⟨G, 0, none⟩) 1 1)
    (hn : n + 1 ≤ 1099511627776) (hbytes : bytes ≤ 64) (hbase : B ≤ w.heap.size)
    (h : ∀ v' w', w'.ownsRow B e 4 v' (n + 1) (xs ++ tokC T) → Below B w w' → w.heap.size ≤ w'.heap.size → (∀ k, k < w.heap.size → (∀ g, v.ownBlock = some g → g ≠ k) → w'.heap[k]? = w.heap[k]?) → wpList P ops Q rest (a.put o.dst v') w') :
    wpList P ops Q (o :: rest) a (w.alloc (.cells C e)) := by
  subst hG
  refine wpList_append_own_at (w.alloc (.cells C e)) hgd s x t ho B e i z 4 bytes ht hi hz hsize hby hzs (by omega) v n xs hs (hown.alloc _) ⟨w.heap.size, 0, none⟩ 1 1 (tokC T) hx rfl
    (fun j u hu => ?_) (tokC_one T) (by simp only [maxLen]; omega) ?_ (by simp; omega) fun v' w' h2 h3 _ _ => h v' w' h2 ?_ (Nat.le_trans (by simp) h3.size) (fun k hk hne => ((h3.block k (by simp; omega) (fun e => hne k e.symm rfl))).trans (heap_alloc_old _ _ hk))
  · have h1 : (w.alloc (.cells C e)).heap[w.heap.size]? = some (.cells C e (0, 0)) := by
      show (w.heap.push _)[w.heap.size]? = _
      simp
    have hadd : (⟨w.heap.size, 0, none⟩ : Addr).add j = ⟨w.heap.size, j, none⟩ := by
      unfold Addr.add
      split
      · rename_i h0; subst h0; rfl
      · simp
    rw [hadd]
    simp only [World.cell?, h1]
    rw [← hC] at hu
    simpa using hu
  · have : (n + 1) * bytes ≤ 1099511627776 * 64 := Nat.mul_le_mul hn hbytes
    omega
  · refine ((Below.refl _ _).alloc hbase _).grown h3 (by simp; omega) fun k hk => ((hown.alloc (.cells C e)).lt k hk).1
end
namespace Lx
theorem byte_get {s : ByteArray} {p : Nat} (h : p < s.size) : s.data.toList[p]? = some (s[p]'h) := by
  have h2 : p < s.data.toList.length := by rw [Array.length_toList]; exact h
  rw [List.getElem?_eq_getElem h2]
  rfl
/-- runes below 128 are bytes -/
theorem ascii_at {s : ByteArray} {p : Nat} {x : Int} {r : List Int} (h : runesAt s p = x :: r) (hx : x < 128) : ∃ hp : p < s.size, x = ((s[p]'hp).toNat : Int) ∧ (s[p]'hp).toNat < 128 ∧ runesAt s (p + 1) = r ∧ Utf8.decode s p = ((s[p]'hp).toNat, 1) := by
  by_cases hp : p < s.size
  · rw [runesAt_step hp] at h
    injection h with h1 h2
    rcases Nat.lt_or_ge (s[p]'hp).toNat 128 with h3 | h3
    · have hd := decode_ascii s p hp h3
      rw [hd] at h1 h2
      exact ⟨hp, h1.symm, h3, h2, hd⟩
    · have := (decode_high s p hp h3).1
      omega
  · rw [runesAt_end hp] at h
    cases h
theorem ascii_run : ∀ (u : List Int) (s : ByteArray) (p : Nat) (r : List Int), runesAt s p = u ++ r → (∀ x ∈ u, x < 128) → p ≤ s.size → p + u.length ≤ s.size ∧ runesAt s (p + u.length) = r ∧ (s.data.toList.drop p).take u.length = u.map (fun n => UInt8.ofNat n.toNat)
  | [], s, p, r, h, _, hp => ⟨by simpa using hp, by simpa using h, by simp⟩
  | x :: u, s, p, r, h, hu, _ => by
    obtain ⟨hp, hx, hb, h1, _⟩ := ascii_at (x := x) (r := u ++ r) h (hu x (by simp))
    obtain ⟨k1, k2, k3⟩ := ascii_run u s (p + 1) r h1 (fun y hy => hu y (by simp [hy])) hp
    refine ⟨by simp; omega, ?_, ?_⟩
    · rw [← k2]
      congr 1
      simp
      omega
    · have hl : p < s.data.toList.length := by rw [Array.length_toList]; exact hp
      rw [List.drop_eq_getElem_cons hl, List.length_cons, List.take_succ_cons, List.map_cons, k3]
      congr 1
      rw [hx]
      have e : s.data.toList[p] = s[p]'hp := rfl
      rw [e]
      simp
theorem extract_list (s : ByteArray) (p e : Nat) : (s.extract p e).data.toList = (s.data.toList.drop p).take (e - p) := by
  rw [Lib.extract_data]
/-- a string's bytes that are its first runes -/
theorem ascii_extract {u r : List Int} {s : ByteArray} {p : Nat} (h : runesAt s p = u ++ r) (hu : ∀ x ∈ u, x < 128) (hp : p ≤ s.size) : s.extract p (p + u.length) = strOfNums u := by
  apply ByteArray.ext
  apply Array.toList_inj.1
  rw [extract_list, Nat.add_sub_cancel_left, (ascii_run u s p r h hu hp).2.2, strOfNums_data]
theorem runesAt_tail (s : ByteArray) (n : Nat) : ∀ (f p : Nat), runesF (s.extract n s.size) f p = runesF s f (n + p)
  | 0, p => rfl
  | f + 1, p => by
    unfold runesF
    rw [Lib.tail_size, Lib.tail_decode, runesAt_tail s n f]
    by_cases h : n + p < s.size
    · rw [if_pos (by omega), if_pos h, Nat.add_assoc]
    · rw [if_neg (by omega), if_neg h]
theorem runes_tail (s : ByteArray) (n : Nat) : runes (s.extract n s.size) = runesAt s n := by
  unfold runes runesAt
  rw [runesAt_tail, Lib.tail_size]
  rfl
/-- what begins with ASCII reads so -/
theorem runesF_app (u : List Int) (t : ByteArray) (hu : ∀ x ∈ u, 0 ≤ x ∧ x < 128) : runes (strOfNums u ++ t) = u ++ runes t := by
  have key : ∀ k, k ≤ u.length → runesAt (strOfNums u ++ t) (u.length - k) = u.drop (u.length - k) ++ runes t := by
    intro k
    induction k with
    | zero =>
      intro _
      rw [Nat.sub_zero, List.drop_length, List.nil_append, ← runes_tail]
      congr 1
      apply ByteArray.ext
      apply Array.toList_inj.1
      rw [extract_list, ByteArray.size_append, strOfNums_size]
      have e : (strOfNums u ++ t).data.toList = (u.map fun n => UInt8.ofNat n.toNat) ++ t.data.toList := by
        rw [ByteArray.data_append, Array.toList_append, strOfNums_data]
      rw [e, List.drop_append_of_le_length (by simp), List.drop_of_length_le (by simp), List.nil_append, List.take_of_length_le]
      rw [Array.length_toList]
      show t.size ≤ _
      omega
    | succ k ih =>
      intro hk
      have ih := ih (by omega)
      have hlt : u.length - (k + 1) < u.length := by omega
      have hp : u.length - (k + 1) < (strOfNums u ++ t).size := by rw [ByteArray.size_append, strOfNums_size]; omega
      have hx := hu u[u.length - (k + 1)] (List.getElem_mem hlt)
      have hb : (((strOfNums u ++ t)[u.length - (k + 1)]'hp).toNat : Int) = u[u.length - (k + 1)] := by
        have h1 := byte_get hp
        have e : (strOfNums u ++ t).data.toList = (u.map fun n => UInt8.ofNat n.toNat) ++ t.data.toList := by
          rw [ByteArray.data_append, Array.toList_append, strOfNums_data]
        rw [e, List.getElem?_append_left (by simpa using hlt), List.getElem?_map, List.getElem?_eq_getElem hlt] at h1
        simp only [Option.map_some, Option.some.injEq] at h1
        rw [← h1]
        simp
        omega
      have hd := decode_ascii (strOfNums u ++ t) _ hp (by omega)
      rw [runesAt_step hp, hd]
      simp only
      rw [show u.length - (k + 1) + 1 = u.length - k by omega, ih, List.drop_eq_getElem_cons hlt, hb, show u.length - (k + 1) + 1 = u.length - k by omega]
      rfl
  have := key u.length (Nat.le_refl _)
  rw [Nat.sub_self, runesAt_zero] at this
  simpa using this
theorem lower_lt {c : Int} (h : lower c = true) : 0 ≤ c ∧ c < 128 := by
  have : 97 ≤ c ∧ c ≤ 122 := by simpa [lower] using h
  omega
theorem dig_lt {c : Int} (h : dig c = true) : 0 ≤ c ∧ c < 128 := by
  have : 48 ≤ c ∧ c ≤ 57 := by simpa [dig] using h
  omega
theorem word_lt {c : Int} (h : word c = true) : 0 ≤ c ∧ c < 128 := by
  unfold word at h
  rw [Bool.or_eq_true] at h
  rcases h with h | h
  · exact lower_lt h
  · exact dig_lt h
theorem sgn_lt {c : Int} (h : sgn c = true) : 0 ≤ c ∧ c < 128 := by
  have : c = 44 ∨ c = 58 ∨ c = 91 ∨ c = 93 ∨ c = 43 := by simpa [sgn] using h
  omega
theorem decNat_val : ∀ (t : List Int) (acc : Nat), (∀ x ∈ t, dig x = true) → Lib.decFrom acc (t.map fun n => UInt8.ofNat n.toNat) = some (t.foldl (fun n c => 10 * n + (c - 48)) (acc : Int)).toNat ∧ 0 ≤ t.foldl (fun n c => 10 * n + (c - 48)) (acc : Int)
  | [], acc, _ => by simp [Lib.decFrom]
  | x :: t, acc, h => by
    have hx : 48 ≤ x ∧ x ≤ 57 := by simpa [dig] using h x (by simp)
    have hd : Lib.digitVal (UInt8.ofNat x.toNat) = some (x.toNat - 48) := by
      obtain ⟨n, rfl⟩ : ∃ n : Nat, x = n := ⟨x.toNat, by omega⟩
      have : n = 48 ∨ n = 49 ∨ n = 50 ∨ n = 51 ∨ n = 52 ∨ n = 53 ∨ n = 54 ∨ n = 55 ∨ n = 56 ∨ n = 57 := by omega
      rcases this with rfl | rfl | rfl | rfl | rfl | rfl | rfl | rfl | rfl | rfl <;> rfl
    obtain ⟨k1, k2⟩ := decNat_val t (acc * 10 + (x.toNat - 48)) (fun y hy => h y (by simp [hy]))
    have e : ((acc * 10 + (x.toNat - 48) : Nat) : Int) = 10 * (acc : Int) + (x - 48) := by omega
    rw [e] at k1 k2
    simp only [List.map_cons, Lib.decFrom, hd, List.foldl_cons]
    exact ⟨k1, k2⟩
/-- what strconv.Atoi reads of digits is their value -/
theorem atoi_val {x : Int} {t : List Int} (h : ∀ y ∈ x :: t, dig y = true) : Lib.atoi (strOfNums (x :: t)).data.toList = some (val (x :: t)) := by
  have hx : 48 ≤ x ∧ x ≤ 57 := by simpa [dig] using h x (by simp)
  obtain ⟨k1, k2⟩ := decNat_val (x :: t) 0 h
  have e1 : (UInt8.ofNat x.toNat == 45) = false := by
    obtain ⟨n, rfl⟩ : ∃ n : Nat, x = n := ⟨x.toNat, by omega⟩
    have : n = 48 ∨ n = 49 ∨ n = 50 ∨ n = 51 ∨ n = 52 ∨ n = 53 ∨ n = 54 ∨ n = 55 ∨ n = 56 ∨ n = 57 := by omega
    rcases this with rfl | rfl | rfl | rfl | rfl | rfl | rfl | rfl | rfl | rfl <;> rfl
  have e2 : (UInt8.ofNat x.toNat == 43) = false := by
    obtain ⟨n, rfl⟩ : ∃ n : Nat, x = n := ⟨x.toNat, by omega⟩
    have : n = 48 ∨ n = 49 ∨ n = 50 ∨ n = 51 ∨ n = 52 ∨ n = 53 ∨ n = 54 ∨ n = 55 ∨ n = 56 ∨ n = 57 := by omega
    rcases this with rfl | rfl | rfl | rfl | rfl | rfl | rfl | rfl | rfl | rfl <;> rfl
  rw [strOfNums_data, List.map_cons]
  rw [List.map_cons] at k1
  unfold Lib.atoi
  simp only [e1, e2, Bool.false_eq_true, if_false, Lib.decNat, List.isEmpty_cons, k1, Option.map_some]
  congr 1
  unfold val
  exact Int.toNat_of_nonneg k2
end Lx
end
end Go.Proofs.YtmghklokbmdenaaDoor
namespace Go.Proofs.YtmghklokbmdenaaDoor
section
namespace Lx
/-- where the j-th sign may stand: behind the one ahead of it -/
def en : Nat → List Tk → Nat → Nat
  | a, _, 0 => a
  | a, [], _ + 1 => a
  | _, t :: ts, j + 1 => en (t.at_ + t.text.length) ts j
def tot : List Tk → Nat
  | [] => 0
  | t :: ts => t.text.length + tot ts
theorem Laid.tot_le : ∀ {ts : List Tk} {a : Nat} {r : List Int}, Laid a r ts → tot ts ≤ r.length
  | [], _, _, _ => Nat.zero_le _
  | t :: ts, a, r, h => by
    obtain ⟨b, rest, e, _, _, _, h4⟩ := h
    have := h4.tot_le
    rw [e]
    simp only [List.length_append, tot]
    omega
theorem Laid.len_le : ∀ {ts : List Tk} {a : Nat} {r : List Int}, Laid a r ts → ts.length ≤ r.length
  | [], _, _, _ => by simp
  | t :: ts, a, r, h => by
    obtain ⟨b, rest, e, _, _, hg, h4⟩ := h
    have := h4.len_le
    have := hg.pos
    rw [e]
    simp only [List.length_append, List.length_cons]
    omega
theorem spaced_len (f : Nat → Nat) (hf : ∀ i, f i ≤ 3) : ∀ (ts : List Tk) (i : Nat), (spaced f i ts).length ≤ 4 * ts.length + tot ts
  | [], i => by simp [spaced]
  | t :: ts, i => by
    have h1 := spaced_len f hf ts (i + 1)
    have h2 := hf i
    simp only [spaced, List.length_append, List.length_replicate, List.length_cons, tot]
    omega
theorem drop_mid {rs b t rest : List Int} {a : Nat} (h : rs.drop a = b ++ (t ++ rest)) : rs.drop (a + b.length) = t ++ rest ∧ rs.drop (a + b.length + t.length) = rest := by
  have h1 : rs.drop (a + b.length) = t ++ rest := by rw [← List.drop_drop, h, List.drop_left]
  exact ⟨h1, by rw [← List.drop_drop, h1, List.drop_left]⟩
theorem drop_getD {rs u q : List Int} {a : Nat} (h : rs.drop a = u ++ q) {k : Nat} (hk : k < u.length) : a + k < rs.length ∧ rs.getD (a + k) 0 = u.getD k 0 := by
  have e : rs[a + k]? = u[k]? := by rw [← List.getElem?_drop, h, List.getElem?_append_left hk]
  have hl := congrArg List.length h
  rw [List.length_drop, List.length_append] at hl
  exact ⟨by omega, by simp only [List.getD, e]⟩
/-- what stands where -/
theorem Laid.nth {rs : List Int} : ∀ {ts : List Tk} {a : Nat} {j : Nat} {t : Tk}, Laid a (rs.drop a) ts → a ≤ rs.length → ts[j]? = some t →
    en a ts j ≤ t.at_ ∧ en a ts (j + 1) = t.at_ + t.text.length ∧ t.at_ + t.text.length ≤ rs.length ∧ (∀ p, en a ts j ≤ p → p < t.at_ → blank (rs.getD p 0) = true) ∧ (∀ k, k < t.text.length → rs.getD (t.at_ + k) 0 = t.text.getD k 0)
  | [], _, _, _, _, _, h => by simp at h
  | u :: ts, a, 0, t, h, ha, ht => by
    obtain ⟨b, rest, e, hb, hat, _, _⟩ := h
    simp at ht
    subst ht
    obtain ⟨h1, h2⟩ := drop_mid e
    have hl := congrArg List.length e
    rw [List.length_drop, List.length_append, List.length_append] at hl
    refine ⟨by rw [hat]; show a ≤ _; omega, by cases ts <;> rfl, by omega, fun p hp1 hp2 => ?_, fun k hk => ?_⟩
    · have hp1 : a ≤ p := hp1
      have := drop_getD e (k := p - a) (by omega)
      rw [show a + (p - a) = p by omega] at this
      rw [this.2]
      exact hb _ (getD_mem' (by omega))
    · rw [hat]
      exact (drop_getD h1 hk).2
  | u :: ts, a, j + 1, t, h, ha, ht => by
    obtain ⟨b, rest, e, hb, hat, _, h4⟩ := h
    obtain ⟨h1, h2⟩ := drop_mid e
    have hl := congrArg List.length e
    rw [List.length_drop, List.length_append, List.length_append] at hl
    rw [← h2, ← hat] at h4
    have h5 := Laid.nth h4 (by omega) (show ts[j]? = some t by simpa using ht)
    exact h5
where getD_mem' {l : List Int} {j : Nat} (h : j < l.length) : l.getD j 0 ∈ l := by simp [List.getD, h]
/-- what stands behind the last -/
theorem Laid.rest {rs : List Int} : ∀ {ts : List Tk} {a : Nat}, Laid a (rs.drop a) ts → a ≤ rs.length →
    ∃ L, en a ts ts.length ≤ L ∧ L ≤ rs.length ∧ (∀ p, en a ts ts.length ≤ p → p < L → blank (rs.getD p 0) = true) ∧ (L = rs.length ∨ L < rs.length ∧ rs.getD L 0 = 59)
  | [], a, h, ha => by
    obtain ⟨b, rest, e, hb, hr⟩ := h
    have hl := congrArg List.length e
    rw [List.length_drop, List.length_append] at hl
    refine ⟨a + b.length, by show a ≤ _; omega, by omega, fun p hp1 hp2 => ?_, ?_⟩
    · have hp1 : a ≤ p := hp1
      have := drop_getD e (k := p - a) (by omega)
      rw [show a + (p - a) = p by omega] at this
      rw [this.2]
      exact hb _ (by simp [List.getD, show p - a < b.length by omega])
    · rcases hr with rfl | ⟨q, rfl⟩
      · left; simp at hl; omega
      · right
        have e2 : rs.drop (a + b.length) = [59] ++ q := by rw [← List.drop_drop, e, List.drop_left]; rfl
        have := drop_getD e2 (k := 0) (by simp)
        rw [Nat.add_zero] at this
        exact ⟨this.1, by rw [this.2]; rfl⟩
  | u :: ts, a, h, ha => by
    obtain ⟨b, rest, e, hb, hat, _, h4⟩ := h
    obtain ⟨h1, h2⟩ := drop_mid e
    have hl := congrArg List.length e
    rw [List.length_drop, List.length_append, List.length_append] at hl
    rw [← h2, ← hat] at h4
    have h5 := Laid.rest h4 (by omega)
    exact h5
theorem SameTs.nth : ∀ {ts us : List Tk}, SameTs ts us → us.length = ts.length ∧ ∀ (j : Nat) (t : Tk), ts[j]? = some t → ∃ u, us[j]? = some u ∧ u.kind = t.kind ∧ u.text = t.text ∧ u.n = t.n
  | [], [], _ => ⟨rfl, fun j t h => by simp at h⟩
  | t :: ts, u :: us, h => by
    obtain ⟨h1, h2, h3, h4⟩ := h
    obtain ⟨k1, k2⟩ := h4.nth
    refine ⟨by simp [k1], fun j v hv => ?_⟩
    cases j with
    | zero => simp at hv; subst hv; exact ⟨u, rfl, h1, h2, h3⟩
    | succ j => exact k2 j v (by simpa using hv)
  | [], _ :: _, h => h.elim
  | _ :: _, [], h => h.elim
theorem laid_ok {s : ByteArray} {ts : List Tk} (h : lxA 0 (runes s) = .ok ts) : Laid 0 ((runes s).drop 0) ts := by
  rw [List.drop_zero]
  exact laid_of _ 0 _ ts (Nat.le_refl _) h
end Lx
end
end Go.Proofs.YtmghklokbmdenaaDoor
