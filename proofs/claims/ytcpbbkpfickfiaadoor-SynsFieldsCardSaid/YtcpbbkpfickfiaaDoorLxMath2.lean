/- Plain facts of reading a line of runes into signs: where each sign stands; signs put behind one another with blanks between are read as they were. -/
import Derived.Test.YtcpbbkpfickfiaaDoorLxMath
set_option linter.unusedVariables false
set_option linter.unusedSimpArgs false
namespace Go.Proofs.YtcpbbkpfickfiaaDoor
namespace Lx
/-- a sign as it may be -/
def Good (t : Tk) : Prop :=
  (t.kind = 1 ∧ t.n = 0 ∧ ∃ c r, t.text = c :: r ∧ lower c = true ∧ ∀ x ∈ t.text, word x = true) ∨
  (t.kind = 2 ∧ t.n = val t.text ∧ ∃ c r, t.text = c :: r ∧ dig c = true ∧ digs t.text = t.text) ∨
  (t.kind = 3 ∧ t.n = 0 ∧ ∃ c, t.text = [c] ∧ sgn c = true)
theorem Good.pos {t : Tk} (h : Good t) : 0 < t.text.length := by
  rcases h with ⟨_, _, c, r, e, _⟩ | ⟨_, _, c, r, e, _⟩ | ⟨_, _, c, e, _⟩ <;> rw [e] <;> simp
theorem dig_word {c : Int} (h : dig c = true) : word c = true := by simp [word, h]
theorem takeWhile_app {p : Int → Bool} : ∀ {a b : List Int}, (∀ x ∈ a, p x = true) → (∀ x r, b = x :: r → p x = false) → (a ++ b).takeWhile p = a
  | [], [], _, _ => rfl
  | [], x :: b, _, h => by simp [h x b rfl]
  | y :: a, b, h1, h2 => by
    have := takeWhile_app (a := a) (b := b) (fun x hx => h1 x (by simp [hx])) h2
    simp [h1 y (by simp), this]
theorem takeWhile_all {p : Int → Bool} {a : List Int} : ∀ x ∈ a.takeWhile p, p x = true := fun x hx => by
  induction a with
  | nil => simp at hx
  | cons y a ih =>
    rw [List.takeWhile_cons] at hx
    split at hx
    · rcases List.mem_cons.1 hx with rfl | hx
      · assumption
      · exact ih hx
    · simp at hx
theorem stops_word {r : List Int} (h : stops r = true) : ∀ x q, r = x :: q → word x = false := fun x q e => by
  subst e
  simpa [stops] using h
theorem stops_dig {r : List Int} (h : stops r = true) : ∀ x q, r = x :: q → dig x = false := fun x q e => by
  have := stops_word h x q e
  simp [word] at this
  exact this.2
theorem digs_idem (c : Int) (r : List Int) : digs (digs (c :: r)) = digs (c :: r) := by
  rw [digs_cons]
  split
  · rename_i h; subst h; rfl
  · rename_i h
    cases hw : ((c :: r).take 5).takeWhile dig with
    | nil => rfl
    | cons y q =>
      have hall := takeWhile_all (p := dig) (a := (c :: r).take 5)
      rw [hw] at hall
      have hlen := (List.takeWhile_prefix dig (l := (c :: r).take 5)).length_le
      rw [hw, List.length_take] at hlen
      have hy : y = c := by
        rw [List.take_succ_cons, List.takeWhile_cons] at hw
        split at hw
        · injection hw with h1 _; exact h1.symm
        · cases hw
      rw [digs_cons, hy, if_neg h, ← hy, List.take_of_length_le (by omega)]
      have := takeWhile_app (p := dig) (a := y :: q) (b := []) hall (fun x r e => by cases e)
      simpa using this
theorem digs_app {c : Int} {r b : List Int} (hd : digs (c :: r) = c :: r) (hb : stops b = true) : digs (c :: r ++ b) = c :: r := by
  show digs (c :: (r ++ b)) = c :: r
  rw [digs_cons] at hd ⊢
  split
  · rename_i h
    rw [if_pos h] at hd
    exact hd
  · rename_i h
    rw [if_neg h] at hd
    have hall : ∀ x ∈ c :: r, dig x = true := by
      have := takeWhile_all (p := dig) (a := (c :: r).take 5)
      rwa [hd] at this
    have hlen : (c :: r).length ≤ 5 := by
      have := (List.takeWhile_prefix dig (l := (c :: r).take 5)).length_le
      rw [hd, List.length_take] at this
      omega
    have e : (c :: (r ++ b)).take 5 = (c :: r) ++ b.take (5 - (c :: r).length) := by
      show ((c :: r) ++ b).take 5 = _
      rw [List.take_append, List.take_of_length_le hlen]
    rw [e]
    refine takeWhile_app hall (fun x q hx => ?_)
    cases b with
    | nil => simp at hx
    | cons y b =>
      have hk : 5 - (c :: r).length ≠ 0 := fun h0 => by rw [h0] at hx; simp at hx
      obtain ⟨k, hk⟩ := Nat.exists_eq_succ_of_ne_zero hk
      rw [hk] at hx
      simp at hx
      exact stops_dig hb x b (by rw [hx.1])
/-- where the signs stand: behind blanks, one behind the other, up to the end or a comment -/
def Laid : Nat → List Int → List Tk → Prop
  | a, r, [] => ∃ b rest, r = b ++ rest ∧ (∀ x ∈ b, blank x = true) ∧ (rest = [] ∨ ∃ q, rest = 59 :: q)
  | a, r, t :: ts => ∃ b rest, r = b ++ (t.text ++ rest) ∧ (∀ x ∈ b, blank x = true) ∧ t.at_ = a + b.length ∧ Good t ∧ Laid (t.at_ + t.text.length) rest ts
theorem laid_blank {a : Nat} {c : Int} {r : List Int} {l : List Tk} (hc : blank c = true) (h : Laid (a + 1) r l) : Laid a (c :: r) l := by
  cases l with
  | nil =>
    obtain ⟨b, rest, e, h1, h2⟩ := h
    exact ⟨c :: b, rest, by rw [e]; rfl, fun x hx => by rcases List.mem_cons.1 hx with rfl | hx; exact hc; exact h1 x hx, h2⟩
  | cons t ts =>
    obtain ⟨b, rest, e, h1, h2, h3, h4⟩ := h
    exact ⟨c :: b, rest, by rw [e]; rfl, fun x hx => by rcases List.mem_cons.1 hx with rfl | hx; exact hc; exact h1 x hx, by rw [h2]; simp; omega, h3, h4⟩
theorem cons_ok {t : Tk} {e : Except Nat (List Tk)} {l : List Tk} (h : cons t e = .ok l) : ∃ l', e = .ok l' ∧ l = t :: l' := by
  cases e with
  | error x => simp [cons] at h
  | ok l' => simp [cons] at h; exact ⟨l', rfl, h.symm⟩
theorem laid_of : ∀ (n a : Nat) (r : List Int) (l : List Tk), r.length ≤ n → lxA a r = .ok l → Laid a r l
  | n, a, [], l, _, h => by
    rw [lxA_nil] at h
    injection h with h
    subst h
    exact ⟨[], [], rfl, fun x hx => by simp at hx, .inl rfl⟩
  | 0, a, c :: r, l, h, _ => by simp at h
  | n + 1, a, c :: r, l, hn, h => by
    simp only [List.length_cons] at hn
    by_cases h0 : c = 59
    · subst h0
      rw [lxA_semi] at h
      injection h with h
      subst h
      exact ⟨[], 59 :: r, rfl, fun x hx => by simp at hx, .inr ⟨r, rfl⟩⟩
    · cases h1 : blank c
      · cases h2 : lower c
        · cases h3 : dig c
          · cases h4 : sgn c
            · rw [lxA_bad h0 h1 h2 h3 h4] at h; cases h
            · rw [lxA_sign h4] at h
              obtain ⟨l', e1, rfl⟩ := cons_ok h
              exact ⟨[], r, rfl, fun x hx => by simp at hx, by simp, .inr (.inr ⟨rfl, rfl, c, rfl, h4⟩), laid_of n _ _ _ (by omega) (by simpa using e1)⟩
          · cases hs : stops ((c :: r).drop (digs (c :: r)).length)
            · rw [lxA_nums h3 hs] at h; cases h
            · rw [lxA_num h3 hs] at h
              obtain ⟨l', e1, rfl⟩ := cons_ok h
              have hp := digs_pos (r := r) h3
              have hpre : digs (c :: r) <+: c :: r := by
                rw [digs_cons]
                split
                · exact ⟨r, rfl⟩
                · exact (List.takeWhile_prefix dig).trans (List.take_prefix _ _)
              obtain ⟨q, hq⟩ := hpre
              have hdr : (c :: r).drop (digs (c :: r)).length = q := by
                rw [← hq]
                have e : digs (digs (c :: r) ++ q) = digs (c :: r) := by rw [hq]
                rw [e]
                simp
              obtain ⟨y, ys, hy⟩ : ∃ y ys, digs (c :: r) = y :: ys := by
                cases hd : digs (c :: r) with
                | nil => rw [hd] at hp; simp at hp
                | cons y ys => exact ⟨y, ys, rfl⟩
              have hyd : dig y = true := by
                rw [hy] at hq
                simp at hq
                rw [hq.1]; exact h3
              refine ⟨[], q, hq.symm, fun x hx => by simp at hx, by simp, .inr (.inl ⟨rfl, rfl, y, ys, hy, hyd, digs_idem c r⟩), ?_⟩
              rw [hdr] at e1
              have hl : q.length ≤ n := by
                have := congrArg List.length hq
                simp at this
                omega
              exact laid_of n _ _ _ hl e1
        · rw [lxA_name h2] at h
          obtain ⟨l', e1, rfl⟩ := cons_ok h
          have hp := name_pos (r := r) h2
          obtain ⟨q, hq⟩ := List.takeWhile_prefix word (l := c :: r)
          have hdr : (c :: r).drop ((c :: r).takeWhile word).length = q := by
            have := List.drop_left (l₁ := (c :: r).takeWhile word) (l₂ := q)
            rwa [hq] at this
          have hty : (c :: r).takeWhile word = c :: r.takeWhile word := by simp [word, h2]
          refine ⟨[], q, hq.symm, fun x hx => by simp at hx, by simp, .inl ⟨rfl, rfl, c, r.takeWhile word, hty, h2, fun x hx => takeWhile_all x hx⟩, ?_⟩
          rw [hdr] at e1
          have hl : q.length ≤ n := by
            have := congrArg List.length hq
            rw [List.length_append, List.length_cons] at this
            omega
          exact laid_of n _ _ _ hl e1
      · rw [lxA_blank h1] at h
        exact laid_blank h1 (laid_of n _ _ _ (by omega) h)
theorem Laid.good : ∀ {l : List Tk} {a : Nat} {r : List Int}, Laid a r l → ∀ t ∈ l, Good t
  | [], _, _, _, t, ht => by simp at ht
  | u :: l, a, r, h, t, ht => by
    obtain ⟨b, rest, _, _, _, h3, h4⟩ := h
    rcases List.mem_cons.1 ht with rfl | ht
    · exact h3
    · exact h4.good t ht
/-- the same signs, but for their places -/
def SameTs : List Tk → List Tk → Prop
  | [], [] => True
  | t :: ts, u :: us => u.kind = t.kind ∧ u.text = t.text ∧ u.n = t.n ∧ SameTs ts us
  | _, _ => False
/-- signs one behind the other, f i + 1 blanks ahead of each -/
def spaced (f : Nat → Nat) : Nat → List Tk → List Int
  | _, [] => []
  | i, t :: ts => List.replicate (f i + 1) 32 ++ (t.text ++ spaced f (i + 1) ts)
theorem lxA_blanks : ∀ (k a : Nat) (r : List Int), lxA a (List.replicate k 32 ++ r) = lxA (a + k) r
  | 0, a, r => rfl
  | k + 1, a, r => by
    have : lxA a (32 :: (List.replicate k 32 ++ r)) = lxA (a + 1) (List.replicate k 32 ++ r) := lxA_blank (by decide)
    rw [List.replicate_succ, List.cons_append, this, lxA_blanks k]
    congr 1
    omega
theorem spaced_stops (f : Nat → Nat) (i : Nat) (ts : List Tk) (z : List Int) : stops (spaced f i ts ++ 9 :: z) = true := by
  cases ts with
  | nil => rfl
  | cons t ts => rfl
/-- one good sign is read as it is -/
theorem lxA_good {t : Tk} (h : Good t) {a : Nat} {r : List Int} (hs : stops r = true) : lxA a (t.text ++ r) = cons ⟨t.kind, t.text, t.n, a⟩ (lxA (a + t.text.length) r) := by
  obtain ⟨kd, tx, n, pl⟩ := t
  rcases h with ⟨e1, e2, c, q, e, h1, h2⟩ | ⟨e1, e2, c, q, e, h1, h2⟩ | ⟨e1, e2, c, e, h1⟩
  · simp only at e1 e2 e h2
    subst e1 e2 e
    have ht : (c :: (q ++ r)).takeWhile word = c :: q := takeWhile_app (a := c :: q) h2 (stops_word hs)
    show lxA a (c :: (q ++ r)) = _
    rw [lxA_name h1, ht]
    have : (c :: (q ++ r)).drop (c :: q).length = r := List.drop_left (l₁ := c :: q) (l₂ := r)
    rw [this]
  · simp only at e1 e2 e h2
    subst e1 e2 e
    have ht : digs (c :: (q ++ r)) = c :: q := digs_app h2 hs
    have hd : (c :: (q ++ r)).drop (c :: q).length = r := List.drop_left (l₁ := c :: q) (l₂ := r)
    show lxA a (c :: (q ++ r)) = _
    rw [lxA_num h1 (by rw [ht, hd]; exact hs), ht, hd]
  · simp only at e1 e2 e
    subst e1 e2 e
    show lxA a (c :: r) = _
    rw [lxA_sign h1]
    rfl
theorem lxA_spaced (f : Nat → Nat) (z : List Int) : ∀ (ts : List Tk) (i a : Nat), (∀ t ∈ ts, Good t) → ∃ us, lxA a (spaced f i ts ++ 9 :: 59 :: z) = .ok us ∧ SameTs ts us
  | [], i, a, _ => ⟨[], by show lxA a (9 :: 59 :: z) = _; rw [lxA_blank (by decide), lxA_semi], trivial⟩
  | t :: ts, i, a, h => by
    obtain ⟨us, e, hs⟩ := lxA_spaced f z ts (i + 1) (a + (f i + 1) + t.text.length) (fun u hu => h u (by simp [hu]))
    refine ⟨⟨t.kind, t.text, t.n, a + (f i + 1)⟩ :: us, ?_, rfl, rfl, rfl, hs⟩
    show lxA a (List.replicate (f i + 1) 32 ++ (t.text ++ spaced f (i + 1) ts) ++ 9 :: 59 :: z) = _
    rw [List.append_assoc, lxA_blanks, List.append_assoc, lxA_good (h t (by simp)) (spaced_stops _ _ _ _), e]
    rfl
end Lx
end Go.Proofs.YtcpbbkpfickfiaaDoor
