/- A text behind a blank leaves an error that lies before it as it is. -/
import Derived.Test.YtflnffgohbbhiaaGreatDoorG32
namespace Go.Proofs.YtflnffgohbbhiaaGreatDoor
open Go Go.RowKit
set_option linter.unusedVariables false
/-- The same result with X behind the last blank; an end of the text within a token says nothing. -/
def Ext {α : Type} (X : List UInt8) (a b : Sc α) : Prop := match a with
  | .bad e p => e = 11 ∨ b = .bad e p
  | .ok v r => ∃ r', r = r' ++ [32] ∧ b = .ok v (r' ++ 32 :: X)
theorem posL_ext (n : Nat) (l X : List UInt8) : posL (n + X.length) (l ++ 32 :: X) = posL n (l ++ [32]) := by
  unfold posL
  simp only [List.length_append, List.length_cons, List.length_nil]
  omega
theorem posL_ext1 (n : Nat) (c : UInt8) (l X : List UInt8) : posL (n + X.length) (c :: (l ++ 32 :: X)) = posL n (c :: (l ++ [32])) := posL_ext n (c :: l) X
theorem enc_ext (X : List UInt8) (n : Nat) (m : UInt8) (hm : (32 : UInt8) ≠ m) : ∀ (l acc : List UInt8), Ext X (encL n m acc (l ++ [32])) (encL (n + X.length) m acc (l ++ 32 :: X))
  | [], acc => by
    rw [List.nil_append, encL, if_neg hm, if_neg (by decide)]
    exact .inl rfl
  | [c], acc => by
    show Ext X (encL n m acc (c :: [32])) (encL (n + X.length) m acc (c :: 32 :: X))
    rw [encL, encL.eq_def (n + X.length)]
    dsimp only
    by_cases h1 : c = m
    · rw [if_pos h1, if_pos h1]
      exact ⟨[], rfl, rfl⟩
    rw [if_neg h1, if_neg h1]
    by_cases h2 : c = 92
    · rw [if_pos h2, if_pos h2]
      have h3 : ¬((32 : UInt8) = m ∨ (32 : UInt8) = 92) := by rintro (h | h); exact hm h; revert h; decide
      rw [if_neg h3, if_neg h3]
      right
      exact congrArg _ (posL_ext n [c] X)
    · rw [if_neg h2, if_neg h2]
      exact enc_ext X n m hm [] (acc ++ [c])
  | c :: d :: l, acc => by
    show Ext X (encL n m acc (c :: d :: (l ++ [32]))) (encL (n + X.length) m acc (c :: d :: (l ++ 32 :: X)))
    rw [encL, encL.eq_def (n + X.length)]
    dsimp only
    by_cases h1 : c = m
    · rw [if_pos h1, if_pos h1]
      exact ⟨d :: l, rfl, rfl⟩
    rw [if_neg h1, if_neg h1]
    by_cases h2 : c = 92
    · rw [if_pos h2, if_pos h2]
      by_cases h3 : d = m ∨ d = 92
      · rw [if_pos h3, if_pos h3]
        exact enc_ext X n m hm l (acc ++ [d])
      · rw [if_neg h3, if_neg h3]
        right
        exact congrArg _ (posL_ext n (c :: d :: l) X)
    · rw [if_neg h2, if_neg h2]
      exact enc_ext X n m hm (d :: l) (acc ++ [c])
theorem con32 : conB 32 = false := by decide
theorem word_ext (X : List UInt8) : ∀ l : List UInt8, wordL (l ++ 32 :: X) = wordL (l ++ [32])
  | [] => by show List.takeWhile conB (32 :: X) = List.takeWhile conB [32]; rw [List.takeWhile_cons, List.takeWhile_cons, con32]; rfl
  | c :: l => by
    show List.takeWhile conB (c :: (l ++ 32 :: X)) = List.takeWhile conB (c :: (l ++ [32]))
    rw [List.takeWhile_cons, List.takeWhile_cons]
    have := word_ext X l
    unfold wordL at this
    rw [this]
theorem rest_ext (X : List UInt8) : ∀ l : List UInt8, restL (l ++ 32 :: X) = restL l ++ 32 :: X
  | [] => by show List.dropWhile conB (32 :: X) = _; rw [List.dropWhile_cons, con32]; rfl
  | c :: l => by
    show List.dropWhile conB (c :: (l ++ 32 :: X)) = List.dropWhile conB (c :: l) ++ 32 :: X
    rw [List.dropWhile_cons, List.dropWhile_cons]
    cases conB c with
    | true => exact rest_ext X l
    | false => rfl
section
variable (ok : List UInt8 → Bool) (num : Bool → List UInt8 → List UInt8 → List UInt8 × List UInt8) (size : List UInt8 → Nat)
theorem sym_ext (X : List UInt8) (p : Int) (pkg name r : List UInt8) : Ext X (symT ok p pkg name (r ++ [32])) (symT ok p pkg name (r ++ 32 :: X)) := by
  unfold symT
  repeat' split
  · exact .inr rfl
  · exact .inr rfl
  · exact .inr rfl
  · exact ⟨r, rfl, rfl⟩
theorem num_ext (X : List UInt8) (p : Int) (b : Bool) (x y r : List UInt8) : Ext X (numT num size p b x y (r ++ [32])) (numT num size p b x y (r ++ 32 :: X)) := by
  unfold numT
  repeat' split
  · exact .inr rfl
  · exact .inr rfl
  · exact ⟨r, rfl, rfl⟩
theorem name_ext (X : List UInt8) (n : Nat) : ∀ l : List UInt8, Ext X (nameL n (l ++ [32])) (nameL (n + X.length) (l ++ 32 :: X))
  | [] => by
    show Ext X (nameL n (32 :: [])) (nameL (n + X.length) (32 :: X))
    have a : nameL n (32 :: []) = .bad 12 (posL n [32]) := by rw [nameL, if_neg (by decide), con32]; rfl
    have b : nameL (n + X.length) (32 :: X) = .bad 12 (posL (n + X.length) (32 :: X)) := by rw [nameL, if_neg (by decide), con32]; rfl
    rw [a, b]
    right
    exact congrArg _ (posL_ext n [] X)
  | c :: l => by
    show Ext X (nameL n (c :: (l ++ [32]))) (nameL (n + X.length) (c :: (l ++ 32 :: X)))
    rw [nameL, nameL]
    by_cases h1 : c = 124
    · rw [if_pos h1, if_pos h1]
      exact enc_ext X n 124 (by decide) l []
    rw [if_neg h1, if_neg h1]
    by_cases h2 : conB c = true
    · rw [if_pos h2, if_pos h2]
      have h3 := word_ext X (c :: l)
      have h4 := rest_ext X (c :: l)
      have h5 := rest_ext [] (c :: l)
      rw [List.cons_append] at h3 h4 h5
      refine ⟨restL (c :: l), h5, ?_⟩
      rw [h4, h3]; rfl
    · rw [if_neg h2, if_neg h2]
      right
      exact congrArg _ (posL_ext n (c :: l) X)
/-- Behind a word: two colons, or not. -/
theorem wordT_eq (n : Nat) (l : List UInt8) : wordT ok num size n l =
    if (restL l).take 2 = [58, 58] then (match nameL n ((restL l).drop 2) with | .bad e p => .bad e p | .ok b r => symT ok (posL n l) (wordL l) b r) else
    if wordL l = [46] then .ok ⟨3, posL n l, [], [], []⟩ (restL l) else
    match numL (wordL l) with
    | some (b, x, y) => numT num size (posL n l) b x y (restL l)
    | none => symT ok (posL n l) [] (wordL l) (restL l) := by
  unfold wordT
  split
  · rename_i r' h
    rw [h]
    rfl
  · rename_i h
    have hh : ¬ (restL l).take 2 = [58, 58] := by
      intro e
      apply h ((restL l).drop 2)
      have := List.take_append_drop 2 (restL l)
      rw [e] at this
      exact this.symm
    rw [if_neg hh]
    rfl
theorem takeX2 (X r : List UInt8) : ((r ++ 32 :: X).take 2 = [58, 58]) ↔ r.take 2 = [58, 58] := by
  rcases r with _ | ⟨c, _ | ⟨d, r⟩⟩
  · simp
  · simp
  · simp
theorem dropX2 (X r : List UInt8) (h : r.take 2 = [58, 58]) : (r ++ 32 :: X).drop 2 = r.drop 2 ++ 32 :: X := by
  rcases r with _ | ⟨c, _ | ⟨d, r⟩⟩
  · simp at h
  · simp at h
  · simp
theorem wordT_ext (X : List UInt8) (n : Nat) (l : List UInt8) : Ext X (wordT ok num size n (l ++ [32])) (wordT ok num size (n + X.length) (l ++ 32 :: X)) := by
  rw [wordT_eq, wordT_eq, posL_ext, word_ext X l, rest_ext X l, rest_ext [] l]
  by_cases h : (restL l).take 2 = [58, 58]
  · rw [if_pos ((takeX2 [] _).2 h), if_pos ((takeX2 X _).2 h), dropX2 _ _ h, dropX2 _ _ h]
    have h1 := name_ext X n ((restL l).drop 2)
    cases h2 : nameL n ((restL l).drop 2 ++ [32]) with
    | bad e p =>
      rw [h2] at h1
      rcases h1 with h1 | h1
      · exact .inl h1
      · rw [h1]; exact .inr rfl
    | ok b r =>
      rw [h2] at h1
      obtain ⟨r', rfl, h3⟩ := h1
      rw [h3]
      exact sym_ext ok X _ _ _ _
  · rw [if_neg (fun e => h ((takeX2 [] _).1 e)), if_neg (fun e => h ((takeX2 X _).1 e))]
    by_cases h1 : wordL (l ++ [32]) = [46]
    · rw [if_pos h1, if_pos h1]
      exact ⟨_, rfl, rfl⟩
    · rw [if_neg h1, if_neg h1]
      cases numL (wordL (l ++ [32])) with
      | none => exact sym_ext ok X _ _ _ _
      | some t => exact num_ext num size X _ _ _ _ _
theorem one_ext (X : List UInt8) (n : Nat) (c : UInt8) (l : List UInt8) : Ext X (oneL ok num size n c (l ++ [32])) (oneL ok num size (n + X.length) c (l ++ 32 :: X)) := by
  unfold oneL
  rw [posL_ext1]
  by_cases h : c = 40
  · rw [if_pos h, if_pos h]; exact ⟨l, rfl, rfl⟩
  rw [if_neg h, if_neg h]
  by_cases h : c = 41
  · rw [if_pos h, if_pos h]; exact ⟨l, rfl, rfl⟩
  rw [if_neg h, if_neg h]
  by_cases h : c = 39
  · rw [if_pos h, if_pos h]; exact ⟨l, rfl, rfl⟩
  rw [if_neg h, if_neg h]
  by_cases h : c = 34
  · rw [if_pos h, if_pos h]
    have h1 := enc_ext X n 34 (by decide) l []
    cases h2 : encL n 34 [] (l ++ [32]) with
    | bad e p =>
      rw [h2] at h1
      rcases h1 with h1 | h1
      · exact .inl h1
      · rw [h1]; exact .inr rfl
    | ok b r =>
      rw [h2] at h1
      obtain ⟨r', rfl, h3⟩ := h1
      rw [h3]
      dsimp only
      split
      · exact .inr rfl
      · exact ⟨r', rfl, rfl⟩
  rw [if_neg h, if_neg h]
  by_cases h : c = 124
  · rw [if_pos h, if_pos h]
    have h1 := enc_ext X n 124 (by decide) l []
    cases h2 : encL n 124 [] (l ++ [32]) with
    | bad e p =>
      rw [h2] at h1
      rcases h1 with h1 | h1
      · exact .inl h1
      · rw [h1]; exact .inr rfl
    | ok b r =>
      rw [h2] at h1
      obtain ⟨r', rfl, h3⟩ := h1
      rw [h3]
      exact sym_ext ok X _ _ _ _
  rw [if_neg h, if_neg h]
  by_cases h : conB c = true
  · rw [if_pos h, if_pos h]
    exact wordT_ext ok num size X n (c :: l)
  · rw [if_neg h, if_neg h]; exact .inr rfl
end
theorem line_ext (X : List UInt8) : ∀ l : List UInt8, (lineL (l ++ [32]) = []) ∨ ∃ l', lineL (l ++ [32]) = l' ++ [32] ∧ lineL (l ++ 32 :: X) = l' ++ 32 :: X ∧ l'.length ≤ l.length
  | [] => .inl (by rw [List.nil_append, lineL, if_neg (by decide)]; rfl)
  | c :: l => by
    show (lineL (c :: (l ++ [32])) = []) ∨ ∃ l', lineL (c :: (l ++ [32])) = l' ++ [32] ∧ lineL (c :: (l ++ 32 :: X)) = l' ++ 32 :: X ∧ l'.length ≤ (c :: l).length
    rw [lineL, lineL]
    by_cases h : c = 10
    · rw [if_pos h, if_pos h]; exact .inr ⟨c :: l, rfl, rfl, Nat.le_refl _⟩
    · rw [if_neg h, if_neg h]
      rcases line_ext X l with h1 | ⟨l', h1, h2, h3⟩
      · exact .inl h1
      · exact .inr ⟨l', h1, h2, by simp only [List.length_cons]; omega⟩
theorem nest_ext (X : List UInt8) : ∀ (l : List UInt8) (d : Nat) (r : List UInt8), nestL d (l ++ [32]) = some r → ∃ r', r = r' ++ [32] ∧ nestL d (l ++ 32 :: X) = some (r' ++ 32 :: X) ∧ r'.length ≤ l.length
  | l, 0, r, h => by
    simp only [nestL, Option.some.injEq] at h
    exact ⟨l, h.symm, by simp only [nestL], Nat.le_refl _⟩
  | [], d + 1, r, h => by simp [nestL] at h
  | [c], d + 1, r, h => by
    have h' : nestL (d + 1) [c, 32] = some r := h
    rw [nestL, if_neg (by rintro ⟨_, h⟩; revert h; decide), if_neg (by rintro ⟨_, h⟩; revert h; decide)] at h'
    simp [nestL] at h'
  | c :: e :: l', d + 1, r, h => by
    have h' : nestL (d + 1) (c :: e :: (l' ++ [32])) = some r := h
    show ∃ r', r = r' ++ [32] ∧ nestL (d + 1) (c :: e :: (l' ++ 32 :: X)) = some (r' ++ 32 :: X) ∧ _
    rw [nestL] at h' ⊢
    by_cases h1 : c = 35 ∧ e = 124
    · rw [if_pos h1] at h' ⊢
      obtain ⟨r', a, b, k⟩ := nest_ext X l' (d + 2) r h'
      exact ⟨r', a, b, by simp only [List.length_cons]; omega⟩
    rw [if_neg h1] at h' ⊢
    by_cases h2 : c = 124 ∧ e = 35
    · rw [if_pos h2] at h' ⊢
      obtain ⟨r', a, b, k⟩ := nest_ext X l' d r h'
      exact ⟨r', a, b, by simp only [List.length_cons]; omega⟩
    rw [if_neg h2] at h' ⊢
    obtain ⟨r', a, b, k⟩ := nest_ext X (e :: l') (d + 1) r h'
    exact ⟨r', a, b, by simp only [List.length_cons] at k ⊢; omega⟩
theorem skip_ext (X : List UInt8) : ∀ (k : Nat) (l : List UInt8), l.length ≤ k → ∀ (c : UInt8) (r : List UInt8), skipL (l ++ [32]) = some (c :: r) → ∃ r', r = r' ++ [32] ∧ skipL (l ++ 32 :: X) = some (c :: (r' ++ 32 :: X)) ∧ r'.length < l.length
  | k, [], hk, c, r, h => by
    rw [List.nil_append, skipL_cons, if_pos (by decide), skipL_nil] at h
    cases h
  | 0, a :: l, hk, c, r, h => by simp at hk
  | k + 1, a :: l, hk, c, r, h => by
    have hl : l.length ≤ k := by simpa using hk
    have h' : skipL (a :: (l ++ [32])) = some (c :: r) := h
    show ∃ r', r = r' ++ [32] ∧ skipL (a :: (l ++ 32 :: X)) = some (c :: (r' ++ 32 :: X)) ∧ r'.length < (a :: l).length
    rw [skipL_cons] at h' ⊢
    by_cases h1 : blankB a = true
    · rw [if_pos h1] at h' ⊢
      obtain ⟨r', x, y, z⟩ := skip_ext X k l hl c r h'
      exact ⟨r', x, y, by simp only [List.length_cons]; omega⟩
    rw [if_neg h1] at h' ⊢
    by_cases h2 : a = 59
    · rw [if_pos h2] at h' ⊢
      rcases line_ext X l with h3 | ⟨l', h3, h4, h5⟩
      · rw [h3, skipL_nil] at h'; cases h'
      · rw [h3] at h'
        rw [h4]
        obtain ⟨r', x, y, z⟩ := skip_ext X k l' (by omega) c r h'
        exact ⟨r', x, y, by simp only [List.length_cons]; omega⟩
    rw [if_neg h2] at h' ⊢
    cases l with
    | nil =>
      have h3 : ¬(a = 35 ∧ (32 : UInt8) = 124) := by rintro ⟨_, h⟩; revert h; decide
      simp only [List.nil_append] at h' ⊢
      rw [if_neg h3] at h' ⊢
      simp only [Option.some.injEq, List.cons.injEq] at h'
      refine ⟨[], h'.2.symm, ?_, by simp⟩
      rw [h'.1]; rfl
    | cons e l =>
      simp only [List.cons_append] at h' ⊢
      by_cases h3 : a = 35 ∧ e = 124
      · rw [if_pos h3] at h' ⊢
        cases hn : nestL 1 (l ++ [32]) with
        | none => rw [hn] at h'; cases h'
        | some q =>
          rw [hn] at h'
          obtain ⟨q', rfl, h4, h5⟩ := nest_ext X l 1 q hn
          rw [h4]
          simp only [List.length_cons] at hl
          obtain ⟨r', x, y, z⟩ := skip_ext X k q' (by omega) c r h'
          exact ⟨r', x, y, by simp only [List.length_cons]; omega⟩
      · rw [if_neg h3] at h' ⊢
        simp only [Option.some.injEq, List.cons.injEq] at h'
        refine ⟨e :: l, h'.2.symm, ?_, by simp⟩
        rw [h'.1]
        rfl
section
variable (ok : List UInt8 → Bool) (num : Bool → List UInt8 → List UInt8 → List UInt8 × List UInt8) (size : List UInt8 → Nat)
theorem toks_ext (X : List UInt8) : ∀ (k : Nat) (l : List UInt8), l.length ≤ k → ∀ (n : Nat) (e p : Int), toksL ok num size n (l ++ [32]) = .error (e, p) → e ≠ 11 → toksL ok num size (n + X.length) (l ++ 32 :: X) = .error (e, p) := by
  intro k
  induction k with
  | zero =>
    intro l hl n e p h he
    have : l = [] := List.eq_nil_of_length_eq_zero (by omega)
    subst this
    rw [toksL_eq, List.nil_append, skipL_cons, if_pos (by decide), skipL_nil] at h
    cases h
  | succ k ih =>
    intro l hl n e p h he
    rw [toksL_eq] at h
    rw [toksL_eq]
    cases hs : skipL (l ++ [32]) with
    | none =>
      rw [hs] at h
      simp only [Except.error.injEq, Prod.mk.injEq] at h
      exact absurd h.1.symm he
    | some q =>
      rw [hs] at h
      cases q with
      | nil => cases h
      | cons c r =>
        obtain ⟨r', rfl, h1, h2⟩ := skip_ext X _ l (Nat.le_refl _) c r hs
        rw [h1]
        dsimp only at h ⊢
        have h3 := one_ext ok num size X n c r'
        cases ho : oneL ok num size n c (r' ++ [32]) with
        | bad e1 p1 =>
          rw [ho] at h3 h
          simp only [Except.error.injEq, Prod.mk.injEq] at h
          obtain ⟨rfl, rfl⟩ := h
          rcases h3 with h3 | h3
          · exact absurd h3 he
          · rw [h3]
        | ok t q =>
          have h4 := oneL_le ok num size ho
          rw [ho] at h3 h
          obtain ⟨q', rfl, h5⟩ := h3
          rw [h5]
          dsimp only at h ⊢
          simp only [List.length_append, List.length_cons, List.length_nil] at h4
          cases ht : toksL ok num size n (q' ++ [32]) with
          | ok ts => rw [ht] at h; cases h
          | error x =>
            rw [ht] at h
            obtain ⟨e2, p2⟩ := x
            simp only [Except.error.injEq, Prod.mk.injEq] at h
            obtain ⟨rfl, rfl⟩ := h
            rw [ih q' (by omega) n e2 p2 ht he]
/-- The place of an error lies in the text. -/
def InB {α : Type} (n : Nat) (a : Sc α) : Prop := ∀ e p, a = .bad e p → 0 ≤ p ∧ p ≤ (n : Int)
theorem posL_in {n : Nat} {l : List UInt8} (h : l.length ≤ n) : 0 ≤ posL n l ∧ posL n l ≤ (n : Int) := by unfold posL; omega
theorem bad_in {α : Type} {n : Nat} {e p : Int} (h : 0 ≤ p ∧ p ≤ (n : Int)) : InB n (.bad e p : Sc α) := fun e' p' he => by cases he; exact h
theorem ok_in {α : Type} {n : Nat} {v : α} {r : List UInt8} : InB n (.ok v r) := fun e' p' he => by cases he
theorem end_in (n : Nat) : 0 ≤ (n : Int) ∧ (n : Int) ≤ (n : Int) := by omega
theorem enc_in (n : Nat) (m : UInt8) : ∀ (l acc : List UInt8), l.length ≤ n → InB n (encL n m acc l)
  | [], acc, h => by rw [encL]; exact bad_in (end_in n)
  | [c], acc, h => by
    rw [encL]
    split
    · exact ok_in
    split
    · exact bad_in (end_in n)
    · exact enc_in n m [] _ (Nat.zero_le _)
  | c :: d :: l, acc, h => by
    simp only [List.length_cons] at h
    rw [encL]
    split
    · exact ok_in
    split
    · split
      · exact enc_in n m l _ (by omega)
      · exact bad_in (posL_in (by simp only [List.length_cons]; omega))
    · exact enc_in n m (d :: l) _ (by simp only [List.length_cons]; omega)
theorem sym_in {n : Nat} {p : Int} (h : 0 ≤ p ∧ p ≤ (n : Int)) (pkg name r : List UInt8) : InB n (symT ok p pkg name r) := by
  unfold symT
  repeat' split
  · exact bad_in h
  · exact bad_in h
  · exact bad_in h
  · exact ok_in
theorem num_in {n : Nat} {p : Int} (h : 0 ≤ p ∧ p ≤ (n : Int)) (b : Bool) (x y r : List UInt8) : InB n (numT num size p b x y r) := by
  unfold numT
  repeat' split
  · exact bad_in h
  · exact bad_in h
  · exact ok_in
theorem name_in (n : Nat) (l : List UInt8) (h : l.length ≤ n) : InB n (nameL n l) := by
  cases l with
  | nil => exact bad_in (end_in n)
  | cons c l =>
    simp only [List.length_cons] at h
    rw [nameL]
    split
    · exact enc_in n _ l [] (by omega)
    split
    · exact ok_in
    · exact bad_in (posL_in (by simp only [List.length_cons]; omega))
theorem rest_le (l : List UInt8) : (restL l).length ≤ l.length := (List.dropWhile_sublist _).length_le
theorem wordT_in (n : Nat) (l : List UInt8) (h : l.length ≤ n) : InB n (wordT ok num size n l) := by
  have hr := rest_le l
  unfold wordT
  split
  · rename_i r' hw
    rw [hw] at hr
    simp only [List.length_cons] at hr
    have h1 := name_in n r' (by omega)
    cases hn : nameL n r' with
    | bad e p => rw [hn] at h1; exact bad_in (h1 e p rfl)
    | ok b r => exact sym_in ok (posL_in h) _ _ _
  · split
    · exact ok_in
    · split
      · exact num_in num size (posL_in h) _ _ _ _
      · exact sym_in ok (posL_in h) _ _ _
theorem one_in (n : Nat) (c : UInt8) (l : List UInt8) (h : l.length < n) : InB n (oneL ok num size n c l) := by
  have hc : (c :: l).length ≤ n := by simp only [List.length_cons]; omega
  unfold oneL
  split
  · exact ok_in
  split
  · exact ok_in
  split
  · exact ok_in
  split
  · have h1 := enc_in n 34 l [] (by omega)
    cases hn : encL n 34 [] l with
    | bad e p => rw [hn] at h1; exact bad_in (h1 e p rfl)
    | ok b r =>
      dsimp only
      split
      · exact bad_in (posL_in hc)
      · exact ok_in
  split
  · have h1 := enc_in n 124 l [] (by omega)
    cases hn : encL n 124 [] l with
    | bad e p => rw [hn] at h1; exact bad_in (h1 e p rfl)
    | ok b r => exact sym_in ok (posL_in hc) _ _ _
  split
  · exact wordT_in ok num size n (c :: l) hc
  · exact bad_in (posL_in hc)
theorem toks_in (n : Nat) : ∀ (k : Nat) (l : List UInt8), l.length ≤ k → l.length ≤ n → ∀ e p, toksL ok num size n l = .error (e, p) → 0 ≤ p ∧ p ≤ (n : Int) := by
  intro k
  induction k with
  | zero =>
    intro l hl hn e p h
    have : l = [] := List.eq_nil_of_length_eq_zero (by omega)
    subst this
    rw [toksL_eq, skipL_nil] at h
    cases h
  | succ k ih =>
    intro l hl hn e p h
    rw [toksL_eq] at h
    cases hs : skipL l with
    | none =>
      rw [hs] at h
      simp only [Except.error.injEq, Prod.mk.injEq] at h
      rw [← h.2]; exact end_in n
    | some q =>
      rw [hs] at h
      cases q with
      | nil => cases h
      | cons c r =>
        dsimp only at h
        have h1 := skipL_le hs
        simp only [List.length_cons] at h1
        have h3 := one_in ok num size n c r (by omega)
        cases ho : oneL ok num size n c r with
        | bad e1 p1 =>
          rw [ho] at h3 h
          simp only [Except.error.injEq, Prod.mk.injEq] at h
          obtain ⟨rfl, rfl⟩ := h
          exact h3 _ _ rfl
        | ok t q =>
          have h4 := oneL_le ok num size ho
          rw [ho] at h
          dsimp only at h
          cases ht : toksL ok num size n q with
          | ok ts => rw [ht] at h; cases h
          | error x =>
            rw [ht] at h
            obtain ⟨e2, p2⟩ := x
            simp only [Except.error.injEq, Prod.mk.injEq] at h
            obtain ⟨rfl, rfl⟩ := h
            exact ih q (by omega) (by omega) _ _ ht
end
theorem la_app (s t : ByteArray) : LA (s ++ t) = LA s ++ LA t := by
  unfold LA
  simp
theorem scan_ext (s X : ByteArray) (hs : s.size + 1 + X.size ≤ 6000) {e p : Int} (h : scanS (s ++ ⟨#[32]⟩) = .error (e, p)) : (0 ≤ p ∧ p ≤ (s.size : Int) + 1) ∧ (e ≠ 11 → scanS (s ++ ⟨#[32]⟩ ++ X) = .error (e, p)) := by
  have h1 : (s ++ ⟨#[32]⟩ : ByteArray).size = s.size + 1 := by rw [ByteArray.size_append]; rfl
  have h2 : (s ++ ⟨#[32]⟩ ++ X : ByteArray).size = s.size + 1 + X.size := by rw [ByteArray.size_append, h1]
  have h3 : LA (s ++ ⟨#[32]⟩ ++ X) = LA s ++ 32 :: LA X := by rw [la_app, la_app]; show (LA s ++ [32]) ++ LA X = _; simp
  have h4 : LA (s ++ ⟨#[32]⟩) = LA s ++ [32] := by rw [la_app]; rfl
  have hX : (LA X).length = X.size := la_length X
  have hS : (LA s).length = s.size := la_length s
  unfold scanS at h ⊢
  rw [h1, if_neg (by omega)] at h
  rw [h2, if_neg (by omega)]
  unfold toksS at h ⊢
  rw [h4] at h
  rw [h3]
  refine ⟨?_, fun he => ?_⟩
  · have := toks_in okP numP sizP (s.size + 1) (s.size + 1) (LA s ++ [32]) (by simp [hS]) (by simp [hS]) e p h
    omega
  · rw [← hX]
    exact toks_ext okP numP sizP (LA X) (LA s).length (LA s) (Nat.le_refl _) (s.size + 1) e p h he
set_option maxHeartbeats 8000000 in
set_option maxRecDepth 100000 in
theorem lawPrefix (l : List Int) (v : Value) (m : List Int) (u : Value) (w : World) (hv : IntV w l v) (hu : IntV w m u) : Calls Tryz.prog 9 #[v, u] w (Sy.RetY w (.bool true)) := by
  have HV := Lib.hid hv
  have HU := Lib.hid hu
  obtain ⟨A, c, rfl, _⟩ := hv
  obtain ⟨A2, c2, rfl, _⟩ := hu
  obtain ⟨n, hn⟩ : ∃ n, l.length = n := ⟨_, rfl⟩
  obtain ⟨k, hk⟩ : ∃ k, m.length = k := ⟨_, rfl⟩
  rw [hn] at HV ⊢
  rw [hk] at HU ⊢
  have HN := Lib.hid hn
  have HK := Lib.hid hk
  clear hn hk
  by_cases hbig : 30 < n
  · have h1 : (30 : Int) < (n : Int) := by omega
    go_enter Tryz.func9, Tryz.ntmps9
    go_wp2_with fail
    refine (firstP5 _).mono ?_
    rintro e w1 ⟨rfl, hb⟩
    go_wp2
    go_ret
    exact ⟨rfl, hb⟩
  by_cases hbig2 : 10 < k
  · have h1 : ¬ (30 : Int) < (n : Int) := by omega
    have h2 : (10 : Int) < (k : Int) := by omega
    go_enter Tryz.func9, Tryz.ntmps9
    go_wp2_with fail
    refine (firstP5 _).mono ?_
    rintro e w1 ⟨rfl, hb⟩
    go_wp2
    go_ret
    exact ⟨rfl, hb⟩
  have h1 : ¬ (30 : Int) < (n : Int) := by omega
  have h2 : ¬ (10 : Int) < (k : Int) := by omega
  have KPI : Hid (∀ W, Below w.heap.size w W → Calls Tryz.prog 14 #[.slice A n c] W (fun e w' => ∃ s : ByteArray, e = .returned (.string s) ∧ s.size ≤ 180 ∧ Below W.heap.size W w')) := fun W hb => by
    refine (piecesP l _ W (HV.out.keep hb) (by rw [HN.out]; omega)).mono ?_
    rintro e w' ⟨s, h1, h2, h3⟩
    exact ⟨s, h1, by rw [HN.out] at h2; omega, h3⟩
  have KPM : Hid (∀ W, Below w.heap.size w W → Calls Tryz.prog 14 #[.slice A2 k c2] W (fun e w' => ∃ s : ByteArray, e = .returned (.string s) ∧ s.size ≤ 60 ∧ Below W.heap.size W w')) := fun W hb => by
    refine (piecesP m _ W (HU.out.keep hb) (by rw [HK.out]; omega)).mono ?_
    rintro e w' ⟨s, h1, h2, h3⟩
    exact ⟨s, h1, by rw [HK.out] at h2; omega, h3⟩
  clear hbig hbig2
  go_enter Tryz.func9, Tryz.ntmps9
  go_wp2_with fail
  refine (firstP5 _).mono ?_
  rintro e w1 ⟨rfl, hb1⟩
  have HB0 := Lib.hid hb1
  clear hb1
  go_wp2_with fail
  refine (KPI.out _ HB0.out).mono ?_
  rintro e w0 ⟨s, rfl, hs, hb0⟩
  have HB1 := Lib.hid (chain5 HB0.out hb0)
  clear hb0 HB0
  have hz1 : (s ++ ⟨#[32]⟩ : ByteArray).size = s.size + 1 := by rw [ByteArray.size_append]; rfl
  have KT := Lib.hid (fun w => tokensP (s ++ ⟨#[32]⟩) w (by rw [hz1]; omega))
  have hsm : s.size + 1 ≤ maxLen := by unfold maxLen; omega
  cases hS : scanS (s ++ ⟨#[32]⟩) with
  | ok ts =>
    rw [hS] at KT
    clear hS hz1
    go_wp2_with fail
    refine (KT.out _).mono ?_
    rintro e w2 ⟨hb2, v, rfl, hv⟩
    have HB2 := Lib.hid (chain5 (chain5 HB1.out hb2) (Below.alloc (Below.refl _ _) (Nat.le_refl _) (.cells #[.int .i64 0, .int .i64 0] 26)))
    have E2 : Hid (EB (w2.alloc (.cells #[.int .i64 0, .int .i64 0] 26)) w2.heap.size (.int .i64 0) (.int .i64 0)) := EB.new _ _ _
    clear hb2 hv HB1
    go_upto_region 7 with fail
    generalize (w2.alloc (.cells #[.int .i64 0, .int .i64 0] 26)) = W3 at HB2 E2 ⊢
    generalize w2.heap.size = g at E2 ⊢
    have c0 := E2.out.c0
    have c1 := E2.out.c1
    go_wp2
    go_ret
    exact ⟨rfl, HB2.out⟩
  | error y =>
    obtain ⟨x, p⟩ := y
    rw [hS] at KT
    obtain ⟨hp, hext⟩ := scan_ext s ⟨#[]⟩ (by show s.size + 1 + 0 ≤ 6000; omega) hS
    have HS := Lib.hid hS
    clear hS hext hz1
    have p1 : ¬ p < 0 := by omega
    have p2 : ¬ (s.size : Int) + 1 < p := by omega
    clear hp
    by_cases x0 : x = 0
    · have e0 : (x == 0) = true := by rw [beq_iff_eq]; exact x0
      go_wp2_with fail
      refine (KT.out _).mono ?_
      rintro e w2 ⟨hb2, he⟩
      replace he : e = _ := he
      subst he
      have HB2 := Lib.hid (chain5 (chain5 HB1.out hb2) (Below.alloc (Below.refl _ _) (Nat.le_refl _) (.cells #[.int .i64 x, .int .i64 p] 26)))
      have E2 : Hid (EB (w2.alloc (.cells #[.int .i64 x, .int .i64 p] 26)) w2.heap.size (.int .i64 x) (.int .i64 p)) := EB.new _ _ _
      clear hb2 HB1 x0
      go_upto_region 7 with fail
      generalize (w2.alloc (.cells #[.int .i64 x, .int .i64 p] 26)) = W3 at HB2 E2 ⊢
      generalize w2.heap.size = g at E2 ⊢
      have c0 := E2.out.c0
      have c1 := E2.out.c1
      go_wp2
      go_ret
      exact ⟨rfl, HB2.out⟩
    have e0 : (x == 0) = false := by rw [beq_eq_false_iff_ne]; exact x0
    by_cases x11 : x = 11
    · have e1 : (x == 11) = true := by rw [beq_iff_eq]; exact x11
      go_wp2_with fail
      refine (KT.out _).mono ?_
      rintro e w2 ⟨hb2, he⟩
      replace he : e = _ := he
      subst he
      have HB2 := Lib.hid (chain5 (chain5 HB1.out hb2) (Below.alloc (Below.refl _ _) (Nat.le_refl _) (.cells #[.int .i64 x, .int .i64 p] 26)))
      have E2 : Hid (EB (w2.alloc (.cells #[.int .i64 x, .int .i64 p] 26)) w2.heap.size (.int .i64 x) (.int .i64 p)) := EB.new _ _ _
      clear hb2 HB1 x0 x11
      go_upto_region 7 with fail
      generalize (w2.alloc (.cells #[.int .i64 x, .int .i64 p] 26)) = W3 at HB2 E2 ⊢
      generalize w2.heap.size = g at E2 ⊢
      have c0 := E2.out.c0
      have c1 := E2.out.c1
      go_wp2
      go_ret
      exact ⟨rfl, HB2.out⟩
    have e1 : (x == 11) = false := by rw [beq_eq_false_iff_ne]; exact x11
    have HX := Lib.hid x11
    go_wp2_with fail
    refine (KT.out _).mono ?_
    rintro e w2 ⟨hb2, he⟩
    replace he : e = _ := he
    subst he
    have HB2 := Lib.hid (chain5 (chain5 HB1.out hb2) (Below.alloc (Below.refl _ _) (Nat.le_refl _) (.cells #[.int .i64 x, .int .i64 p] 26)))
    have E2 : Hid (EB (w2.alloc (.cells #[.int .i64 x, .int .i64 p] 26)) w2.heap.size (.int .i64 x) (.int .i64 p)) := EB.new _ _ _
    clear hb2 HB1 x0 x11
    go_upto_region 7 with fail
    generalize (w2.alloc (.cells #[.int .i64 x, .int .i64 p] 26)) = W3 at HB2 E2 ⊢
    generalize w2.heap.size = g at E2 ⊢
    have c0 := E2.out.c0
    have c1 := E2.out.c1
    go_wp2_with fail
    clear c0 c1
    refine (KPM.out _ HB2.out).mono ?_
    rintro e w4 ⟨t, rfl, ht, hb4⟩
    have HB4 := Lib.hid (chain5 HB2.out hb4)
    have E4 := Lib.hid (E2.out.keep hb4)
    have hz2 : (s ++ ⟨#[32]⟩ : ByteArray).size = s.size + 1 := by rw [ByteArray.size_append]; rfl
    have hz3 : (s ++ ⟨#[32]⟩ ++ t : ByteArray).size = s.size + 1 + t.size := by rw [ByteArray.size_append, hz2]
    have hS2 := (scan_ext s t (by omega) HS.out).2 HX.out
    have KU := Lib.hid (fun w => tokensP (s ++ ⟨#[32]⟩ ++ t) w (by rw [hz3]; omega))
    rw [hS2] at KU
    have hsm2 : (s ++ ⟨#[32]⟩ : ByteArray).size + t.size ≤ maxLen := by rw [hz2]; unfold maxLen; omega
    clear hb4 HB2 E2 hS2 hz3 hz2
    go_wp2_with fail
    refine (KU.out _).mono ?_
    rintro e w5 ⟨hb5, he⟩
    replace he : e = _ := he
    subst he
    have hal := Below.alloc (Below.refl w5.heap.size w5) (Nat.le_refl _) (.cells #[.int .i64 x, .int .i64 p] 26)
    have hbb := chain5 hb5 hal
    have HB5 := Lib.hid (chain5 HB4.out hbb)
    have E5 := Lib.hid (E4.out.keep hbb)
    have F5 : Hid (EB (w5.alloc (.cells #[.int .i64 x, .int .i64 p] 26)) w5.heap.size (.int .i64 x) (.int .i64 p)) := EB.new _ _ _
    clear hal hbb hb5 HB4 E4
    go_upto_region 14 with fail
    generalize (w5.alloc (.cells #[.int .i64 x, .int .i64 p] 26)) = W5 at HB5 E5 F5 ⊢
    generalize w5.heap.size = h at F5 ⊢
    have c0 := E5.out.c0
    have c1 := E5.out.c1
    have d0 := F5.out.c0
    have d1 := F5.out.c1
    go_wp2
    go_ret
    exact ⟨rfl, HB5.out⟩
end Go.Proofs.YtflnffgohbbhiaaGreatDoor
