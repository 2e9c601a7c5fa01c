/- What stays: the symbols of a list that was defined. -/
import Derived.Test.YtcgchacokcnacaaY17
namespace Go.Proofs.Ytcgchacokcnacaa
open Go Go.RowKit
set_option linter.unusedVariables false

/-- Every imported symbol is at home. -/
def HomeAll (L : List Pg) : Prop := ∀ p ∈ L, ∀ s ∈ p.2, homeM L s = true
theorem impM_mem : ∀ {q : List Sy} {n : ByteArray} {s : Sy}, impM q n = some s → s ∈ q
  | x :: r, n, s, h => by
    unfold impM at h
    split at h
    · injection h with h; subst h; simp
    · exact List.mem_cons_of_mem _ (impM_mem h)
theorem visM_of {L : List Pg} {cur : ByteArray} {s : Sy} (h : internM L cur s.2 = (s, 0)) : visM L cur s = true := by
  unfold visM
  rw [h]
  simp
theorem intern_home {L : List Pg} {cur n : ByteArray} {s : Sy} (hA : HomeAll L) (h : internM L cur n = (s, 0)) : homeM L s = true := by
  have h0 := h
  unfold internM at h
  cases hf : findM L cur with
  | none => rw [hf] at h; simp at h
  | some p =>
    rw [hf] at h
    simp only at h
    split at h
    · cases hi : impM p.2 n with
      | some s' =>
        rw [hi] at h
        simp only [Prod.mk.injEq, and_true] at h
        subst h
        exact hA p (findM_mem hf) _ (impM_mem hi)
      | none =>
        rw [hi] at h
        simp only [Prod.mk.injEq, and_true] at h
        subst h
        exact visM_of h0
    · simp at h
theorem findM_append : ∀ {L : List Pg} {n : ByteArray} {p : Pg} (r : List Pg), findM L n = some p → findM (L ++ r) n = some p
  | q :: l, n, p, r, h => by
    unfold findM at h
    rw [List.cons_append]
    unfold findM
    split at h
    · rename_i hq; rw [if_pos hq]; exact h
    · rename_i hq; rw [if_neg hq]; exact findM_append r h
theorem intern_append {L : List Pg} {cur n : ByteArray} {s : Sy} (r : List Pg) (h : internM L cur n = (s, 0)) : internM (L ++ r) cur n = (s, 0) := by
  have h0 := h
  unfold internM at h
  cases hf : findM L cur with
  | none => rw [hf] at h; simp at h
  | some p =>
    rw [hf] at h
    unfold internM
    rw [findM_append r hf]
    exact h
theorem home_append {L : List Pg} {s : Sy} (r : List Pg) (h : homeM L s = true) : homeM (L ++ r) s = true := by
  have h2 := h
  unfold homeM visM at h2
  rw [Bool.and_eq_true] at h2
  have h0 : (internM L s.1 s.2).2 = 0 := by simpa using h2.1
  have e : internM L s.1 s.2 = ((internM L s.1 s.2).1, 0) := by rw [← h0]
  have e2 := intern_append r e
  unfold homeM visM
  rw [e2]
  unfold homeM visM at h
  rw [e] at h
  exact h
theorem chkL_home {L : List Pg} : ∀ (q pre : List Sy), chkL L pre q = 0 → ∀ s ∈ q, homeM L s = true
  | [], _, _, s, hs => by simp at hs
  | x :: q, pre, h, s, hs => by
    unfold chkL at h
    by_cases h0 : chkImp L pre x = 0
    · rw [if_pos h0] at h
      rcases List.mem_cons.1 hs with rfl | h1
      · unfold chkImp at h0
        by_cases hh : homeM L s = true
        · exact hh
        · rw [if_neg hh] at h0
          split at h0 <;> simp at h0
      · exact chkL_home q _ h s h1
    · rw [if_neg h0] at h
      exact absurd h h0
theorem chkPkg_home {L : List Pg} {p : Pg} (h : chkPkg L p = 0) : ∀ s ∈ p.2, homeM L s = true := by
  unfold chkPkg at h
  split at h
  · split at h
    · simp at h
    · split at h
      · simp at h
      · exact chkL_home _ _ h
  · simp at h
theorem madeS_home {L : List Pg} {p : Pg} (h : HomeAll L) : HomeAll (madeS L p) := by
  unfold madeS
  by_cases hc : chkPkg L p = 0
  · rw [if_pos hc]
    intro x hx s hs
    rcases List.mem_append.1 hx with h1 | h1
    · exact home_append _ (h x h1 s hs)
    · rw [List.mem_singleton] at h1
      subst h1
      exact home_append _ (chkPkg_home hc s hs)
  · rw [if_neg hc]
    exact h
theorem foldS_home : ∀ (l out : List Pg), HomeAll out → HomeAll (l.foldl madeS out)
  | [], _, h => h
  | _ :: l, _, h => foldS_home l _ (madeS_home h)
theorem madeM_home (l : List Pg) : HomeAll (madeM l) := foldS_home l initM (fun p hp s hs => by simp [initM] at hp; subst hp; simp at hs)
end Go.Proofs.Ytcgchacokcnacaa
