/- Initial of both, few, made. -/
import Derived.Test.YtcgchacokcnacaaDoorY10
namespace Go.Proofs.YtcgchacokcnacaaDoor
open Go Go.RowKit
set_option linter.unusedVariables false

/-- A list of packages is returned. -/
def RetPg (w : World) (l : List Pg) (e : Ending) (w' : World) : Prop := ∃ x, e = .returned x ∧ PgV w' l x ∧ Below w.heap.size w w'
def initM : List Pg := [(⟨#[108, 105, 115, 112]⟩, [])]
theorem iniP (w : World) : PgV (w.alloc (.cells #[.string ⟨#[108, 105, 115, 112]⟩, .slice none 0 0] 26)) initM (.slice (some ⟨w.heap.size, 0, none⟩) 1 1) :=
  PgV.of_row (row := [.string ⟨#[108, 105, 115, 112]⟩, .slice none 0 0]) (l := initM) (heap_alloc_new w _) (Nat.le_refl _) (by unfold maxLen; omega) (fun i hi => by
    have e : i = 0 := by simp [initM] at hi; omega
    subst e
    exact ⟨rfl, _, rfl, SyV.nil _⟩)
set_option maxHeartbeats 4000000 in
set_option maxRecDepth 100000 in
theorem initialY (w : World) : Calls Tryd.prog 8 #[] w (RetPg w initM) := by
  go_enter Tryd.func8, Tryd.ntmps8
  go_wp2_with fail
  go_ret
  exact ⟨_, rfl, iniP w, bAlP w _⟩
def fewM (l : List Pg) : Bool := decide (l.length ≤ 5) && l.all (fun p => decide (p.2.length ≤ 6))
def FewW (w wr : World) (l : List Pg) (i : Nat) (R : Bool) : Prop := ((l.drop i).all (fun p => decide (p.2.length ≤ 6))) = R ∧ wr = w
theorem fewM_spec {l : List Pg} (h : fewM l = true) : l.length ≤ 5 ∧ ∀ p ∈ l, p.2.length ≤ 6 := by
  unfold fewM at h
  rw [Bool.and_eq_true, decide_eq_true_eq, List.all_eq_true] at h
  exact ⟨h.1, fun p hp => by simpa using h.2 p hp⟩
/-- What made does with one package. -/
def madeS (out : List Pg) (p : Pg) : List Pg := if chkPkg out p = 0 then out ++ [p] else out
def madeM (l : List Pg) : List Pg := l.foldl madeS initM
def MadW (w wr : World) (l : List Pg) (x : Value) (cur : List Pg) (i : Nat) (R : List Pg) : Prop :=
  (l.drop i).foldl madeS cur = R ∧ Below w.heap.size w wr ∧ PgV wr cur x ∧ cur.length ≤ i + 1 ∧ (∀ p ∈ cur, p.2.length ≤ 6)
end Go.Proofs.YtcgchacokcnacaaDoor
