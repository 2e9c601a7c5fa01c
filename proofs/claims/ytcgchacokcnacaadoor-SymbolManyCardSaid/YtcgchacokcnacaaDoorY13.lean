/- The closed facts that first needs. -/
import Derived.Test.YtcgchacokcnacaaDoorY12
namespace Go.Proofs.YtcgchacokcnacaaDoor
open Go Go.RowKit
set_option linter.unusedVariables false

/-- The list behind first's definition. -/
def firM : List Pg := initM ++ [(⟨#[97]⟩, [(⟨#[108, 105, 115, 112]⟩, ⟨#[99, 97, 114]⟩)])]
theorem firDef : defineM initM (⟨#[97]⟩, [(⟨#[108, 105, 115, 112]⟩, ⟨#[99, 97, 114]⟩)]) = (firM, 0) := by
  unfold defineM
  rw [if_pos (by kernel_rfl)]
  rfl
theorem firCar : internM firM ⟨#[97]⟩ ⟨#[99, 97, 114]⟩ = ((⟨#[108, 105, 115, 112]⟩, ⟨#[99, 97, 114]⟩), 0) := by kernel_rfl
theorem firCdr : internM firM ⟨#[97]⟩ ⟨#[99, 100, 114]⟩ = ((⟨#[97]⟩, ⟨#[99, 100, 114]⟩), 0) := by kernel_rfl
theorem firHome : homeM firM (⟨#[108, 105, 115, 112]⟩, ⟨#[99, 97, 114]⟩) = true := by kernel_rfl
theorem firNo : homeM firM (⟨#[97]⟩, ⟨#[99, 97, 114]⟩) = false := by kernel_rfl
theorem firLen : firM.length ≤ 1000 ∧ ∀ p ∈ firM, p.2.length ≤ 1000 := by
  refine ⟨by simp [firM, initM], fun p hp => ?_⟩
  simp [firM, initM] at hp
  rcases hp with rfl | rfl <;> simp
end Go.Proofs.YtcgchacokcnacaaDoor
