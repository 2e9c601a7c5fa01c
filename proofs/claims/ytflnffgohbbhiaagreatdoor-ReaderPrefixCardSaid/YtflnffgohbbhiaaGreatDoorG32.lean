/- Texts that are made of parts of the language; their tokens. -/
import Derived.Test.YtflnffgohbbhiaaGreatDoorG30
import Derived.Test.YtflnffgohbbhiaaGreatDoorG17
import Derived.ChangeSlices
import Derived.OpenShut
namespace Go.Proofs.YtflnffgohbbhiaaGreatDoor
open Go Go.RowKit
set_option linter.unusedVariables false
/-- The value is a slice that reads as these numbers. -/
def IntV (w : World) (l : List Int) (v : Value) : Prop := ∃ A c, v = .slice A l.length c ∧ l.length ≤ c ∧ c ≤ maxLen ∧
  (0 < l.length → ∃ b o, A = some ⟨b, o, none⟩ ∧ b < w.heap.size ∧ ∀ i (hi : i < l.length), w.cell? ⟨b, o + i, none⟩ = some (.int .i64 l[i])) ∧ ∀ x ∈ l, -9223372036854775808 ≤ x ∧ x ≤ 9223372036854775807
def pieceT : Array Value := #[.string ⟨#[40]⟩, .string ⟨#[41]⟩, .string ⟨#[39]⟩, .string ⟨#[32]⟩, .string ⟨#[46]⟩, .string ⟨#[97]⟩, .string ⟨#[49, 50]⟩, .string ⟨#[45, 51]⟩, .string ⟨#[49, 47, 50]⟩, .string ⟨#[48, 47, 53]⟩, .string ⟨#[49, 47, 48]⟩, .string ⟨#[34]⟩, .string ⟨#[120, 32, 121]⟩, .string ⟨#[124]⟩, .string ⟨#[108, 105, 115, 112, 58, 58]⟩, .string ⟨#[117, 115, 101, 114, 58, 58]⟩, .string ⟨#[58, 58]⟩, .string ⟨#[58]⟩, .string ⟨#[59]⟩, .string ⟨#[10]⟩, .string ⟨#[35, 124]⟩, .string ⟨#[124, 35]⟩, .string ⟨#[35]⟩, .string ⟨#[92]⟩, .string ⟨#[45]⟩, .string ⟨#[48, 48, 55]⟩, .string ⟨#[99, 97, 114]⟩, .string ⟨#[9]⟩, .string ⟨#[195, 169]⟩, .string ⟨#[0]⟩]
def isPiece (v : Value) : Bool := match v with
  | .string s => decide (s.size ≤ 6)
  | _ => false
theorem piece_all : pieceT.all isPiece = true := by kernel_rfl
theorem piece_at {w : World} {g : Nat} (h : w.heap[g]? = some (.cells pieceT 9 (0, 0))) (k : Nat) (hk : k < 30) : ∃ t : ByteArray, w.cell? ⟨g, k, none⟩ = some (.string t) ∧ t.size ≤ 6 := by
  have hs : pieceT.size = 30 := rfl
  have h1 := Array.all_eq_true.1 piece_all k (by rw [hs]; exact hk)
  rw [cell_of_row _ _ _ _ _ _ h, Array.getElem?_eq_getElem (by rw [hs]; exact hk)]
  unfold isPiece at h1
  split at h1
  · rename_i s e
    exact ⟨s, by rw [e], of_decide_eq_true h1⟩
  · cases h1
set_option maxHeartbeats 8000000 in
set_option maxRecDepth 100000 in
theorem piecesP (l : List Int) (v : Value) (w : World) (hv : IntV w l v) (hl : l.length ≤ 1000) : Calls Tryz.prog 14 #[v] w (fun e w' => ∃ s : ByteArray, e = .returned (.string s) ∧ s.size ≤ 6 * l.length ∧ Below w.heap.size w w') := by
  obtain ⟨A, c, rfl, hlc, hcm, hA, hI⟩ := hv
  have HA := Lib.hid hA
  have HI := Lib.hid hI
  clear hA hI
  obtain ⟨n, hn⟩ : ∃ n, l.length = n := ⟨_, rfl⟩
  rw [hn] at hlc hl ⊢
  have HN := Lib.hid hn
  have HR : Hid ((w.alloc (.cells pieceT 9)).heap[w.heap.size]? = some (.cells pieceT 9 (0, 0))) := heap_alloc_new _ _
  have HB := Lib.hid (show Below w.heap.size w (w.alloc (.cells pieceT 9)) from Below.alloc (Below.refl _ _) (Nat.le_refl _) _)
  have HS : Hid (w.heap.size < (w.alloc (.cells pieceT 9)).heap.size) := by show _ < _; simp
  clear hn
  unfold pieceT at HR HB HS
  go_enter Tryz.func14, Tryz.ntmps14
  go_wp2_with fail
  generalize w.alloc (.cells #[.string ⟨#[40]⟩, .string ⟨#[41]⟩, .string ⟨#[39]⟩, .string ⟨#[32]⟩, .string ⟨#[46]⟩, .string ⟨#[97]⟩, .string ⟨#[49, 50]⟩, .string ⟨#[45, 51]⟩, .string ⟨#[49, 47, 50]⟩, .string ⟨#[48, 47, 53]⟩, .string ⟨#[49, 47, 48]⟩, .string ⟨#[34]⟩, .string ⟨#[120, 32, 121]⟩, .string ⟨#[124]⟩, .string ⟨#[108, 105, 115, 112, 58, 58]⟩, .string ⟨#[117, 115, 101, 114, 58, 58]⟩, .string ⟨#[58, 58]⟩, .string ⟨#[58]⟩, .string ⟨#[59]⟩, .string ⟨#[10]⟩, .string ⟨#[35, 124]⟩, .string ⟨#[124, 35]⟩, .string ⟨#[35]⟩, .string ⟨#[92]⟩, .string ⟨#[45]⟩, .string ⟨#[48, 48, 55]⟩, .string ⟨#[99, 97, 114]⟩, .string ⟨#[9]⟩, .string ⟨#[195, 169]⟩, .string ⟨#[0]⟩] 9) = W1 at HR HB HS ⊢
  have H0 : Hid (Below W1.heap.size W1 W1) := Below.refl _ _
  go_loopw [4, 5] (fun sv iv wr => ∃ (i : Nat) (s : ByteArray), i ≤ n ∧ iv = .int .i64 (i : Int) ∧ sv = .string s ∧ s.size ≤ 6 * i ∧ Hid (Below W1.heap.size W1 wr)) (fun _ iv _ => n - (intOf iv).toNat)
  case atStart => exact ⟨0, ⟨#[]⟩, Nat.zero_le _, rfl, rfl, Nat.le_refl _, H0⟩
  case round =>
    obtain ⟨i, s, hi, rfl, rfl, hs, HE⟩ := hrel
    obtain ⟨wo, rfl⟩ : ∃ wo : World, wo = wr := ⟨_, rfl⟩
    clear H0
    by_cases hin : i < n
    · obtain ⟨b, o, rfl, hb, hcell⟩ := HA.out (by rw [HN.out]; omega)
      have hil : i < l.length := by rw [HN.out]; exact hin
      have l0 := (HE.out.cell (p := ⟨b, o + i, none⟩) (Nat.lt_of_lt_of_le hb HB.out.size)).trans ((HB.out.cell (p := ⟨b, o + i, none⟩) hb).trans (hcell i hil))
      have hx := HI.out l[i] (List.getElem_mem hil)
      generalize l[i] = x at l0 hx
      have KM := Lib.hid (fun w => modO x 30 w hx.1 hx.2 (by decide) (by decide))
      have hm0 : 0 ≤ x % 30 := Int.emod_nonneg _ (by decide)
      have hm1 : x % 30 < 30 := Int.emod_lt_of_pos _ (by decide)
      obtain ⟨k, hk⟩ : ∃ k : Nat, x % 30 = (k : Int) := ⟨(x % 30).toNat, by omega⟩
      have hk30 : k < 30 := by omega
      obtain ⟨t, hc, ht⟩ := piece_at (show wo.heap[w.heap.size]? = some (.cells pieceT 9 (0, 0)) from (HE.out.block w.heap.size HS.out).trans HR.out) k hk30
      rw [hk] at KM
      have hi1 : (0 : Int) ≤ (i : Int) := by omega
      have hi2 : (i : Int) < (n : Int) := by omega
      have hk1 : (0 : Int) ≤ (k : Int) := by omega
      have hk2 : (k : Int) < 30 := by omega
      have hcat : (s ++ t).size = s.size + t.size := ByteArray.size_append
      have hsz : s.size + t.size ≤ 6 * (i + 1) := by omega
      have hsm : s.size + t.size ≤ maxLen := by unfold maxLen; omega
      clear hx hm0 hm1 hk hcell
      go_wp2_with fail
      refine (KM.out _).mono ?_
      rintro e w2 ⟨rfl, rfl⟩
      go_wp2_with fail
      go_roundw
      case rel => exact ⟨i + 1, s ++ t, by omega, by go_num, rfl, by rw [hcat]; exact hsz, HE⟩
      case measure => simp [intOf]; omega
    · go_wp2_with fail
      go_ret
      exact ⟨s, rfl, by omega, HB.out.trans (HE.out.mono HB.out.size)⟩
theorem IntV.keep {w w' : World} {l : List Int} {v : Value} (h : IntV w l v) (hb : Below w.heap.size w w') : IntV w' l v := by
  obtain ⟨A, c, h1, h2, h3, h4, h5⟩ := h
  refine ⟨A, c, h1, h2, h3, fun h0 => ?_, h5⟩
  obtain ⟨b, o, h6, h7, h8⟩ := h4 h0
  exact ⟨b, o, h6, Nat.lt_of_lt_of_le h7 hb.size, fun i hi => (hb.cell (p := ⟨b, o + i, none⟩) h7).trans (h8 i hi)⟩
set_option maxHeartbeats 8000000 in
set_option maxRecDepth 100000 in
theorem lawPieces (l : List Int) (v : Value) (w : World) (hv : IntV w l v) : Calls Tryz.prog 4 #[v] w (Sy.RetY w (.bool true)) := by
  have HV := Lib.hid hv
  obtain ⟨A, c, rfl, _⟩ := hv
  obtain ⟨n, hn⟩ : ∃ n, l.length = n := ⟨_, rfl⟩
  rw [hn] at HV ⊢
  have HN := Lib.hid hn
  clear hn
  by_cases hbig : 40 < n
  · have h1 : (40 : Int) < (n : Int) := by omega
    go_enter Tryz.func4, Tryz.ntmps4
    go_wp2_with fail
    refine (firstP5 _).mono ?_
    rintro e w1 ⟨rfl, hb⟩
    go_wp2
    go_ret
    exact ⟨rfl, hb⟩
  · have h1 : ¬ (40 : Int) < (n : Int) := by omega
    have KPI : Hid (∀ W, Below w.heap.size w W → Calls Tryz.prog 14 #[.slice A n c] W (fun e w' => ∃ s : ByteArray, e = .returned (.string s) ∧ s.size ≤ 240 ∧ Below W.heap.size W w')) := fun W hb => by
      refine (piecesP l _ W (HV.out.keep hb) (by rw [HN.out]; omega)).mono ?_
      rintro e w' ⟨s, h1, h2, h3⟩
      exact ⟨s, h1, by rw [HN.out] at h2; omega, h3⟩
    clear hbig
    go_enter Tryz.func4, Tryz.ntmps4
    go_wp2_with fail
    refine (firstP5 _).mono ?_
    rintro e w1 ⟨rfl, hb1⟩
    have HB0 := Lib.hid hb1
    clear hb1
    go_wp2_with fail
    refine (KPI.out _ HB0.out).mono ?_
    rintro e w0 ⟨s, rfl, hs, hb0⟩
    have HB1 := Lib.hid (chain5 HB0.out hb0)
    clear hb0 HB0
    obtain ⟨x, p, ts, hl, hP, hR⟩ := bothTok s (by omega)
    have HL := Lib.hid hl
    have KP := Lib.hid hP
    have KR := Lib.hid hR
    clear hl hP hR hs
    go_wp2_with fail
    refine (KP.out _).mono ?_
    rintro e w2 ⟨v, rfl, hv, hb2⟩
    have HB2 := Lib.hid (chain5 (chain5 HB1.out hb2) (Below.alloc (Below.refl _ _) (Nat.le_refl _) (.cells #[.int .i64 x, .int .i64 p] 26)))
    have E2 : Hid (EB (w2.alloc (.cells #[.int .i64 x, .int .i64 p] 26)) w2.heap.size (.int .i64 x) (.int .i64 p)) := EB.new _ _ _
    have V2 := Lib.hid (hv.keep (Below.alloc (Below.refl _ _) (Nat.le_refl _) (.cells #[.int .i64 x, .int .i64 p] 26)))
    clear hb2 hv HB1
    go_upto_region 7 with fail
    generalize (w2.alloc (.cells #[.int .i64 x, .int .i64 p] 26)) = W3 at HB2 E2 V2 ⊢
    generalize w2.heap.size = g at E2 ⊢
    go_wp2_with fail
    refine (KR.out _).mono ?_
    rintro e w4 ⟨u, rfl, hu, hb4⟩
    have hal := Below.alloc (Below.refl w4.heap.size w4) (Nat.le_refl _) (.cells #[.int .i64 x, .int .i64 p] 26)
    have hbb := chain5 hb4 hal
    have HB5 := Lib.hid (chain5 HB2.out hbb)
    have E5 := Lib.hid (E2.out.keep hbb)
    have V5 := Lib.hid (V2.out.keep hbb)
    have F5 : Hid (EB (w4.alloc (.cells #[.int .i64 x, .int .i64 p] 26)) w4.heap.size (.int .i64 x) (.int .i64 p)) := EB.new _ _ _
    have U5 := Lib.hid (hu.keep hal)
    clear hal hbb hb4 hu HB2 E2 V2
    go_upto_region 8 with fail
    generalize (w4.alloc (.cells #[.int .i64 x, .int .i64 p] 26)) = W5 at HB5 E5 V5 F5 U5 ⊢
    generalize w4.heap.size = k at F5 ⊢
    have c0 := E5.out.c0
    have c1 := E5.out.c1
    have d0 := F5.out.c0
    have d1 := F5.out.c1
    go_wp2_with fail
    refine (sameTokensP ts v u _ _ _ V5.out U5.out HL.out).mono ?_
    rintro e w6 ⟨rfl, hb6⟩
    have HB6 := Lib.hid (chain5 HB5.out hb6)
    clear hb6 c0 c1 d0 d1
    go_wp2
    go_ret
    exact ⟨rfl, HB6.out⟩
theorem cell_has5 {w : World} {a : Addr} {v : Value} (h : w.cell? a = some v) : a.block < w.heap.size ∧ a.spot = none := by
  unfold World.cell? at h
  have hlt : a.block < w.heap.size := by
    rcases Nat.lt_or_ge a.block w.heap.size with h1 | h1
    · exact h1
    · rw [Array.getElem?_eq_none h1] at h; cases h
  refine ⟨hlt, ?_⟩
  split at h
  · split at h
    · cases h
    · rename_i hs
      cases hsp : a.spot with
      | none => rfl
      | some x => rw [hsp] at hs; simp at hs
  · cases h
set_option maxRecDepth 100000 in
theorem open_intV {H : Type} {enc : TypeId × Value → H} {w : World} {spare : Nat → Bool} {held : Bool} {r : Reach} {b0 : Nat} {v : Value} {d : DataW H} {p : List MemPlace} (hv : Value.okWide Tryz.prog w r b0 34 v) (h : DataW.Trod enc Tryz.prog w 0 spare held 34 v d p) :
    ∃ l : List Int, IntV w l v := by
  have hone : v.cells.toList = [v] ∨ ∃ cs, v = .agg cs := by
    cases v <;> first | exact .inl rfl | exact .inr ⟨_, rfl⟩
  obtain ⟨fuel, hf⟩ := h
  rcases hone with hone | ⟨cs, rfl⟩
  · rw [hone] at hf
    rcases Go.ChangeShapes.open_ints Tryz.underlying34 Tryz.underlying3 (by kernel_rfl) hf with ⟨e3, _⟩ | ⟨a, len, cap, zs, e3, _, hlc, hcm, hz, _, hat, hwf⟩
    · injection e3 with e3
      subst e3
      exact ⟨[], none, 0, rfl, Nat.le_refl _, Nat.zero_le _, fun h => absurd h (by simp), fun x hx => by simp at hx⟩
    · injection e3 with e3
      subst e3
      have hlen : len ≤ zs.length := by rw [hz]; split <;> omega
      have htl : (zs.take len).length = len := by rw [List.length_take]; omega
      refine ⟨zs.take len, some a, cap, by rw [htl], by rw [htl]; exact hlc, hcm, fun h0 => ?_, fun x hx => ?_⟩
      · rw [htl] at h0
        have hg := hat 0 (by omega)
        obtain ⟨hb, hs⟩ := cell_has5 hg
        obtain ⟨b, o, sp⟩ := a
        simp only [Addr.add] at hs hb
        have hs' : sp = none := by simpa using hs
        subst hs'
        refine ⟨b, o, rfl, by simpa using hb, fun i hi => ?_⟩
        rw [htl] at hi
        have := hat i (by omega)
        rw [List.getD_eq_getElem?_getD, List.getElem?_eq_getElem (by omega)] at this
        have e : (Addr.add ⟨b, o, none⟩ i) = ⟨b, o + i, none⟩ := by
          unfold Addr.add
          split
          · rename_i h; rw [h]; simp
          · simp
        rw [e] at this
        rw [this, List.getElem_take]
        rfl
      · exact bounds_i64 (hwf x (List.mem_of_mem_take hx))
  · exfalso
    unfold Value.okWide at hv
    rw [Tryz.underlying34] at hv
    simp [Cell.okWide, Cell.ok] at hv
end Go.Proofs.YtflnffgohbbhiaaGreatDoor
