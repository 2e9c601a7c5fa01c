/- The tokens of any text. -/
import Derived.Test.YtflnffgohbbhiaaGreatDoorG27
import Derived.Test.YtflnffgohbbhiaaGreatDoorG29
import Derived.Test.YtflnffgohbbhiaaGreatDoorG17
import Derived.ChangeSlices
import Derived.OpenShut
import Derived.Deep.RegionWith
import Derived.Deep.RegionHeld3
namespace Go.Proofs.YtflnffgohbbhiaaGreatDoor
open Go Go.RowKit
set_option linter.unusedVariables false
def tokR : Except (Int × Int) (List Tk) → List Tk
 | .ok ts => ts
 | .error _ => []
def errR {α : Type} : Except (Int × Int) α → Int × Int
 | .ok _ => (0, 0)
 | .error x => x
theorem OutV.get {w w' : World} {R : Except (Int × Int) (List Tk)} {e : Ending} (h : OutV w R e w') : ∃ v, e = .returned (.tuple #[v, .agg #[.int .i64 (errR R).1, .int .i64 (errR R).2]]) ∧ TkV w' w.heap.size (tokR R) v ∧ Below w.heap.size w w' := by
 obtain ⟨hb, h⟩ := h
 cases R with
 | ok ts =>
  obtain ⟨v, h1, h2⟩ := h
  exact ⟨v, h1, h2, hb⟩
 | error x => exact ⟨_, h, ⟨none, 0, rfl, Nat.le_refl _, by decide, fun h => absurd h (by simp [tokR])⟩, hb⟩
def IntV (w : World) (l : List Int) (v : Value) : Prop := ∃ A c, v = .slice A l.length c ∧ l.length ≤ c ∧ c ≤ maxLen ∧
 (0 < l.length → ∃ b o, A = some ⟨b, o, none⟩ ∧ b < w.heap.size ∧ ∀ i (hi : i < l.length), w.cell? ⟨b, o + i, none⟩ = some (.int .i64 l[i])) ∧ ∀ x ∈ l, -9223372036854775808 ≤ x ∧ x ≤ 9223372036854775807
def pieceT : Array Value := #[.string ⟨#[40]⟩, .string ⟨#[41]⟩, .string ⟨#[39]⟩, .string ⟨#[32]⟩, .string ⟨#[46]⟩, .string ⟨#[97]⟩, .string ⟨#[49, 50]⟩, .string ⟨#[45, 51]⟩, .string ⟨#[49, 47, 50]⟩, .string ⟨#[48, 47, 53]⟩, .string ⟨#[49, 47, 48]⟩, .string ⟨#[34]⟩, .string ⟨#[120, 32, 121]⟩, .string ⟨#[124]⟩, .string ⟨#[108, 105, 115, 112, 58, 58]⟩, .string ⟨#[117, 115, 101, 114, 58, 58]⟩, .string ⟨#[58, 58]⟩, .string ⟨#[58]⟩, .string ⟨#[59]⟩, .string ⟨#[10]⟩, .string ⟨#[35, 124]⟩, .string ⟨#[124, 35]⟩, .string ⟨#[35]⟩, .string ⟨#[92]⟩, .string ⟨#[45]⟩, .string ⟨#[48, 48, 55]⟩, .string ⟨#[99, 97, 114]⟩, .string ⟨#[9]⟩, .string ⟨#[195, 169]⟩, .string ⟨#[0]⟩]
def isPiece (v : Value) : Bool := match v with
 | .string s => decide (s.size ≤ 6)
 | _ => false
theorem piece_all : pieceT.all isPiece = true := by kernel_rfl
theorem piece_at {w : World} {g : Nat} (h : w.heap[g]? = some (.cells pieceT 9 (0, 0))) (k : Nat) (hk : k < 30) : ∃ t : ByteArray, w.cell? ⟨g, k, none⟩ = some (.string t) ∧ t.size ≤ 6 := by
 have hs : pieceT.size = 30 := rfl
 have h1 := Array.all_eq_true.1 piece_all k (by rw [hs]; exact hk)
 rw [cell_of_row _ _ _ _ _ _ h, Array.getElem?_eq_getElem (by rw [hs]; exact hk)]
 unfold isPiece at h1
 split at h1
 · rename_i s e
   exact ⟨s, by rw [e], of_decide_eq_true h1⟩
 · cases h1
set_option maxHeartbeats 8000000 in
set_option maxRecDepth 100000 in
theorem piecesP (l : List Int) (v : Value) (w : World) (hv : IntV w l v) (hl : l.length ≤ 1000) : Calls Tryz.prog 14 #[v] w (fun e w' => ∃ s : ByteArray, e = .returned (.string s) ∧ s.size ≤ 6 * l.length ∧ Below w.heap.size w w') := by
 obtain ⟨A, c, rfl, hlc, hcm, hA, hI⟩ := hv
 have HA := Lib.hid hA
 have HI := Lib.hid hI
 clear hA hI
 obtain ⟨n, hn⟩ : ∃ n, l.length = n := ⟨_, rfl⟩
 rw [hn] at hlc hl ⊢
 have HN := Lib.hid hn
 have HR : Hid ((w.alloc (.cells pieceT 9)).heap[w.heap.size]? = some (.cells pieceT 9 (0, 0))) := heap_alloc_new _ _
 have HB := Lib.hid (show Below w.heap.size w (w.alloc (.cells pieceT 9)) from Below.alloc (Below.refl _ _) (Nat.le_refl _) _)
 have HS : Hid (w.heap.size < (w.alloc (.cells pieceT 9)).heap.size) := by show _ < _; simp
 clear hn
 unfold pieceT at HR HB HS
 go_enter Tryz.func14, Tryz.ntmps14
 go_wp2_with fail
 generalize w.alloc (.cells #[.string ⟨#[40]⟩, .string ⟨#[41]⟩, .string ⟨#[39]⟩, .string ⟨#[32]⟩, .string ⟨#[46]⟩, .string ⟨#[97]⟩, .string ⟨#[49, 50]⟩, .string ⟨#[45, 51]⟩, .string ⟨#[49, 47, 50]⟩, .string ⟨#[48, 47, 53]⟩, .string ⟨#[49, 47, 48]⟩, .string ⟨#[34]⟩, .string ⟨#[120, 32, 121]⟩, .string ⟨#[124]⟩, .string ⟨#[108, 105, 115, 112, 58, 58]⟩, .string ⟨#[117, 115, 101, 114, 58, 58]⟩, .string ⟨#[58, 58]⟩, .string ⟨#[58]⟩, .string ⟨#[59]⟩, .string ⟨#[10]⟩, .string ⟨#[35, 124]⟩, .string ⟨#[124, 35]⟩, .string ⟨#[35]⟩, .string ⟨#[92]⟩, .string ⟨#[45]⟩, .string ⟨#[48, 48, 55]⟩, .string ⟨#[99, 97, 114]⟩, .string ⟨#[9]⟩, .string ⟨#[195, 169]⟩, .string ⟨#[0]⟩] 9) = W1 at HR HB HS ⊢
 have H0 : Hid (Below W1.heap.size W1 W1) := Below.refl _ _
 go_loopw [4, 5] (fun sv iv wr => ∃ (i : Nat) (s : ByteArray), i ≤ n ∧ iv = .int .i64 (i : Int) ∧ sv = .string s ∧ s.size ≤ 6 * i ∧ Hid (Below W1.heap.size W1 wr)) (fun _ iv _ => n - (intOf iv).toNat)
 case atStart => exact ⟨0, ⟨#[]⟩, Nat.zero_le _, rfl, rfl, Nat.le_refl _, H0⟩
 case round =>
  obtain ⟨i, s, hi, rfl, rfl, hs, HE⟩ := hrel
  obtain ⟨wo, rfl⟩ : ∃ wo : World, wo = wr := ⟨_, rfl⟩
  clear H0
  by_cases hin : i < n
  · obtain ⟨b, o, rfl, hb, hcell⟩ := HA.out (by rw [HN.out]; omega)
    have hil : i < l.length := by rw [HN.out]; exact hin
    have l0 := (HE.out.cell (p := ⟨b, o + i, none⟩) (Nat.lt_of_lt_of_le hb HB.out.size)).trans ((HB.out.cell (p := ⟨b, o + i, none⟩) hb).trans (hcell i hil))
    have hx := HI.out l[i] (List.getElem_mem hil)
    generalize l[i] = x at l0 hx
    have KM := Lib.hid (fun w => modO x 30 w hx.1 hx.2 (by decide) (by decide))
    have hm0 : 0 ≤ x % 30 := Int.emod_nonneg _ (by decide)
    have hm1 : x % 30 < 30 := Int.emod_lt_of_pos _ (by decide)
    obtain ⟨k, hk⟩ : ∃ k : Nat, x % 30 = (k : Int) := ⟨(x % 30).toNat, by omega⟩
    have hk30 : k < 30 := by omega
    obtain ⟨t, hc, ht⟩ := piece_at (show wo.heap[w.heap.size]? = some (.cells pieceT 9 (0, 0)) from (HE.out.block w.heap.size HS.out).trans HR.out) k hk30
    rw [hk] at KM
    have hi1 : (0 : Int) ≤ (i : Int) := by omega
    have hi2 : (i : Int) < (n : Int) := by omega
    have hk1 : (0 : Int) ≤ (k : Int) := by omega
    have hk2 : (k : Int) < 30 := by omega
    have hcat : (s ++ t).size = s.size + t.size := ByteArray.size_append
    have hsz : s.size + t.size ≤ 6 * (i + 1) := by omega
    have hsm : s.size + t.size ≤ maxLen := by unfold maxLen; omega
    clear hx hm0 hm1 hk hcell
    go_wp2_with fail
    refine (KM.out _).mono ?_
    rintro e w2 ⟨rfl, rfl⟩
    go_wp2_with fail
    go_roundw
    case rel => exact ⟨i + 1, s ++ t, by omega, by go_num, rfl, by rw [hcat]; exact hsz, HE⟩
    case measure => simp [intOf]; omega
  · go_wp2_with fail
    go_ret
    exact ⟨s, rfl, by omega, HB.out.trans (HE.out.mono HB.out.size)⟩
theorem IntV.keep {w w' : World} {l : List Int} {v : Value} (h : IntV w l v) (hb : Below w.heap.size w w') : IntV w' l v := by
 obtain ⟨A, c, h1, h2, h3, h4, h5⟩ := h
 refine ⟨A, c, h1, h2, h3, fun h0 => ?_, h5⟩
 obtain ⟨b, o, h6, h7, h8⟩ := h4 h0
 exact ⟨b, o, h6, Nat.lt_of_lt_of_le h7 hb.size, fun i hi => (hb.cell (p := ⟨b, o + i, none⟩) h7).trans (h8 i hi)⟩
theorem cell_has5 {w : World} {a : Addr} {v : Value} (h : w.cell? a = some v) : a.block < w.heap.size ∧ a.spot = none := by
 unfold World.cell? at h
 have hlt : a.block < w.heap.size := by
  rcases Nat.lt_or_ge a.block w.heap.size with h1 | h1
  · exact h1
  · rw [Array.getElem?_eq_none h1] at h; cases h
 refine ⟨hlt, ?_⟩
 split at h
 · split at h
   · cases h
   · rename_i hs
     cases hsp : a.spot with
     | none => rfl
     | some x => rw [hsp] at hs; simp at hs
 · cases h
set_option maxRecDepth 100000 in
theorem open_intV {H : Type} {enc : TypeId × Value → H} {w : World} {spare : Nat → Bool} {held : Bool} {r : Reach} {b0 : Nat} {v : Value} {d : DataW H} {p : List MemPlace} (hv : Value.okWide Tryz.prog w r b0 34 v) (h : DataW.Trod enc Tryz.prog w 0 spare held 34 v d p) :
 ∃ l : List Int, IntV w l v := by
 have hone : v.cells.toList = [v] ∨ ∃ cs, v = .agg cs := by
  cases v <;> first | exact .inl rfl | exact .inr ⟨_, rfl⟩
 obtain ⟨fuel, hf⟩ := h
 rcases hone with hone | ⟨cs, rfl⟩
 · rw [hone] at hf
   rcases Go.ChangeShapes.open_ints Tryz.underlying34 Tryz.underlying3 (by kernel_rfl) hf with ⟨e3, _⟩ | ⟨a, len, cap, zs, e3, _, hlc, hcm, hz, _, hat, hwf⟩
   · injection e3 with e3
     subst e3
     exact ⟨[], none, 0, rfl, Nat.le_refl _, Nat.zero_le _, fun h => absurd h (by simp), fun x hx => by simp at hx⟩
   · injection e3 with e3
     subst e3
     have hlen : len ≤ zs.length := by rw [hz]; split <;> omega
     have htl : (zs.take len).length = len := by rw [List.length_take]; omega
     refine ⟨zs.take len, some a, cap, by rw [htl], by rw [htl]; exact hlc, hcm, fun h0 => ?_, fun x hx => ?_⟩
     · rw [htl] at h0
       have hg := hat 0 (by omega)
       obtain ⟨hb, hs⟩ := cell_has5 hg
       obtain ⟨b, o, sp⟩ := a
       simp only [Addr.add] at hs hb
       have hs' : sp = none := by simpa using hs
       subst hs'
       refine ⟨b, o, rfl, by simpa using hb, fun i hi => ?_⟩
       rw [htl] at hi
       have := hat i (by omega)
       rw [List.getD_eq_getElem?_getD, List.getElem?_eq_getElem (by omega)] at this
       have e : (Addr.add ⟨b, o, none⟩ i) = ⟨b, o + i, none⟩ := by
        unfold Addr.add
        split
        · rename_i h; rw [h]; simp
        · simp
       rw [e] at this
       rw [this, List.getElem_take]
       rfl
     · exact bounds_i64 (hwf x (List.mem_of_mem_take hx))
 · exfalso
   unfold Value.okWide at hv
   rw [Tryz.underlying34] at hv
   simp [Cell.okWide, Cell.ok] at hv
section
variable (ok : List UInt8 → Bool) (num : Bool → List UInt8 → List UInt8 → List UInt8 × List UInt8) (size : List UInt8 → Nat)
end
section
variable (ok : List UInt8 → Bool) (num : Bool → List UInt8 → List UInt8 → List UInt8 × List UInt8) (size : List UInt8 → Nat)
end
theorem la_app (s t : ByteArray) : LA (s ++ t) = LA s ++ LA t := by
 unfold LA
 simp

def PsR (W0 w : World) (g : Nat) (l : List Sy.Pg) (lv : Value) (cur : ByteArray) (ts : List Tk) : Prop :=
 ∃ (tv : Value) (T : List Tk) (j : Nat), w.heap[g]? = some (.cells #[lv, .string cur, tv, .int .i64 (j : Int)] 79 (0, 0)) ∧ W0.heap.size ≤ g ∧ Below W0.heap.size W0 w ∧ Sy.PgV W0 l lv ∧ TkV W0 0 T tv ∧ T.drop j = ts ∧ T.length ≤ 10000
theorem PsR.lt {W0 w : World} {g : Nat} {l : List Sy.Pg} {lv : Value} {cur : ByteArray} {ts : List Tk} (h : PsR W0 w g l lv cur ts) : g < w.heap.size := by
 obtain ⟨tv, T, j, h1, _⟩ := h
 exact Sy.blk_ltY h1
theorem PsR.keep {W0 w w' : World} {g : Nat} {l : List Sy.Pg} {lv : Value} {cur : ByteArray} {ts : List Tk} (h : PsR W0 w g l lv cur ts) (hb : Below w.heap.size w w') : PsR W0 w' g l lv cur ts := by
 obtain ⟨tv, T, j, h1, h2, h3, h4, h5, h6, h7⟩ := h
 exact ⟨tv, T, j, (hb.block g (Sy.blk_ltY h1)).trans h1, h2, h3.trans (hb.mono h3.size), h4, h5, h6, h7⟩
theorem PsR.row {W0 w : World} {g b : Nat} {l : List Sy.Pg} {lv : Value} {cur : ByteArray} {ts : List Tk} (h : PsR W0 w g l lv cur ts) (hg : g < b) (c : Array Value) : PsR W0 (w.setRow b c) g l lv cur ts := by
 obtain ⟨tv, T, j, h1, h2, h3, h4⟩ := h
 exact ⟨tv, T, j, (setRow_other _ _ _ _ (by omega)).trans h1, h2, below_setRow h3 (by omega) _, h4⟩
theorem PsR.below {W0 w w' : World} {g B : Nat} {l : List Sy.Pg} {lv : Value} {cur : ByteArray} {ts : List Tk} (h : PsR W0 w g l lv cur ts) (hb : Below B w w') (hB : g < B) : PsR W0 w' g l lv cur ts := by
 obtain ⟨tv, T, j, h1, h2, h3, h4⟩ := h
 exact ⟨tv, T, j, (hb.block g hB).trans h1, h2, h3.trans (hb.mono (by omega)), h4⟩
structure PsO (W0 w : World) (g : Nat) (l : List Sy.Pg) (lv : Value) (cur : ByteArray) (t : Tk) (r : List Tk) (b o n c j : Nat) : Prop where
 c0 : w.cell? ⟨g, 0, none⟩ = some lv
 c1 : w.cell? ⟨g, 1, none⟩ = some (.string cur)
 c2 : w.cell? ⟨g, 2, none⟩ = some (.slice (some ⟨b, o, none⟩) n c)
 c3 : w.cell? ⟨g, 3, none⟩ = some (.int .i64 (j : Int))
 cf : w.frozen? ⟨g, 3, none⟩ = false
 hj : j < n
 hn : n ≤ 10000
 hb : b < W0.heap.size
 t0 : w.cell? ⟨b, o + j * 5, none⟩ = some (.int .i64 t.k)
 t1 : w.cell? ⟨b, o + j * 5 + 1, none⟩ = some (.int .i64 t.p)
 t2 : w.cell? ⟨b, o + j * 5 + 2, none⟩ = some (.string (BA t.pkg))
 t3 : w.cell? ⟨b, o + j * 5 + 3, none⟩ = some (.string (BA t.txt))
 t4 : w.cell? ⟨b, o + j * 5 + 4, none⟩ = some (.string (BA t.den))
 tl : PsR W0 (w.setCell ⟨g, 3, none⟩ (.int .i64 ((j : Int) + 1))) g l lv cur r
 ln : j + (r.length + 1) = n
theorem dropR_get {α : Type} {T : List α} {j : Nat} {t : α} {r : List α} (h : T.drop j = t :: r) : ∃ hj : j < T.length, T[j] = t ∧ T.drop (j + 1) = r := by
 have hlt : j < T.length := by
  have := congrArg List.length h
  rw [List.length_drop, List.length_cons] at this
  omega
 refine ⟨hlt, ?_⟩
 rw [List.drop_eq_getElem_cons hlt] at h
 injection h with h1 h2
 exact ⟨h1, h2⟩
theorem PsR.open {W0 w : World} {g : Nat} {l : List Sy.Pg} {lv : Value} {cur : ByteArray} {t : Tk} {r : List Tk} (h : PsR W0 w g l lv cur (t :: r)) : ∃ b o n c j, PsO W0 w g l lv cur t r b o n c j := by
 obtain ⟨tv, T, j, h1, h2, h3, h4, h5, h6, h7⟩ := h
 obtain ⟨hj, hk, hd⟩ := dropR_get h6
 obtain ⟨b, o, c, rfl, k3, k4, k5, k6, k7, k8⟩ := h5.at j hj
 rw [hk] at k4 k5 k6 k7 k8
 refine ⟨b, o, T.length, c, j, ⟨?_, ?_, ?_, ?_, ?_, hj, h7, k3, ?_, ?_, ?_, ?_, ?_, ?_, ?_⟩⟩
 · rw [cell_of_row _ _ _ _ _ _ h1]; rfl
 · rw [cell_of_row _ _ _ _ _ _ h1]; rfl
 · rw [cell_of_row _ _ _ _ _ _ h1]; rfl
 · rw [cell_of_row _ _ _ _ _ _ h1]; rfl
 · simp [World.frozen?, h1]
 · exact (h3.cell (p := ⟨b, o + j * 5, none⟩) k3).trans k4
 · exact (h3.cell (p := ⟨b, o + j * 5 + 1, none⟩) k3).trans k5
 · exact (h3.cell (p := ⟨b, o + j * 5 + 2, none⟩) k3).trans k6
 · exact (h3.cell (p := ⟨b, o + j * 5 + 3, none⟩) k3).trans k7
 · exact (h3.cell (p := ⟨b, o + j * 5 + 4, none⟩) k3).trans k8
 · refine ⟨_, T, j + 1, ?_, h2, h3.trans (below_set w _ _ _ h2), h4, h5, hd, h7⟩
   simp [World.setCell, Array.getElem?_modify, h1]
 · have := congrArg List.length h6
   rw [List.length_drop, List.length_cons] at this
   omega
def OutER (W0 w : World) (g : Nat) (l : List Sy.Pg) (lv : Value) (cur : ByteArray) (R : Pr) (e : Ending) (w' : World) : Prop := match R with
 | .ok o r => ∃ p, e = .returned (.tuple #[vO o p, .agg #[.int .i64 0, .int .i64 0]]) ∧ Pair w' (fun b => w.heap.size ≤ b ∧ b < w'.heap.size) o p ∧ PsR W0 w' g l lv cur r ∧ But g w w'
 | .bad x q => e = .returned (.tuple #[.agg #[.int .i64 0, .string ⟨#[]⟩, .string ⟨#[]⟩, .string ⟨#[]⟩, .string ⟨#[]⟩, .string ⟨#[]⟩, .slice none 0 0], .agg #[.int .i64 x, .int .i64 q]]) ∧ But g w w'
 | .out => True
set_option maxHeartbeats 8000000
set_option maxRecDepth 100000

theorem mergeG {G P : Prop} (g : G) (h : G → P) : P := h g
theorem PsR.bel {W0 w : World} {g : Nat} {l : List Sy.Pg} {lv : Value} {cur : ByteArray} {ts : List Tk} (h : PsR W0 w g l lv cur ts) : W0.heap.size ≤ w.heap.size := by
 obtain ⟨tv, T, j, h1, h2, h3, _⟩ := h
 exact h3.size
theorem PsO.more {W0 w w' : World} {g : Nat} {l : List Sy.Pg} {lv : Value} {cur : ByteArray} {t : Tk} {r : List Tk} {b o n c j : Nat} (h : PsO W0 w g l lv cur t r b o n c j) (hb : Below w.heap.size w w') (hg : g < w.heap.size) (hs : W0.heap.size ≤ w.heap.size) : PsO W0 w' g l lv cur t r b o n c j := by
 have hbb := h.hb
 have e : ∀ k, w'.cell? ⟨g, k, none⟩ = w.cell? ⟨g, k, none⟩ := fun k => hb.cell (p := ⟨g, k, none⟩) hg
 have e2 : ∀ k, w'.cell? ⟨b, k, none⟩ = w.cell? ⟨b, k, none⟩ := fun k => hb.cell (p := ⟨b, k, none⟩) (Nat.lt_of_lt_of_le hbb hs)
 refine ⟨(e 0).trans h.c0, (e 1).trans h.c1, (e 2).trans h.c2, (e 3).trans h.c3, ?_, h.hj, h.hn, hbb, (e2 _).trans h.t0, (e2 _).trans h.t1, (e2 _).trans h.t2, (e2 _).trans h.t3, (e2 _).trans h.t4, ?_, h.ln⟩
 · have h1 := hb.block g hg
   have h2 := h.cf
   simp only [World.frozen?, h1] at h2 ⊢
   exact h2
 · obtain ⟨tv, T, i, h1, h2, h3, h4⟩ := h.tl
   have hh := hb.block g hg
   refine ⟨tv, T, i, ?_, h2, ?_, h4⟩
   · rw [← h1]
     simp only [World.setCell, Array.getElem?_modify, hh]
   · refine ⟨?_, ?_, ?_, ?_, fun k hk => ?_⟩
     · exact hb.os.trans h3.os
     · exact hb.tape.trans h3.tape
     · exact hb.output.trans h3.output
     · have h5 := h3.size
       have h6 := hb.size
       simp [World.setCell] at h5 ⊢
       omega
     · have h5 := h3.block k hk
       have h6 := hb.block k (Nat.lt_of_lt_of_le hk hs)
       have h7 : k ≠ g := by omega
       rw [Below.heap_setCell _ ⟨g, 3, none⟩ _ k h7] at h5 ⊢
       exact h6.trans h5
structure RX (W0 w W : World) (g : Nat) (l : List Sy.Pg) (lv : Value) (cur : ByteArray) (ts : List Tk) (x : Array Value) (u v : Value) : Prop where
 hg : g < w.heap.size
 but : But g w W
 o : ObB W w.heap.size x
 e : EB W (w.heap.size + 1) u v
 ps : PsR W0 W g l lv cur ts
section
variable {W0 w W W' : World} {g : Nat} {l : List Sy.Pg} {lv : Value} {cur : ByteArray} {ts ts' : List Tk} {x : Array Value} {u v : Value}
theorem RX.keep (h : RX W0 w W g l lv cur ts x u v) (hb : Below W.heap.size W W') : RX W0 w W' g l lv cur ts x u v := ⟨h.hg, h.but.trans (But.of hb), h.o.keep hb, h.e.keep hb, h.ps.keep hb⟩
theorem RX.next (h : RX W0 w W g l lv cur ts x u v) (hb : But g W W') (hp : PsR W0 W' g l lv cur ts') : RX W0 w W' g l lv cur ts' x u v :=
 ⟨h.hg, h.but.trans hb, h.o.but hb (by have := h.hg; omega), h.e.but hb (by have := h.hg; omega), hp⟩
theorem RX.new (h : PsR W0 w g l lv cur ts) : RX W0 w ((w.alloc (.cells #[.int .i64 0, .string ⟨#[]⟩, .string ⟨#[]⟩, .string ⟨#[]⟩, .string ⟨#[]⟩, .string ⟨#[]⟩, .slice none 0 0] 47)).alloc (.cells #[.int .i64 0, .int .i64 0] 26)) g l lv cur ts #[.int .i64 0, .string ⟨#[]⟩, .string ⟨#[]⟩, .string ⟨#[]⟩, .string ⟨#[]⟩, .string ⟨#[]⟩, .slice none 0 0] (.int .i64 0) (.int .i64 0) := by
 refine ⟨h.lt, But.of (al2 w _ _), heap_old1 _ _ _, ?_, h.keep (al2 w _ _)⟩
 have := EB.new (w.alloc (.cells #[.int .i64 0, .string ⟨#[]⟩, .string ⟨#[]⟩, .string ⟨#[]⟩, .string ⟨#[]⟩, .string ⟨#[]⟩, .slice none 0 0] 47)) (.int .i64 0) (.int .i64 0)
 simpa using this
theorem PsR.cell (h : PsR W0 W g l lv cur ts) {b : Nat} (hb : g < b) (k : Nat) (y : Value) : PsR W0 (W.setCell ⟨b, k, none⟩ y) g l lv cur ts := by
 obtain ⟨tv, T, j, h1, h2, h3, h4⟩ := h
 exact ⟨tv, T, j, (Below.heap_setCell _ ⟨b, k, none⟩ _ g (by show g ≠ b; omega)).trans h1, h2, h3.trans (below_set _ _ _ _ (by omega)), h4⟩
theorem But.cell {b k : Nat} {y : Value} (h : But g w W) (hb : w.heap.size ≤ b) : But g w (W.setCell ⟨b, k, none⟩ y) :=
 ⟨h.os, h.tape, h.output, by have := h.size; simpa [World.setCell] using this, fun j hj hne => (Below.heap_setCell _ ⟨b, k, none⟩ _ j (by show j ≠ b; omega)).trans (h.block j hj hne)⟩
theorem RX.setE (h : RX W0 w W g l lv cur ts x u v) (p q : Value) : RX W0 w ((W.setCell ⟨w.heap.size + 1, 0, none⟩ p).setCell ⟨w.heap.size + 1, 1, none⟩ q) g l lv cur ts x p q := by
 have hg := h.hg
 refine ⟨hg, (h.but.cell (by omega)).cell (by omega), ?_, h.e.cell2 p q, (h.ps.cell (by omega) _ _).cell (by omega) _ _⟩
 exact (Below.heap_setCell _ ⟨w.heap.size + 1, 1, none⟩ _ _ (by show w.heap.size ≠ w.heap.size + 1; omega)).trans ((Below.heap_setCell _ ⟨w.heap.size + 1, 0, none⟩ _ _ (by show w.heap.size ≠ w.heap.size + 1; omega)).trans h.o)
theorem RX.setE2 (h : RX W0 w W g l lv cur ts x u v) (p q : Value) : RX W0 w (W.setRow (w.heap.size + 1) #[p, q]) g l lv cur ts x p q := by
 have hg := h.hg
 exact ⟨hg, h.but.row (by omega) _, (setRow_other _ _ _ _ (by omega)).trans h.o, h.e.set p q, h.ps.row (by omega) _⟩
theorem RX.setO2 (h : RX W0 w W g l lv cur ts x u v) (y : Array Value) : RX W0 w (W.setRow w.heap.size y) g l lv cur ts y u v := by
 have hg := h.hg
 exact ⟨hg, h.but.row (by omega) _, setRow_heap _ _ _ _ _ _ h.o, h.e.row (by omega) _, h.ps.row hg _⟩
theorem RX.setO {y0 y1 y2 y3 y4 y5 y6 : Value} (h : RX W0 w W g l lv cur ts #[y0, y1, y2, y3, y4, y5, y6] u v) (x0 x1 x2 x3 x4 x5 x6 : Value) : RX W0 w (set7 W w.heap.size x0 x1 x2 x3 x4 x5 x6) g l lv cur ts #[x0, x1, x2, x3, x4, x5, x6] u v := by
 have hg := h.hg
 refine ⟨hg, set7_but h.but (Nat.le_refl _) _ _ _ _ _ _ _, set7_row h.o _ _ _ _ _ _ _, (set7_other _ _ _ _ _ _ _ _ _ _ (by omega)).trans h.e, ?_⟩
 obtain ⟨tv, T, j, h1, h2, h3, h4⟩ := h.ps
 exact ⟨tv, T, j, (set7_other _ _ _ _ _ _ _ _ _ g (by omega)).trans h1, h2, set7_below h3 (by omega) _ _ _ _ _ _ _, h4⟩
theorem RX.retBad {fn : Func} {r0 r1 : Tmp} {tmps : Array Value} {p q : Int} (h : RX W0 w W g l lv cur ts #[.int .i64 0, .string ⟨#[]⟩, .string ⟨#[]⟩, .string ⟨#[]⟩, .string ⟨#[]⟩, .string ⟨#[]⟩, .slice none 0 0] (.int .i64 p) (.int .i64 q)) (hf : fn.results = #[.cell r0 47, .cell r1 26]) (h0 : tmps.getD r0 undef = .pointer (some ⟨w.heap.size, 0, none⟩)) (h1 : tmps.getD r1 undef = .pointer (some ⟨w.heap.size + 1, 0, none⟩)) :
 bodyPost Tryz.prog fn (OutER W0 w g l lv cur (.bad p q)) Exit.ret ⟨tmps, []⟩ W := bodyPost_ret (resCC hf h0 h1 h.o h.e) rfl ⟨rfl, h.but⟩
theorem RX.retOk {fn : Func} {r0 r1 : Tmp} {tmps : Array Value} {o : Ob} {p : Value} {S : Nat → Prop} {x0 x1 x2 x3 x4 x5 : Value} (h : RX W0 w W g l lv cur ts #[x0, x1, x2, x3, x4, x5, p] (.int .i64 0) (.int .i64 0)) (hz : Val7 o p x0 x1 x2 x3 x4 x5) (hp : Pair W S o p) (hS : ∀ b, S b → w.heap.size ≤ b ∧ b < W.heap.size) (hf : fn.results = #[.cell r0 47, .cell r1 26]) (h0 : tmps.getD r0 undef = .pointer (some ⟨w.heap.size, 0, none⟩)) (h1 : tmps.getD r1 undef = .pointer (some ⟨w.heap.size + 1, 0, none⟩)) :
 bodyPost Tryz.prog fn (OutER W0 w g l lv cur (.ok o ts)) Exit.ret ⟨tmps, []⟩ W := bodyPost_ret (resCC hf h0 h1 h.o h.e) rfl ⟨p, by unfold vO; rw [hz], hp.more hS, h.ps, h.but⟩
end
theorem objEndR (W0 w : World) (g : Nat) (l : List Sy.Pg) (lv : Value) (cur : ByteArray) (d : Int) (tk tp : Int) (tq tt td : List UInt8) (r : List Tk) (h : PsR W0 w g l lv cur (⟨tk, tp, tq, tt, td⟩ :: r)) (hk : tk = 0) : Calls Tryz.prog 37 #[.pointer (some ⟨g, 0, none⟩), .int .i64 d] w (OutER W0 w g l lv cur (.bad 11 tp)) := by
 have k0 : (tk == 0) = true := by rw [beq_iff_eq]; omega
 have HX := Lib.hid (RX.new h)
 clear h hk
 go_enter Tryz.func37, Tryz.ntmps37
 go_upto_region 1 with fail
 generalize ((w.alloc (.cells #[.int .i64 0, .string ⟨#[]⟩, .string ⟨#[]⟩, .string ⟨#[]⟩, .string ⟨#[]⟩, .string ⟨#[]⟩, .slice none 0 0] 47)).alloc (.cells #[.int .i64 0, .int .i64 0] 26)) = W1 at HX ⊢
 obtain ⟨b, o, n, c, j, HC0⟩ := HX.out.ps.open
 have c0 := HC0.c0
 have c1 := HC0.c1
 have c2 := HC0.c2
 have c3 := HC0.c3
 have t0 := HC0.t0
 have t1 := HC0.t1
 have t2 := HC0.t2
 have t3 := HC0.t3
 have t4 := HC0.t4
 have hj := HC0.hj
 have hn := HC0.hn
 have hj0 : (0 : Int) ≤ (j : Int) := by omega
 have hj1 : (j : Int) < (n : Int) := by omega
 have HC1 := HC0.more ((Below.refl W1.heap.size W1).drew) HX.out.ps.lt HX.out.ps.bel
 have dc2 := HC1.c2
 have dc3 := HC1.c3
 have dt0 := HC1.t0
 have dt1 := HC1.t1
 have dt2 := HC1.t2
 have dt3 := HC1.t3
 have dt4 := HC1.t4
 have HC2 := HC0.more ((Below.alloc (Below.refl W1.heap.size W1) (Nat.le_refl _) (.cells #[.int .i64 0, .int .i64 0, .string ⟨#[]⟩, .string ⟨#[]⟩, .string ⟨#[]⟩] 65)).drew) HX.out.ps.lt HX.out.ps.bel
 have ac2 := HC2.c2
 have ac3 := HC2.c3
 have at0 := HC2.t0
 have at1 := HC2.t1
 have at2 := HC2.t2
 have at3 := HC2.t3
 have at4 := HC2.t4
 clear HC0 HC1 HC2
 go_wp2_with fail
 apply mergeG
 case h =>
  intro hG
  go_region_with (fail)
  all_goals exact hG
 clear c0 c1 c2 c3 t0 t1 t2 t3 t4 dc2 dc3 dt0 dt1 dt2 dt3 dt4 ac2 ac3 at0 at1 at2 at3 at4 hj hj0 hj1 hn
 have HT : Hid (TR (W1.alloc (.cells #[.int .i64 tk, .int .i64 tp, .string (BA tq), .string (BA tt), .string (BA td)] 65)).drew W1.heap.size (tkC ⟨tk, tp, tq, tt, td⟩)) := (TR.new W1 _).keep ((Below.refl _ _).drew)
 have HL1 : Hid (w.heap.size + 1 < W1.heap.size) := HX.out.e.lt
 replace HX : Hid (RX W0 w (W1.alloc (.cells #[.int .i64 tk, .int .i64 tp, .string (BA tq), .string (BA tt), .string (BA td)] 65)).drew g l lv cur (⟨tk, tp, tq, tt, td⟩ :: r) #[.int .i64 0, .string ⟨#[]⟩, .string ⟨#[]⟩, .string ⟨#[]⟩, .string ⟨#[]⟩, .string ⟨#[]⟩, .slice none 0 0] (.int .i64 0) (.int .i64 0)) := HX.out.keep ((Below.alloc (Below.refl _ _) (Nat.le_refl _) _).drew)
 generalize (W1.alloc (.cells #[.int .i64 tk, .int .i64 tp, .string (BA tq), .string (BA tt), .string (BA td)] 65)).drew = W2 at HX HT ⊢
 generalize W1.heap.size = gt at HT HL1 ⊢
 go_upto_region 3 with fail
 have HN : Hid (ObB (W2.alloc (.cells #[.int .i64 0, .string ⟨#[]⟩, .string ⟨#[]⟩, .string ⟨#[]⟩, .string ⟨#[]⟩, .string ⟨#[]⟩, .slice none 0 0] 47)) W2.heap.size #[.int .i64 0, .string ⟨#[]⟩, .string ⟨#[]⟩, .string ⟨#[]⟩, .string ⟨#[]⟩, .string ⟨#[]⟩, .slice none 0 0]) := heap_alloc_new _ _
 have hal := Below.alloc (Below.refl W2.heap.size W2) (Nat.le_refl _) (.cells #[.int .i64 0, .string ⟨#[]⟩, .string ⟨#[]⟩, .string ⟨#[]⟩, .string ⟨#[]⟩, .string ⟨#[]⟩, .slice none 0 0] 47)
 have HL2 : Hid (gt < W2.heap.size) := HT.out.lt
 replace HT := Lib.hid (HT.out.keep hal)
 replace HX := Lib.hid (HX.out.keep hal)
 clear hal
 generalize (W2.alloc (.cells #[.int .i64 0, .string ⟨#[]⟩, .string ⟨#[]⟩, .string ⟨#[]⟩, .string ⟨#[]⟩, .string ⟨#[]⟩, .slice none 0 0] 47)) = W3 at HX HT HN ⊢
 generalize W2.heap.size = gn at HN HL2 ⊢
 obtain ⟨q0, q1, q2, q3, q4⟩ := HT.out.all
 dsimp only at q0 q1 q2 q3 q4
 have hl1 := HL1.out
 have hl2 := HL2.out
 have n1 : ¬ w.heap.size = w.heap.size + 1 := by omega
 have n2 : ¬ w.heap.size + 1 = w.heap.size := by omega
 have n3 : ¬ gt = w.heap.size := by omega
 have n4 : ¬ w.heap.size = gt := by omega
 have n5' : ¬ gt = w.heap.size + 1 := by omega
 have n6' : ¬ w.heap.size + 1 = gt := by omega
 have n7' : ¬ gn = w.heap.size := by omega
 have n8 : ¬ w.heap.size = gn := by omega
 have n9 : ¬ gn = w.heap.size + 1 := by omega
 have n10 : ¬ w.heap.size + 1 = gn := by omega
 go_wp2_with fail
 have HX0 := Lib.hid (HX.out.keep ((Below.refl W3.heap.size W3).drew))
 have HN0 := Lib.hid (HN.out.keep ((Below.refl W3.heap.size W3).drew))
 have HT0 := Lib.hid (HT.out.keep ((Below.refl W3.heap.size W3).drew))
 obtain ⟨m0, m1, m2, m3, m4, m5, m6⟩ := HN0.out.c
 obtain ⟨p0, p1, p2, p3, p4⟩ := HT0.out.all
 dsimp only at p0 p1 p2 p3 p4
 go_region_with (go_at_call 31; refine (badR 11 tp _).mono ?_; rintro e w5 ⟨rfl, hb⟩; have HX5 := Lib.hid (HX0.out.keep hb); have HN5 := Lib.hid (HN0.out.keep hb); obtain ⟨b0, b1, b2, b3, b4, b5, b6⟩ := HN5.out.c; obtain ⟨d0, d1, d2, d3, d4, d5, d6⟩ := HX5.out.o.c; obtain ⟨f0, f1, f2, f3, f4, f5, f6⟩ := HX5.out.o.f; obtain ⟨ef0, ef1⟩ := HX5.out.e.frs; have ec0 := HX5.out.e.c0; have ec1 := HX5.out.e.c1; clear hb)
 all_goals
  go_wp2_with fail
  exact ((HX5.out.setO (.int .i64 0) (.string ⟨#[]⟩) (.string ⟨#[]⟩) (.string ⟨#[]⟩) (.string ⟨#[]⟩) (.string ⟨#[]⟩) (.slice none 0 0)).setE (.int .i64 11) (.int .i64 tp)).retBad rfl rfl rfl
theorem objCloseR (W0 w : World) (g : Nat) (l : List Sy.Pg) (lv : Value) (cur : ByteArray) (d : Int) (tk tp : Int) (tq tt td : List UInt8) (r : List Tk) (h : PsR W0 w g l lv cur (⟨tk, tp, tq, tt, td⟩ :: r)) (hk : tk = 2) : Calls Tryz.prog 37 #[.pointer (some ⟨g, 0, none⟩), .int .i64 d] w (OutER W0 w g l lv cur (.bad 12 tp)) := by
 have k0 : (tk == 0) = false := by rw [beq_eq_false_iff_ne]; omega
 have k2 : (tk == 2) = true := by rw [beq_iff_eq]; omega
 have HX := Lib.hid (RX.new h)
 clear h hk
 go_enter Tryz.func37, Tryz.ntmps37
 go_upto_region 1 with fail
 generalize ((w.alloc (.cells #[.int .i64 0, .string ⟨#[]⟩, .string ⟨#[]⟩, .string ⟨#[]⟩, .string ⟨#[]⟩, .string ⟨#[]⟩, .slice none 0 0] 47)).alloc (.cells #[.int .i64 0, .int .i64 0] 26)) = W1 at HX ⊢
 obtain ⟨b, o, n, c, j, HC0⟩ := HX.out.ps.open
 have c0 := HC0.c0
 have c1 := HC0.c1
 have c2 := HC0.c2
 have c3 := HC0.c3
 have t0 := HC0.t0
 have t1 := HC0.t1
 have t2 := HC0.t2
 have t3 := HC0.t3
 have t4 := HC0.t4
 have hj := HC0.hj
 have hn := HC0.hn
 have hj0 : (0 : Int) ≤ (j : Int) := by omega
 have hj1 : (j : Int) < (n : Int) := by omega
 have HC1 := HC0.more ((Below.refl W1.heap.size W1).drew) HX.out.ps.lt HX.out.ps.bel
 have dc2 := HC1.c2
 have dc3 := HC1.c3
 have dt0 := HC1.t0
 have dt1 := HC1.t1
 have dt2 := HC1.t2
 have dt3 := HC1.t3
 have dt4 := HC1.t4
 have HC2 := HC0.more ((Below.alloc (Below.refl W1.heap.size W1) (Nat.le_refl _) (.cells #[.int .i64 0, .int .i64 0, .string ⟨#[]⟩, .string ⟨#[]⟩, .string ⟨#[]⟩] 65)).drew) HX.out.ps.lt HX.out.ps.bel
 have ac2 := HC2.c2
 have ac3 := HC2.c3
 have at0 := HC2.t0
 have at1 := HC2.t1
 have at2 := HC2.t2
 have at3 := HC2.t3
 have at4 := HC2.t4
 clear HC0 HC1 HC2
 go_wp2_with fail
 apply mergeG
 case h =>
  intro hG
  go_region_with (fail)
  all_goals exact hG
 clear c0 c1 c2 c3 t0 t1 t2 t3 t4 dc2 dc3 dt0 dt1 dt2 dt3 dt4 ac2 ac3 at0 at1 at2 at3 at4 hj hj0 hj1 hn
 have HT : Hid (TR (W1.alloc (.cells #[.int .i64 tk, .int .i64 tp, .string (BA tq), .string (BA tt), .string (BA td)] 65)).drew W1.heap.size (tkC ⟨tk, tp, tq, tt, td⟩)) := (TR.new W1 _).keep ((Below.refl _ _).drew)
 have HL1 : Hid (w.heap.size + 1 < W1.heap.size) := HX.out.e.lt
 replace HX : Hid (RX W0 w (W1.alloc (.cells #[.int .i64 tk, .int .i64 tp, .string (BA tq), .string (BA tt), .string (BA td)] 65)).drew g l lv cur (⟨tk, tp, tq, tt, td⟩ :: r) #[.int .i64 0, .string ⟨#[]⟩, .string ⟨#[]⟩, .string ⟨#[]⟩, .string ⟨#[]⟩, .string ⟨#[]⟩, .slice none 0 0] (.int .i64 0) (.int .i64 0)) := HX.out.keep ((Below.alloc (Below.refl _ _) (Nat.le_refl _) _).drew)
 generalize (W1.alloc (.cells #[.int .i64 tk, .int .i64 tp, .string (BA tq), .string (BA tt), .string (BA td)] 65)).drew = W2 at HX HT ⊢
 generalize W1.heap.size = gt at HT HL1 ⊢
 go_upto_region 3 with fail
 have HN : Hid (ObB (W2.alloc (.cells #[.int .i64 0, .string ⟨#[]⟩, .string ⟨#[]⟩, .string ⟨#[]⟩, .string ⟨#[]⟩, .string ⟨#[]⟩, .slice none 0 0] 47)) W2.heap.size #[.int .i64 0, .string ⟨#[]⟩, .string ⟨#[]⟩, .string ⟨#[]⟩, .string ⟨#[]⟩, .string ⟨#[]⟩, .slice none 0 0]) := heap_alloc_new _ _
 have hal := Below.alloc (Below.refl W2.heap.size W2) (Nat.le_refl _) (.cells #[.int .i64 0, .string ⟨#[]⟩, .string ⟨#[]⟩, .string ⟨#[]⟩, .string ⟨#[]⟩, .string ⟨#[]⟩, .slice none 0 0] 47)
 have HL2 : Hid (gt < W2.heap.size) := HT.out.lt
 replace HT := Lib.hid (HT.out.keep hal)
 replace HX := Lib.hid (HX.out.keep hal)
 clear hal
 generalize (W2.alloc (.cells #[.int .i64 0, .string ⟨#[]⟩, .string ⟨#[]⟩, .string ⟨#[]⟩, .string ⟨#[]⟩, .string ⟨#[]⟩, .slice none 0 0] 47)) = W3 at HX HT HN ⊢
 generalize W2.heap.size = gn at HN HL2 ⊢
 obtain ⟨q0, q1, q2, q3, q4⟩ := HT.out.all
 dsimp only at q0 q1 q2 q3 q4
 have hl1 := HL1.out
 have hl2 := HL2.out
 have n1 : ¬ w.heap.size = w.heap.size + 1 := by omega
 have n2 : ¬ w.heap.size + 1 = w.heap.size := by omega
 have n3 : ¬ gt = w.heap.size := by omega
 have n4 : ¬ w.heap.size = gt := by omega
 have n5' : ¬ gt = w.heap.size + 1 := by omega
 have n6' : ¬ w.heap.size + 1 = gt := by omega
 have n7' : ¬ gn = w.heap.size := by omega
 have n8 : ¬ w.heap.size = gn := by omega
 have n9 : ¬ gn = w.heap.size + 1 := by omega
 have n10 : ¬ w.heap.size + 1 = gn := by omega
 go_wp2_with fail
 have HX0 := Lib.hid (HX.out.keep ((Below.refl W3.heap.size W3).drew))
 have HN0 := Lib.hid (HN.out.keep ((Below.refl W3.heap.size W3).drew))
 have HT0 := Lib.hid (HT.out.keep ((Below.refl W3.heap.size W3).drew))
 obtain ⟨m0, m1, m2, m3, m4, m5, m6⟩ := HN0.out.c
 obtain ⟨p0, p1, p2, p3, p4⟩ := HT0.out.all
 dsimp only at p0 p1 p2 p3 p4
 go_region_with (go_at_call 31; refine (badR 12 tp _).mono ?_; rintro e w5 ⟨rfl, hb⟩; have HX5 := Lib.hid (HX0.out.keep hb); have HN5 := Lib.hid (HN0.out.keep hb); obtain ⟨b0, b1, b2, b3, b4, b5, b6⟩ := HN5.out.c; obtain ⟨d0, d1, d2, d3, d4, d5, d6⟩ := HX5.out.o.c; obtain ⟨f0, f1, f2, f3, f4, f5, f6⟩ := HX5.out.o.f; obtain ⟨ef0, ef1⟩ := HX5.out.e.frs; have ec0 := HX5.out.e.c0; have ec1 := HX5.out.e.c1; clear hb)
 all_goals
  go_wp2_with fail
  exact ((HX5.out.setO (.int .i64 0) (.string ⟨#[]⟩) (.string ⟨#[]⟩) (.string ⟨#[]⟩) (.string ⟨#[]⟩) (.string ⟨#[]⟩) (.slice none 0 0)).setE (.int .i64 12) (.int .i64 tp)).retBad rfl rfl rfl
theorem objDotR (W0 w : World) (g : Nat) (l : List Sy.Pg) (lv : Value) (cur : ByteArray) (d : Int) (tk tp : Int) (tq tt td : List UInt8) (r : List Tk) (h : PsR W0 w g l lv cur (⟨tk, tp, tq, tt, td⟩ :: r)) (hk : tk = 3) : Calls Tryz.prog 37 #[.pointer (some ⟨g, 0, none⟩), .int .i64 d] w (OutER W0 w g l lv cur (.bad 12 tp)) := by
 have k0 : (tk == 0) = false := by rw [beq_eq_false_iff_ne]; omega
 have k2 : (tk == 2) = false := by rw [beq_eq_false_iff_ne]; omega
 have k3 : (tk == 3) = true := by rw [beq_iff_eq]; omega
 have HX := Lib.hid (RX.new h)
 clear h hk
 go_enter Tryz.func37, Tryz.ntmps37
 go_upto_region 1 with fail
 generalize ((w.alloc (.cells #[.int .i64 0, .string ⟨#[]⟩, .string ⟨#[]⟩, .string ⟨#[]⟩, .string ⟨#[]⟩, .string ⟨#[]⟩, .slice none 0 0] 47)).alloc (.cells #[.int .i64 0, .int .i64 0] 26)) = W1 at HX ⊢
 obtain ⟨b, o, n, c, j, HC0⟩ := HX.out.ps.open
 have c0 := HC0.c0
 have c1 := HC0.c1
 have c2 := HC0.c2
 have c3 := HC0.c3
 have t0 := HC0.t0
 have t1 := HC0.t1
 have t2 := HC0.t2
 have t3 := HC0.t3
 have t4 := HC0.t4
 have hj := HC0.hj
 have hn := HC0.hn
 have hj0 : (0 : Int) ≤ (j : Int) := by omega
 have hj1 : (j : Int) < (n : Int) := by omega
 have HC1 := HC0.more ((Below.refl W1.heap.size W1).drew) HX.out.ps.lt HX.out.ps.bel
 have dc2 := HC1.c2
 have dc3 := HC1.c3
 have dt0 := HC1.t0
 have dt1 := HC1.t1
 have dt2 := HC1.t2
 have dt3 := HC1.t3
 have dt4 := HC1.t4
 have HC2 := HC0.more ((Below.alloc (Below.refl W1.heap.size W1) (Nat.le_refl _) (.cells #[.int .i64 0, .int .i64 0, .string ⟨#[]⟩, .string ⟨#[]⟩, .string ⟨#[]⟩] 65)).drew) HX.out.ps.lt HX.out.ps.bel
 have ac2 := HC2.c2
 have ac3 := HC2.c3
 have at0 := HC2.t0
 have at1 := HC2.t1
 have at2 := HC2.t2
 have at3 := HC2.t3
 have at4 := HC2.t4
 clear HC0 HC1 HC2
 go_wp2_with fail
 apply mergeG
 case h =>
  intro hG
  go_region_with (fail)
  all_goals exact hG
 clear c0 c1 c2 c3 t0 t1 t2 t3 t4 dc2 dc3 dt0 dt1 dt2 dt3 dt4 ac2 ac3 at0 at1 at2 at3 at4 hj hj0 hj1 hn
 have HT : Hid (TR (W1.alloc (.cells #[.int .i64 tk, .int .i64 tp, .string (BA tq), .string (BA tt), .string (BA td)] 65)).drew W1.heap.size (tkC ⟨tk, tp, tq, tt, td⟩)) := (TR.new W1 _).keep ((Below.refl _ _).drew)
 have HL1 : Hid (w.heap.size + 1 < W1.heap.size) := HX.out.e.lt
 replace HX : Hid (RX W0 w (W1.alloc (.cells #[.int .i64 tk, .int .i64 tp, .string (BA tq), .string (BA tt), .string (BA td)] 65)).drew g l lv cur (⟨tk, tp, tq, tt, td⟩ :: r) #[.int .i64 0, .string ⟨#[]⟩, .string ⟨#[]⟩, .string ⟨#[]⟩, .string ⟨#[]⟩, .string ⟨#[]⟩, .slice none 0 0] (.int .i64 0) (.int .i64 0)) := HX.out.keep ((Below.alloc (Below.refl _ _) (Nat.le_refl _) _).drew)
 generalize (W1.alloc (.cells #[.int .i64 tk, .int .i64 tp, .string (BA tq), .string (BA tt), .string (BA td)] 65)).drew = W2 at HX HT ⊢
 generalize W1.heap.size = gt at HT HL1 ⊢
 go_upto_region 3 with fail
 have HN : Hid (ObB (W2.alloc (.cells #[.int .i64 0, .string ⟨#[]⟩, .string ⟨#[]⟩, .string ⟨#[]⟩, .string ⟨#[]⟩, .string ⟨#[]⟩, .slice none 0 0] 47)) W2.heap.size #[.int .i64 0, .string ⟨#[]⟩, .string ⟨#[]⟩, .string ⟨#[]⟩, .string ⟨#[]⟩, .string ⟨#[]⟩, .slice none 0 0]) := heap_alloc_new _ _
 have hal := Below.alloc (Below.refl W2.heap.size W2) (Nat.le_refl _) (.cells #[.int .i64 0, .string ⟨#[]⟩, .string ⟨#[]⟩, .string ⟨#[]⟩, .string ⟨#[]⟩, .string ⟨#[]⟩, .slice none 0 0] 47)
 have HL2 : Hid (gt < W2.heap.size) := HT.out.lt
 replace HT := Lib.hid (HT.out.keep hal)
 replace HX := Lib.hid (HX.out.keep hal)
 clear hal
 generalize (W2.alloc (.cells #[.int .i64 0, .string ⟨#[]⟩, .string ⟨#[]⟩, .string ⟨#[]⟩, .string ⟨#[]⟩, .string ⟨#[]⟩, .slice none 0 0] 47)) = W3 at HX HT HN ⊢
 generalize W2.heap.size = gn at HN HL2 ⊢
 obtain ⟨q0, q1, q2, q3, q4⟩ := HT.out.all
 dsimp only at q0 q1 q2 q3 q4
 have hl1 := HL1.out
 have hl2 := HL2.out
 have n1 : ¬ w.heap.size = w.heap.size + 1 := by omega
 have n2 : ¬ w.heap.size + 1 = w.heap.size := by omega
 have n3 : ¬ gt = w.heap.size := by omega
 have n4 : ¬ w.heap.size = gt := by omega
 have n5' : ¬ gt = w.heap.size + 1 := by omega
 have n6' : ¬ w.heap.size + 1 = gt := by omega
 have n7' : ¬ gn = w.heap.size := by omega
 have n8 : ¬ w.heap.size = gn := by omega
 have n9 : ¬ gn = w.heap.size + 1 := by omega
 have n10 : ¬ w.heap.size + 1 = gn := by omega
 go_wp2_with fail
 have HX0 := Lib.hid (HX.out.keep ((Below.refl W3.heap.size W3).drew))
 have HN0 := Lib.hid (HN.out.keep ((Below.refl W3.heap.size W3).drew))
 have HT0 := Lib.hid (HT.out.keep ((Below.refl W3.heap.size W3).drew))
 obtain ⟨m0, m1, m2, m3, m4, m5, m6⟩ := HN0.out.c
 obtain ⟨p0, p1, p2, p3, p4⟩ := HT0.out.all
 dsimp only at p0 p1 p2 p3 p4
 go_region_with (go_at_call 31; refine (badR 12 tp _).mono ?_; rintro e w5 ⟨rfl, hb⟩; have HX5 := Lib.hid (HX0.out.keep hb); have HN5 := Lib.hid (HN0.out.keep hb); obtain ⟨b0, b1, b2, b3, b4, b5, b6⟩ := HN5.out.c; obtain ⟨d0, d1, d2, d3, d4, d5, d6⟩ := HX5.out.o.c; obtain ⟨f0, f1, f2, f3, f4, f5, f6⟩ := HX5.out.o.f; obtain ⟨ef0, ef1⟩ := HX5.out.e.frs; have ec0 := HX5.out.e.c0; have ec1 := HX5.out.e.c1; clear hb)
 all_goals
  go_wp2_with fail
  exact ((HX5.out.setO (.int .i64 0) (.string ⟨#[]⟩) (.string ⟨#[]⟩) (.string ⟨#[]⟩) (.string ⟨#[]⟩) (.string ⟨#[]⟩) (.slice none 0 0)).setE (.int .i64 12) (.int .i64 tp)).retBad rfl rfl rfl
theorem objDeepR (W0 w : World) (g : Nat) (l : List Sy.Pg) (lv : Value) (cur : ByteArray) (d : Int) (tk tp : Int) (tq tt td : List UInt8) (r : List Tk) (h : PsR W0 w g l lv cur (⟨tk, tp, tq, tt, td⟩ :: r)) (k0' : tk ≠ 0) (n5 : tk ≠ 5) (n6 : tk ≠ 6) (n7 : tk ≠ 7) (n2 : tk ≠ 2) (n3 : tk ≠ 3) (hd : 200 < d) : Calls Tryz.prog 37 #[.pointer (some ⟨g, 0, none⟩), .int .i64 d] w (OutER W0 w g l lv cur (.bad 2 tp)) := by
 have k0 : (tk == 0) = false := by rw [beq_eq_false_iff_ne]; omega
 have k2 : (tk == 2) = false := by rw [beq_eq_false_iff_ne]; omega
 have k3 : (tk == 3) = false := by rw [beq_eq_false_iff_ne]; omega
 have k5 : (tk == 5) = false := by rw [beq_eq_false_iff_ne]; omega
 have k7 : (tk == 7) = false := by rw [beq_eq_false_iff_ne]; omega
 have k6 : (tk == 6) = false := by rw [beq_eq_false_iff_ne]; omega
 have HX := Lib.hid (RX.new h)
 clear h k0' n5 n6 n7 n2 n3
 go_enter Tryz.func37, Tryz.ntmps37
 go_upto_region 1 with fail
 generalize ((w.alloc (.cells #[.int .i64 0, .string ⟨#[]⟩, .string ⟨#[]⟩, .string ⟨#[]⟩, .string ⟨#[]⟩, .string ⟨#[]⟩, .slice none 0 0] 47)).alloc (.cells #[.int .i64 0, .int .i64 0] 26)) = W1 at HX ⊢
 obtain ⟨b, o, n, c, j, HC0⟩ := HX.out.ps.open
 have c0 := HC0.c0
 have c1 := HC0.c1
 have c2 := HC0.c2
 have c3 := HC0.c3
 have t0 := HC0.t0
 have t1 := HC0.t1
 have t2 := HC0.t2
 have t3 := HC0.t3
 have t4 := HC0.t4
 have hj := HC0.hj
 have hn := HC0.hn
 have hj0 : (0 : Int) ≤ (j : Int) := by omega
 have hj1 : (j : Int) < (n : Int) := by omega
 have HC1 := HC0.more ((Below.refl W1.heap.size W1).drew) HX.out.ps.lt HX.out.ps.bel
 have dc2 := HC1.c2
 have dc3 := HC1.c3
 have dt0 := HC1.t0
 have dt1 := HC1.t1
 have dt2 := HC1.t2
 have dt3 := HC1.t3
 have dt4 := HC1.t4
 have HC2 := HC0.more ((Below.alloc (Below.refl W1.heap.size W1) (Nat.le_refl _) (.cells #[.int .i64 0, .int .i64 0, .string ⟨#[]⟩, .string ⟨#[]⟩, .string ⟨#[]⟩] 65)).drew) HX.out.ps.lt HX.out.ps.bel
 have ac2 := HC2.c2
 have ac3 := HC2.c3
 have at0 := HC2.t0
 have at1 := HC2.t1
 have at2 := HC2.t2
 have at3 := HC2.t3
 have at4 := HC2.t4
 clear HC0 HC1 HC2
 go_wp2_with fail
 apply mergeG
 case h =>
  intro hG
  go_region_with (fail)
  all_goals exact hG
 clear c0 c1 c2 c3 t0 t1 t2 t3 t4 dc2 dc3 dt0 dt1 dt2 dt3 dt4 ac2 ac3 at0 at1 at2 at3 at4 hj hj0 hj1 hn
 have HT : Hid (TR (W1.alloc (.cells #[.int .i64 tk, .int .i64 tp, .string (BA tq), .string (BA tt), .string (BA td)] 65)).drew W1.heap.size (tkC ⟨tk, tp, tq, tt, td⟩)) := (TR.new W1 _).keep ((Below.refl _ _).drew)
 have HL1 : Hid (w.heap.size + 1 < W1.heap.size) := HX.out.e.lt
 replace HX : Hid (RX W0 w (W1.alloc (.cells #[.int .i64 tk, .int .i64 tp, .string (BA tq), .string (BA tt), .string (BA td)] 65)).drew g l lv cur (⟨tk, tp, tq, tt, td⟩ :: r) #[.int .i64 0, .string ⟨#[]⟩, .string ⟨#[]⟩, .string ⟨#[]⟩, .string ⟨#[]⟩, .string ⟨#[]⟩, .slice none 0 0] (.int .i64 0) (.int .i64 0)) := HX.out.keep ((Below.alloc (Below.refl _ _) (Nat.le_refl _) _).drew)
 generalize (W1.alloc (.cells #[.int .i64 tk, .int .i64 tp, .string (BA tq), .string (BA tt), .string (BA td)] 65)).drew = W2 at HX HT ⊢
 generalize W1.heap.size = gt at HT HL1 ⊢
 go_upto_region 3 with fail
 have HN : Hid (ObB (W2.alloc (.cells #[.int .i64 0, .string ⟨#[]⟩, .string ⟨#[]⟩, .string ⟨#[]⟩, .string ⟨#[]⟩, .string ⟨#[]⟩, .slice none 0 0] 47)) W2.heap.size #[.int .i64 0, .string ⟨#[]⟩, .string ⟨#[]⟩, .string ⟨#[]⟩, .string ⟨#[]⟩, .string ⟨#[]⟩, .slice none 0 0]) := heap_alloc_new _ _
 have hal := Below.alloc (Below.refl W2.heap.size W2) (Nat.le_refl _) (.cells #[.int .i64 0, .string ⟨#[]⟩, .string ⟨#[]⟩, .string ⟨#[]⟩, .string ⟨#[]⟩, .string ⟨#[]⟩, .slice none 0 0] 47)
 have HL2 : Hid (gt < W2.heap.size) := HT.out.lt
 replace HT := Lib.hid (HT.out.keep hal)
 replace HX := Lib.hid (HX.out.keep hal)
 clear hal
 generalize (W2.alloc (.cells #[.int .i64 0, .string ⟨#[]⟩, .string ⟨#[]⟩, .string ⟨#[]⟩, .string ⟨#[]⟩, .string ⟨#[]⟩, .slice none 0 0] 47)) = W3 at HX HT HN ⊢
 generalize W2.heap.size = gn at HN HL2 ⊢
 obtain ⟨q0, q1, q2, q3, q4⟩ := HT.out.all
 dsimp only at q0 q1 q2 q3 q4
 have hl1 := HL1.out
 have hl2 := HL2.out
 have n1 : ¬ w.heap.size = w.heap.size + 1 := by omega
 have n2 : ¬ w.heap.size + 1 = w.heap.size := by omega
 have n3 : ¬ gt = w.heap.size := by omega
 have n4 : ¬ w.heap.size = gt := by omega
 have n5' : ¬ gt = w.heap.size + 1 := by omega
 have n6' : ¬ w.heap.size + 1 = gt := by omega
 have n7' : ¬ gn = w.heap.size := by omega
 have n8 : ¬ w.heap.size = gn := by omega
 have n9 : ¬ gn = w.heap.size + 1 := by omega
 have n10 : ¬ w.heap.size + 1 = gn := by omega
 go_wp2_with fail
 have HX0 := Lib.hid (HX.out.keep ((Below.refl W3.heap.size W3).drew))
 have HN0 := Lib.hid (HN.out.keep ((Below.refl W3.heap.size W3).drew))
 have HT0 := Lib.hid (HT.out.keep ((Below.refl W3.heap.size W3).drew))
 obtain ⟨m0, m1, m2, m3, m4, m5, m6⟩ := HN0.out.c
 obtain ⟨p0, p1, p2, p3, p4⟩ := HT0.out.all
 dsimp only at p0 p1 p2 p3 p4
 go_region_with (go_at_call 31; refine (badR 2 tp _).mono ?_; rintro e w5 ⟨rfl, hb⟩; have HX5 := Lib.hid (HX0.out.keep hb); have HN5 := Lib.hid (HN0.out.keep hb); obtain ⟨b0, b1, b2, b3, b4, b5, b6⟩ := HN5.out.c; obtain ⟨d0, d1, d2, d3, d4, d5, d6⟩ := HX5.out.o.c; obtain ⟨f0, f1, f2, f3, f4, f5, f6⟩ := HX5.out.o.f; obtain ⟨ef0, ef1⟩ := HX5.out.e.frs; have ec0 := HX5.out.e.c0; have ec1 := HX5.out.e.c1; clear hb)
 all_goals
  go_wp2_with fail
  exact ((HX5.out.setO (.int .i64 0) (.string ⟨#[]⟩) (.string ⟨#[]⟩) (.string ⟨#[]⟩) (.string ⟨#[]⟩) (.string ⟨#[]⟩) (.slice none 0 0)).setE (.int .i64 2) (.int .i64 tp)).retBad rfl rfl rfl
set_option maxHeartbeats 8000000
set_option maxRecDepth 100000

section
variable {W0 w W W' : World} {g : Nat} {l : List Sy.Pg} {lv : Value} {cur : ByteArray} {ts ts' : List Tk} {x : Array Value} {u v : Value}
theorem RX.tick {t : Tk} {r : List Tk} {b o n c j : Nat} (h : RX W0 w W g l lv cur (t :: r) x u v) (ho : PsO W0 W g l lv cur t r b o n c j) : RX W0 w (W.setCell ⟨g, 3, none⟩ (.int .i64 ((j : Int) + 1))) g l lv cur r x u v := by
 have hg := h.hg
 exact ⟨hg, h.but.trans (But.set W 3 _), (Below.heap_setCell _ ⟨g, 3, none⟩ _ _ (by show w.heap.size ≠ g; omega)).trans h.o, (Below.heap_setCell _ ⟨g, 3, none⟩ _ _ (by show w.heap.size + 1 ≠ g; omega)).trans h.e, ho.tl⟩
theorem ObB.ocell {W : World} {g b k : Nat} {x : Array Value} {y : Value} (h : ObB W g x) (hb : g ≠ b) : ObB (W.setCell ⟨b, k, none⟩ y) g x := (Below.heap_setCell W ⟨b, k, none⟩ y g hb).trans h
theorem RX.retOkV {fn : Func} {r0 r1 : Tmp} {tmps : Array Value} {o : Ob} {p : Value} {S : Nat → Prop} (h : RX W0 w W g l lv cur ts (cellsO o p).toArray (.int .i64 0) (.int .i64 0)) (hp : Pair W S o p) (hS : ∀ b, S b → w.heap.size ≤ b ∧ b < W.heap.size) (hf : fn.results = #[.cell r0 47, .cell r1 26]) (h0 : tmps.getD r0 undef = .pointer (some ⟨w.heap.size, 0, none⟩)) (h1 : tmps.getD r1 undef = .pointer (some ⟨w.heap.size + 1, 0, none⟩)) :
 bodyPost Tryz.prog fn (OutER W0 w g l lv cur (.ok o ts)) Exit.ret ⟨tmps, []⟩ W := by
 obtain ⟨x0, x1, x2, x3, x4, x5, hz⟩ := cells7 o p
 rw [hz] at h
 exact RX.retOk h hz hp hS hf h0 h1
theorem RX.fin2 {o : Ob} {p : Value} {S : Nat → Prop} (h : RX W0 w W g l lv cur ts x u v) (hp : Pair W S o p) (hS : ∀ b, S b → w.heap.size + 1 < b ∧ b < W.heap.size) {fn : Func} {r0 r1 : Tmp} {tmps : Array Value} (hf : fn.results = #[.cell r0 47, .cell r1 26]) (h0 : tmps.getD r0 undef = .pointer (some ⟨w.heap.size, 0, none⟩)) (h1 : tmps.getD r1 undef = .pointer (some ⟨w.heap.size + 1, 0, none⟩)) :
 bodyPost Tryz.prog fn (OutER W0 w g l lv cur (.ok o ts)) Exit.ret ⟨tmps, []⟩ ((W.setRow w.heap.size (cellsO o p).toArray).setRow (w.heap.size + 1) #[.int .i64 0, .int .i64 0]) := by
 refine ((h.setO2 _).setE2 _ _).retOkV (S := S) ((hp.setRow w.heap.size (fun hh => absurd (hS _ hh).1 (by omega)) _).setRow (w.heap.size + 1) (fun hh => absurd (hS _ hh).1 (by omega)) _) (fun b hb => ?_) hf h0 h1
 have := hS b hb
 rw [setRow_size, setRow_size]
 omega
end
theorem storeZ {ops : Array Oper} {rest : List Oper} {o : Oper} {a : Act} {w : World} {Q : Exit → Act → World → Prop} (hgd : o.guard = none) (x y : Operand) (ho : o.op = .store 47 x y)
 (g : Nat) (hx : a.eval x = .pointer (some ⟨g, 0, none⟩)) (hy : a.eval y = .agg #[.int .i64 0, .string ⟨#[]⟩, .string ⟨#[]⟩, .string ⟨#[]⟩, .string ⟨#[]⟩, .string ⟨#[]⟩, .slice none 0 0])
 (t : TypeId) (old : Array Value) (hg : w.heap[g]? = some (.cells old t (0, 0))) (hold : old.size = 7)
 (h : wpList Tryz.prog ops Q rest (a.put o.dst undef) (w.setRow g #[.int .i64 0, .string ⟨#[]⟩, .string ⟨#[]⟩, .string ⟨#[]⟩, .string ⟨#[]⟩, .string ⟨#[]⟩, .slice none 0 0])) : wpList Tryz.prog ops Q (o :: rest) a w :=
 storeO hgd x y ho g _ hx hy t old hg hold rfl (by simp; exact ⟨rfl, rfl, rfl⟩) h
theorem objNumR (W0 w : World) (g : Nat) (l : List Sy.Pg) (lv : Value) (cur : ByteArray) (d : Int) (tk tp : Int) (tq tt td : List UInt8) (r : List Tk) (h : PsR W0 w g l lv cur (⟨tk, tp, tq, tt, td⟩ :: r)) (hk : tk = 5) (hq1 : nt (quo tt td) = BA tt) (hq2 : dt (quo tt td) = BA td) : Calls Tryz.prog 37 #[.pointer (some ⟨g, 0, none⟩), .int .i64 d] w (OutER W0 w g l lv cur (.ok (.num (quo tt td)) r)) := by
 have k0 : (tk == 0) = false := by rw [beq_eq_false_iff_ne]; omega
 have k2 : (tk == 2) = false := by rw [beq_eq_false_iff_ne]; omega
 have k3 : (tk == 3) = false := by rw [beq_eq_false_iff_ne]; omega
 have k5 : (tk == 5) = true := by rw [beq_iff_eq]; omega
 have HQ1 := Lib.hid hq1
 have HQ2 := Lib.hid hq2
 have HX := Lib.hid (RX.new h)
 clear h hk hq1 hq2
 go_enter Tryz.func37, Tryz.ntmps37
 go_upto_region 1 with fail
 generalize ((w.alloc (.cells #[.int .i64 0, .string ⟨#[]⟩, .string ⟨#[]⟩, .string ⟨#[]⟩, .string ⟨#[]⟩, .string ⟨#[]⟩, .slice none 0 0] 47)).alloc (.cells #[.int .i64 0, .int .i64 0] 26)) = W1 at HX ⊢
 obtain ⟨b, o, n, c, j, HC0⟩ := HX.out.ps.open
 have c0 := HC0.c0
 have c1 := HC0.c1
 have c2 := HC0.c2
 have c3 := HC0.c3
 have t0 := HC0.t0
 have t1 := HC0.t1
 have t2 := HC0.t2
 have t3 := HC0.t3
 have t4 := HC0.t4
 have hj := HC0.hj
 have hn := HC0.hn
 have hj0 : (0 : Int) ≤ (j : Int) := by omega
 have hj1 : (j : Int) < (n : Int) := by omega
 have HC1 := HC0.more ((Below.refl W1.heap.size W1).drew) HX.out.ps.lt HX.out.ps.bel
 have dc2 := HC1.c2
 have dc3 := HC1.c3
 have dt0 := HC1.t0
 have dt1 := HC1.t1
 have dt2 := HC1.t2
 have dt3 := HC1.t3
 have dt4 := HC1.t4
 have HC2 := HC0.more ((Below.alloc (Below.refl W1.heap.size W1) (Nat.le_refl _) (.cells #[.int .i64 0, .int .i64 0, .string ⟨#[]⟩, .string ⟨#[]⟩, .string ⟨#[]⟩] 65)).drew) HX.out.ps.lt HX.out.ps.bel
 have ac2 := HC2.c2
 have ac3 := HC2.c3
 have at0 := HC2.t0
 have at1 := HC2.t1
 have at2 := HC2.t2
 have at3 := HC2.t3
 have at4 := HC2.t4
 clear HC0 HC1 HC2
 go_wp2_with fail
 apply mergeG
 case h =>
  intro hG
  go_region_with (fail)
  all_goals exact hG
 clear c0 c1 c2 c3 t0 t1 t2 t3 t4 dc2 dc3 dt0 dt1 dt2 dt3 dt4 ac2 ac3 at0 at1 at2 at3 at4 hj hj0 hj1 hn
 have HT : Hid (TR (W1.alloc (.cells #[.int .i64 tk, .int .i64 tp, .string (BA tq), .string (BA tt), .string (BA td)] 65)).drew W1.heap.size (tkC ⟨tk, tp, tq, tt, td⟩)) := (TR.new W1 _).keep ((Below.refl _ _).drew)
 have HL1 : Hid (w.heap.size + 1 < W1.heap.size) := HX.out.e.lt
 replace HX : Hid (RX W0 w (W1.alloc (.cells #[.int .i64 tk, .int .i64 tp, .string (BA tq), .string (BA tt), .string (BA td)] 65)).drew g l lv cur (⟨tk, tp, tq, tt, td⟩ :: r) #[.int .i64 0, .string ⟨#[]⟩, .string ⟨#[]⟩, .string ⟨#[]⟩, .string ⟨#[]⟩, .string ⟨#[]⟩, .slice none 0 0] (.int .i64 0) (.int .i64 0)) := HX.out.keep ((Below.alloc (Below.refl _ _) (Nat.le_refl _) _).drew)
 generalize (W1.alloc (.cells #[.int .i64 tk, .int .i64 tp, .string (BA tq), .string (BA tt), .string (BA td)] 65)).drew = W2 at HX HT ⊢
 generalize W1.heap.size = gt at HT HL1 ⊢
 go_upto_region 3 with fail
 have HN : Hid (ObB (W2.alloc (.cells #[.int .i64 0, .string ⟨#[]⟩, .string ⟨#[]⟩, .string ⟨#[]⟩, .string ⟨#[]⟩, .string ⟨#[]⟩, .slice none 0 0] 47)) W2.heap.size #[.int .i64 0, .string ⟨#[]⟩, .string ⟨#[]⟩, .string ⟨#[]⟩, .string ⟨#[]⟩, .string ⟨#[]⟩, .slice none 0 0]) := heap_alloc_new _ _
 have hal := Below.alloc (Below.refl W2.heap.size W2) (Nat.le_refl _) (.cells #[.int .i64 0, .string ⟨#[]⟩, .string ⟨#[]⟩, .string ⟨#[]⟩, .string ⟨#[]⟩, .string ⟨#[]⟩, .slice none 0 0] 47)
 have HL2 : Hid (gt < W2.heap.size) := HT.out.lt
 replace HT := Lib.hid (HT.out.keep hal)
 replace HX := Lib.hid (HX.out.keep hal)
 clear hal
 generalize (W2.alloc (.cells #[.int .i64 0, .string ⟨#[]⟩, .string ⟨#[]⟩, .string ⟨#[]⟩, .string ⟨#[]⟩, .string ⟨#[]⟩, .slice none 0 0] 47)) = W3 at HX HT HN ⊢
 generalize W2.heap.size = gn at HN HL2 ⊢
 obtain ⟨q0, q1, q2, q3, q4⟩ := HT.out.all
 dsimp only at q0 q1 q2 q3 q4
 obtain ⟨b', o', n', c', j', HO0⟩ := HX.out.ps.open
 have HO := Lib.hid HO0
 have pc3 := HO0.c3
 have pcf := HO0.cf
 have hjb := HO0.hj
 have hnb := HO0.hn
 have hw0 : IntKind.i64.wrap ((j' : Int) + 1) = (j' : Int) + 1 := IntWalk.i64_in _ (by omega)
 clear HO0
 go_upto_region 11 with fail
 have HGG := HX.out.hg
 replace HX := Lib.hid (HX.out.tick HO.out)
 have hl1' := HL1.out
 have hl2' := HL2.out
 replace HT := Lib.hid (HT.out.ocell (k := 3) (b := g) (by omega) (.int .i64 ((j' : Int) + 1)))
 replace HN := Lib.hid (HN.out.ocell (k := 3) (b := g) (y := .int .i64 ((j' : Int) + 1)) (by omega))
 clear q0 q1 q2 q3 q4 pc3 pcf hjb hnb hw0 HO hl1' hl2' HGG
 generalize W3.setCell ⟨g, 3, none⟩ (.int .i64 ((j' : Int) + 1)) = W4 at HX HT HN ⊢
 obtain ⟨q0, q1, q2, q3, q4⟩ := HT.out.all
 dsimp only at q0 q1 q2 q3 q4
 have ev := Lib.hid (show Value.agg #[.int .i64 1, .string (BA tt), .string (BA td), .string ⟨#[]⟩, .string ⟨#[]⟩, .string ⟨#[]⟩, .slice none 0 0] = vO (.num (quo tt td)) (.slice none 0 0) from by rw [← HQ1.out, ← HQ2.out]; rfl)
 have hp : Pair W4 (fun _ => False) (.num (quo tt td)) (.slice none 0 0) := (rfl : (Value.slice none 0 0) = _)
 have HP := Lib.hid hp
 clear hp
 go_wp2_with (first | (refine storeV rfl (.tmp 4) (.tmp 51) rfl w.heap.size (.num (quo tt td)) (.slice none 0 0) rfl ev.out HP.out 47 _ HX.out.o rfl ?_) | (refine EB.store (.tmp 5) (.tmp 52) rfl rfl (w.heap.size + 1) 0 0 _ _ rfl rfl (HX.out.setO2 _).e ?_))
 exact HX.out.fin2 HP.out (fun b hb => hb.elim) rfl rfl rfl
theorem objStrR (W0 w : World) (g : Nat) (l : List Sy.Pg) (lv : Value) (cur : ByteArray) (d : Int) (tk tp : Int) (tq tt td : List UInt8) (r : List Tk) (h : PsR W0 w g l lv cur (⟨tk, tp, tq, tt, td⟩ :: r)) (hk : tk = 7) : Calls Tryz.prog 37 #[.pointer (some ⟨g, 0, none⟩), .int .i64 d] w (OutER W0 w g l lv cur (.ok (.str tt) r)) := by
 have k0 : (tk == 0) = false := by rw [beq_eq_false_iff_ne]; omega
 have k2 : (tk == 2) = false := by rw [beq_eq_false_iff_ne]; omega
 have k3 : (tk == 3) = false := by rw [beq_eq_false_iff_ne]; omega
 have k5 : (tk == 5) = false := by rw [beq_eq_false_iff_ne]; omega
 have k7 : (tk == 7) = true := by rw [beq_iff_eq]; omega
 have HX := Lib.hid (RX.new h)
 clear h hk
 go_enter Tryz.func37, Tryz.ntmps37
 go_upto_region 1 with fail
 generalize ((w.alloc (.cells #[.int .i64 0, .string ⟨#[]⟩, .string ⟨#[]⟩, .string ⟨#[]⟩, .string ⟨#[]⟩, .string ⟨#[]⟩, .slice none 0 0] 47)).alloc (.cells #[.int .i64 0, .int .i64 0] 26)) = W1 at HX ⊢
 obtain ⟨b, o, n, c, j, HC0⟩ := HX.out.ps.open
 have c0 := HC0.c0
 have c1 := HC0.c1
 have c2 := HC0.c2
 have c3 := HC0.c3
 have t0 := HC0.t0
 have t1 := HC0.t1
 have t2 := HC0.t2
 have t3 := HC0.t3
 have t4 := HC0.t4
 have hj := HC0.hj
 have hn := HC0.hn
 have hj0 : (0 : Int) ≤ (j : Int) := by omega
 have hj1 : (j : Int) < (n : Int) := by omega
 have HC1 := HC0.more ((Below.refl W1.heap.size W1).drew) HX.out.ps.lt HX.out.ps.bel
 have dc2 := HC1.c2
 have dc3 := HC1.c3
 have dt0 := HC1.t0
 have dt1 := HC1.t1
 have dt2 := HC1.t2
 have dt3 := HC1.t3
 have dt4 := HC1.t4
 have HC2 := HC0.more ((Below.alloc (Below.refl W1.heap.size W1) (Nat.le_refl _) (.cells #[.int .i64 0, .int .i64 0, .string ⟨#[]⟩, .string ⟨#[]⟩, .string ⟨#[]⟩] 65)).drew) HX.out.ps.lt HX.out.ps.bel
 have ac2 := HC2.c2
 have ac3 := HC2.c3
 have at0 := HC2.t0
 have at1 := HC2.t1
 have at2 := HC2.t2
 have at3 := HC2.t3
 have at4 := HC2.t4
 clear HC0 HC1 HC2
 go_wp2_with fail
 apply mergeG
 case h =>
  intro hG
  go_region_with (fail)
  all_goals exact hG
 clear c0 c1 c2 c3 t0 t1 t2 t3 t4 dc2 dc3 dt0 dt1 dt2 dt3 dt4 ac2 ac3 at0 at1 at2 at3 at4 hj hj0 hj1 hn
 have HT : Hid (TR (W1.alloc (.cells #[.int .i64 tk, .int .i64 tp, .string (BA tq), .string (BA tt), .string (BA td)] 65)).drew W1.heap.size (tkC ⟨tk, tp, tq, tt, td⟩)) := (TR.new W1 _).keep ((Below.refl _ _).drew)
 have HL1 : Hid (w.heap.size + 1 < W1.heap.size) := HX.out.e.lt
 replace HX : Hid (RX W0 w (W1.alloc (.cells #[.int .i64 tk, .int .i64 tp, .string (BA tq), .string (BA tt), .string (BA td)] 65)).drew g l lv cur (⟨tk, tp, tq, tt, td⟩ :: r) #[.int .i64 0, .string ⟨#[]⟩, .string ⟨#[]⟩, .string ⟨#[]⟩, .string ⟨#[]⟩, .string ⟨#[]⟩, .slice none 0 0] (.int .i64 0) (.int .i64 0)) := HX.out.keep ((Below.alloc (Below.refl _ _) (Nat.le_refl _) _).drew)
 generalize (W1.alloc (.cells #[.int .i64 tk, .int .i64 tp, .string (BA tq), .string (BA tt), .string (BA td)] 65)).drew = W2 at HX HT ⊢
 generalize W1.heap.size = gt at HT HL1 ⊢
 go_upto_region 3 with fail
 have HN : Hid (ObB (W2.alloc (.cells #[.int .i64 0, .string ⟨#[]⟩, .string ⟨#[]⟩, .string ⟨#[]⟩, .string ⟨#[]⟩, .string ⟨#[]⟩, .slice none 0 0] 47)) W2.heap.size #[.int .i64 0, .string ⟨#[]⟩, .string ⟨#[]⟩, .string ⟨#[]⟩, .string ⟨#[]⟩, .string ⟨#[]⟩, .slice none 0 0]) := heap_alloc_new _ _
 have hal := Below.alloc (Below.refl W2.heap.size W2) (Nat.le_refl _) (.cells #[.int .i64 0, .string ⟨#[]⟩, .string ⟨#[]⟩, .string ⟨#[]⟩, .string ⟨#[]⟩, .string ⟨#[]⟩, .slice none 0 0] 47)
 have HL2 : Hid (gt < W2.heap.size) := HT.out.lt
 replace HT := Lib.hid (HT.out.keep hal)
 replace HX := Lib.hid (HX.out.keep hal)
 clear hal
 generalize (W2.alloc (.cells #[.int .i64 0, .string ⟨#[]⟩, .string ⟨#[]⟩, .string ⟨#[]⟩, .string ⟨#[]⟩, .string ⟨#[]⟩, .slice none 0 0] 47)) = W3 at HX HT HN ⊢
 generalize W2.heap.size = gn at HN HL2 ⊢
 obtain ⟨q0, q1, q2, q3, q4⟩ := HT.out.all
 dsimp only at q0 q1 q2 q3 q4
 obtain ⟨b', o', n', c', j', HO0⟩ := HX.out.ps.open
 have HO := Lib.hid HO0
 have pc3 := HO0.c3
 have pcf := HO0.cf
 have hjb := HO0.hj
 have hnb := HO0.hn
 have hw0 : IntKind.i64.wrap ((j' : Int) + 1) = (j' : Int) + 1 := IntWalk.i64_in _ (by omega)
 clear HO0
 go_upto_region 14 with fail
 have HGG := HX.out.hg
 replace HX := Lib.hid (HX.out.tick HO.out)
 have hl1' := HL1.out
 have hl2' := HL2.out
 replace HT := Lib.hid (HT.out.ocell (k := 3) (b := g) (by omega) (.int .i64 ((j' : Int) + 1)))
 replace HN := Lib.hid (HN.out.ocell (k := 3) (b := g) (y := .int .i64 ((j' : Int) + 1)) (by omega))
 clear q0 q1 q2 q3 q4 pc3 pcf hjb hnb hw0 HO hl1' hl2' HGG
 generalize W3.setCell ⟨g, 3, none⟩ (.int .i64 ((j' : Int) + 1)) = W4 at HX HT HN ⊢
 obtain ⟨q0, q1, q2, q3, q4⟩ := HT.out.all
 dsimp only at q0 q1 q2 q3 q4
 go_wp2_with fail
 refine (textO (BA tt) _ (fun _ => False)).mono ?_
 intro e w5 ho
 obtain ⟨p, rfl, hp, hb⟩ := RetO.new ho
 have HS : Hid (∀ b, W4.heap.size ≤ b ∧ b < w5.heap.size → w.heap.size + 1 < b ∧ b < w5.heap.size) := fun b hb => ⟨by have := HX.out.e.lt; omega, hb.2⟩
 replace HX := Lib.hid (HX.out.keep hb)
 have HP : Hid (Pair w5 (fun b => W4.heap.size ≤ b ∧ b < w5.heap.size) (.str tt) p) := hp
 clear hb ho hp q0 q1 q2 q3 q4
 go_wp2_with (first | (refine storeV rfl (.tmp 4) (.tmp 64) rfl w.heap.size (.str tt) p rfl rfl HP.out 47 _ HX.out.o rfl ?_) | (refine EB.store (.tmp 5) (.tmp 65) rfl rfl (w.heap.size + 1) 0 0 _ _ rfl rfl (HX.out.setO2 _).e ?_))
 exact HX.out.fin2 HP.out HS.out rfl rfl rfl
theorem objListR (W0 w : World) (g : Nat) (l : List Sy.Pg) (lv : Value) (cur : ByteArray) (d : Int) (tk tp : Int) (tq tt td : List UInt8) (r : List Tk) (h : PsR W0 w g l lv cur (⟨tk, tp, tq, tt, td⟩ :: r)) (k0' : tk ≠ 0) (n5 : tk ≠ 5) (n6 : tk ≠ 6) (n7 : tk ≠ 7) (n2 : tk ≠ 2) (n3 : tk ≠ 3) (n4 : tk ≠ 4) (hd : ¬ 200 < d) (hd0 : 0 ≤ d) (ob : Ob) (r' : List Tk) (hL : ∀ w, PsR W0 w g l lv cur r → Calls Tryz.prog 66 #[.pointer (some ⟨g, 0, none⟩), .int .i64 (d + 1)] w (OutER W0 w g l lv cur (.ok ob r'))) : Calls Tryz.prog 37 #[.pointer (some ⟨g, 0, none⟩), .int .i64 d] w (OutER W0 w g l lv cur (.ok ob r')) := by
 have k0 : (tk == 0) = false := by rw [beq_eq_false_iff_ne]; omega
 have k2 : (tk == 2) = false := by rw [beq_eq_false_iff_ne]; omega
 have k3 : (tk == 3) = false := by rw [beq_eq_false_iff_ne]; omega
 have k5 : (tk == 5) = false := by rw [beq_eq_false_iff_ne]; omega
 have k7 : (tk == 7) = false := by rw [beq_eq_false_iff_ne]; omega
 have k6 : (tk == 6) = false := by rw [beq_eq_false_iff_ne]; omega
 have k4 : (tk == 4) = false := by rw [beq_eq_false_iff_ne]; omega
 have KL := Lib.hid hL
 have hw1 : IntKind.i64.wrap (d + 1) = d + 1 := IntWalk.i64_in _ (by omega)
 have HX := Lib.hid (RX.new h)
 clear h k0' n5 n6 n7 n2 n3 n4 hL
 go_enter Tryz.func37, Tryz.ntmps37
 go_upto_region 1 with fail
 generalize ((w.alloc (.cells #[.int .i64 0, .string ⟨#[]⟩, .string ⟨#[]⟩, .string ⟨#[]⟩, .string ⟨#[]⟩, .string ⟨#[]⟩, .slice none 0 0] 47)).alloc (.cells #[.int .i64 0, .int .i64 0] 26)) = W1 at HX ⊢
 obtain ⟨b, o, n, c, j, HC0⟩ := HX.out.ps.open
 have c0 := HC0.c0
 have c1 := HC0.c1
 have c2 := HC0.c2
 have c3 := HC0.c3
 have t0 := HC0.t0
 have t1 := HC0.t1
 have t2 := HC0.t2
 have t3 := HC0.t3
 have t4 := HC0.t4
 have hj := HC0.hj
 have hn := HC0.hn
 have hj0 : (0 : Int) ≤ (j : Int) := by omega
 have hj1 : (j : Int) < (n : Int) := by omega
 have HC1 := HC0.more ((Below.refl W1.heap.size W1).drew) HX.out.ps.lt HX.out.ps.bel
 have dc2 := HC1.c2
 have dc3 := HC1.c3
 have dt0 := HC1.t0
 have dt1 := HC1.t1
 have dt2 := HC1.t2
 have dt3 := HC1.t3
 have dt4 := HC1.t4
 have HC2 := HC0.more ((Below.alloc (Below.refl W1.heap.size W1) (Nat.le_refl _) (.cells #[.int .i64 0, .int .i64 0, .string ⟨#[]⟩, .string ⟨#[]⟩, .string ⟨#[]⟩] 65)).drew) HX.out.ps.lt HX.out.ps.bel
 have ac2 := HC2.c2
 have ac3 := HC2.c3
 have at0 := HC2.t0
 have at1 := HC2.t1
 have at2 := HC2.t2
 have at3 := HC2.t3
 have at4 := HC2.t4
 clear HC0 HC1 HC2
 go_wp2_with fail
 apply mergeG
 case h =>
  intro hG
  go_region_with (fail)
  all_goals exact hG
 clear c0 c1 c2 c3 t0 t1 t2 t3 t4 dc2 dc3 dt0 dt1 dt2 dt3 dt4 ac2 ac3 at0 at1 at2 at3 at4 hj hj0 hj1 hn
 have HT : Hid (TR (W1.alloc (.cells #[.int .i64 tk, .int .i64 tp, .string (BA tq), .string (BA tt), .string (BA td)] 65)).drew W1.heap.size (tkC ⟨tk, tp, tq, tt, td⟩)) := (TR.new W1 _).keep ((Below.refl _ _).drew)
 have HL1 : Hid (w.heap.size + 1 < W1.heap.size) := HX.out.e.lt
 replace HX : Hid (RX W0 w (W1.alloc (.cells #[.int .i64 tk, .int .i64 tp, .string (BA tq), .string (BA tt), .string (BA td)] 65)).drew g l lv cur (⟨tk, tp, tq, tt, td⟩ :: r) #[.int .i64 0, .string ⟨#[]⟩, .string ⟨#[]⟩, .string ⟨#[]⟩, .string ⟨#[]⟩, .string ⟨#[]⟩, .slice none 0 0] (.int .i64 0) (.int .i64 0)) := HX.out.keep ((Below.alloc (Below.refl _ _) (Nat.le_refl _) _).drew)
 generalize (W1.alloc (.cells #[.int .i64 tk, .int .i64 tp, .string (BA tq), .string (BA tt), .string (BA td)] 65)).drew = W2 at HX HT ⊢
 generalize W1.heap.size = gt at HT HL1 ⊢
 go_upto_region 3 with fail
 have HN : Hid (ObB (W2.alloc (.cells #[.int .i64 0, .string ⟨#[]⟩, .string ⟨#[]⟩, .string ⟨#[]⟩, .string ⟨#[]⟩, .string ⟨#[]⟩, .slice none 0 0] 47)) W2.heap.size #[.int .i64 0, .string ⟨#[]⟩, .string ⟨#[]⟩, .string ⟨#[]⟩, .string ⟨#[]⟩, .string ⟨#[]⟩, .slice none 0 0]) := heap_alloc_new _ _
 have hal := Below.alloc (Below.refl W2.heap.size W2) (Nat.le_refl _) (.cells #[.int .i64 0, .string ⟨#[]⟩, .string ⟨#[]⟩, .string ⟨#[]⟩, .string ⟨#[]⟩, .string ⟨#[]⟩, .slice none 0 0] 47)
 have HL2 : Hid (gt < W2.heap.size) := HT.out.lt
 replace HT := Lib.hid (HT.out.keep hal)
 replace HX := Lib.hid (HX.out.keep hal)
 clear hal
 generalize (W2.alloc (.cells #[.int .i64 0, .string ⟨#[]⟩, .string ⟨#[]⟩, .string ⟨#[]⟩, .string ⟨#[]⟩, .string ⟨#[]⟩, .slice none 0 0] 47)) = W3 at HX HT HN ⊢
 generalize W2.heap.size = gn at HN HL2 ⊢
 obtain ⟨q0, q1, q2, q3, q4⟩ := HT.out.all
 dsimp only at q0 q1 q2 q3 q4
 obtain ⟨b', o', n', c', j', HO0⟩ := HX.out.ps.open
 have HO := Lib.hid HO0
 have pc3 := HO0.c3
 have pcf := HO0.cf
 have hjb := HO0.hj
 have hnb := HO0.hn
 have hw0 : IntKind.i64.wrap ((j' : Int) + 1) = (j' : Int) + 1 := IntWalk.i64_in _ (by omega)
 clear HO0
 go_upto_region 27 with fail
 have HGG := HX.out.hg
 replace HX := Lib.hid (HX.out.tick HO.out)
 have hl1' := HL1.out
 have hl2' := HL2.out
 replace HT := Lib.hid (HT.out.ocell (k := 3) (b := g) (by omega) (.int .i64 ((j' : Int) + 1)))
 replace HN := Lib.hid (HN.out.ocell (k := 3) (b := g) (y := .int .i64 ((j' : Int) + 1)) (by omega))
 clear q0 q1 q2 q3 q4 pc3 pcf hjb hnb hw0 HO hl1' hl2' HGG
 generalize W3.setCell ⟨g, 3, none⟩ (.int .i64 ((j' : Int) + 1)) = W4 at HX HT HN ⊢
 obtain ⟨q0, q1, q2, q3, q4⟩ := HT.out.all
 dsimp only at q0 q1 q2 q3 q4
 go_wp2_with fail
 refine (KL.out _ HX.out.ps).mono ?_
 rintro e w5 ⟨p, rfl, hp, hps, hb⟩
 have HS : Hid (∀ b, W4.heap.size ≤ b ∧ b < w5.heap.size → w.heap.size + 1 < b ∧ b < w5.heap.size) := fun b hb => ⟨by have := HX.out.e.lt; omega, hb.2⟩
 replace HX := Lib.hid (HX.out.next hb hps)
 have HP := Lib.hid hp
 clear hb hps hp q0 q1 q2 q3 q4
 go_wp2_with (first | (refine storeV rfl (.tmp 4) (.tmp 142) rfl w.heap.size ob p rfl rfl HP.out 47 _ HX.out.o rfl ?_) | (refine EB.store (.tmp 5) (.tmp 143) rfl rfl (w.heap.size + 1) 0 0 _ _ rfl rfl (HX.out.setO2 _).e ?_))
 exact HX.out.fin2 HP.out HS.out rfl rfl rfl
theorem objListBadR (W0 w : World) (g : Nat) (l : List Sy.Pg) (lv : Value) (cur : ByteArray) (d : Int) (tk tp : Int) (tq tt td : List UInt8) (r : List Tk) (h : PsR W0 w g l lv cur (⟨tk, tp, tq, tt, td⟩ :: r)) (k0' : tk ≠ 0) (n5 : tk ≠ 5) (n6 : tk ≠ 6) (n7 : tk ≠ 7) (n2 : tk ≠ 2) (n3 : tk ≠ 3) (n4 : tk ≠ 4) (hd : ¬ 200 < d) (hd0 : 0 ≤ d) (x q : Int) (hL : ∀ w, PsR W0 w g l lv cur r → Calls Tryz.prog 66 #[.pointer (some ⟨g, 0, none⟩), .int .i64 (d + 1)] w (OutER W0 w g l lv cur (.bad x q))) : Calls Tryz.prog 37 #[.pointer (some ⟨g, 0, none⟩), .int .i64 d] w (OutER W0 w g l lv cur (.bad x q)) := by
 have k0 : (tk == 0) = false := by rw [beq_eq_false_iff_ne]; omega
 have k2 : (tk == 2) = false := by rw [beq_eq_false_iff_ne]; omega
 have k3 : (tk == 3) = false := by rw [beq_eq_false_iff_ne]; omega
 have k5 : (tk == 5) = false := by rw [beq_eq_false_iff_ne]; omega
 have k7 : (tk == 7) = false := by rw [beq_eq_false_iff_ne]; omega
 have k6 : (tk == 6) = false := by rw [beq_eq_false_iff_ne]; omega
 have k4 : (tk == 4) = false := by rw [beq_eq_false_iff_ne]; omega
 have KL := Lib.hid hL
 have hw1 : IntKind.i64.wrap (d + 1) = d + 1 := IntWalk.i64_in _ (by omega)
 have HX := Lib.hid (RX.new h)
 clear h k0' n5 n6 n7 n2 n3 n4 hL
 go_enter Tryz.func37, Tryz.ntmps37
 go_upto_region 1 with fail
 generalize ((w.alloc (.cells #[.int .i64 0, .string ⟨#[]⟩, .string ⟨#[]⟩, .string ⟨#[]⟩, .string ⟨#[]⟩, .string ⟨#[]⟩, .slice none 0 0] 47)).alloc (.cells #[.int .i64 0, .int .i64 0] 26)) = W1 at HX ⊢
 obtain ⟨b, o, n, c, j, HC0⟩ := HX.out.ps.open
 have c0 := HC0.c0
 have c1 := HC0.c1
 have c2 := HC0.c2
 have c3 := HC0.c3
 have t0 := HC0.t0
 have t1 := HC0.t1
 have t2 := HC0.t2
 have t3 := HC0.t3
 have t4 := HC0.t4
 have hj := HC0.hj
 have hn := HC0.hn
 have hj0 : (0 : Int) ≤ (j : Int) := by omega
 have hj1 : (j : Int) < (n : Int) := by omega
 have HC1 := HC0.more ((Below.refl W1.heap.size W1).drew) HX.out.ps.lt HX.out.ps.bel
 have dc2 := HC1.c2
 have dc3 := HC1.c3
 have dt0 := HC1.t0
 have dt1 := HC1.t1
 have dt2 := HC1.t2
 have dt3 := HC1.t3
 have dt4 := HC1.t4
 have HC2 := HC0.more ((Below.alloc (Below.refl W1.heap.size W1) (Nat.le_refl _) (.cells #[.int .i64 0, .int .i64 0, .string ⟨#[]⟩, .string ⟨#[]⟩, .string ⟨#[]⟩] 65)).drew) HX.out.ps.lt HX.out.ps.bel
 have ac2 := HC2.c2
 have ac3 := HC2.c3
 have at0 := HC2.t0
 have at1 := HC2.t1
 have at2 := HC2.t2
 have at3 := HC2.t3
 have at4 := HC2.t4
 clear HC0 HC1 HC2
 go_wp2_with fail
 apply mergeG
 case h =>
  intro hG
  go_region_with (fail)
  all_goals exact hG
 clear c0 c1 c2 c3 t0 t1 t2 t3 t4 dc2 dc3 dt0 dt1 dt2 dt3 dt4 ac2 ac3 at0 at1 at2 at3 at4 hj hj0 hj1 hn
 have HT : Hid (TR (W1.alloc (.cells #[.int .i64 tk, .int .i64 tp, .string (BA tq), .string (BA tt), .string (BA td)] 65)).drew W1.heap.size (tkC ⟨tk, tp, tq, tt, td⟩)) := (TR.new W1 _).keep ((Below.refl _ _).drew)
 have HL1 : Hid (w.heap.size + 1 < W1.heap.size) := HX.out.e.lt
 replace HX : Hid (RX W0 w (W1.alloc (.cells #[.int .i64 tk, .int .i64 tp, .string (BA tq), .string (BA tt), .string (BA td)] 65)).drew g l lv cur (⟨tk, tp, tq, tt, td⟩ :: r) #[.int .i64 0, .string ⟨#[]⟩, .string ⟨#[]⟩, .string ⟨#[]⟩, .string ⟨#[]⟩, .string ⟨#[]⟩, .slice none 0 0] (.int .i64 0) (.int .i64 0)) := HX.out.keep ((Below.alloc (Below.refl _ _) (Nat.le_refl _) _).drew)
 generalize (W1.alloc (.cells #[.int .i64 tk, .int .i64 tp, .string (BA tq), .string (BA tt), .string (BA td)] 65)).drew = W2 at HX HT ⊢
 generalize W1.heap.size = gt at HT HL1 ⊢
 go_upto_region 3 with fail
 have HN : Hid (ObB (W2.alloc (.cells #[.int .i64 0, .string ⟨#[]⟩, .string ⟨#[]⟩, .string ⟨#[]⟩, .string ⟨#[]⟩, .string ⟨#[]⟩, .slice none 0 0] 47)) W2.heap.size #[.int .i64 0, .string ⟨#[]⟩, .string ⟨#[]⟩, .string ⟨#[]⟩, .string ⟨#[]⟩, .string ⟨#[]⟩, .slice none 0 0]) := heap_alloc_new _ _
 have hal := Below.alloc (Below.refl W2.heap.size W2) (Nat.le_refl _) (.cells #[.int .i64 0, .string ⟨#[]⟩, .string ⟨#[]⟩, .string ⟨#[]⟩, .string ⟨#[]⟩, .string ⟨#[]⟩, .slice none 0 0] 47)
 have HL2 : Hid (gt < W2.heap.size) := HT.out.lt
 replace HT := Lib.hid (HT.out.keep hal)
 replace HX := Lib.hid (HX.out.keep hal)
 clear hal
 generalize (W2.alloc (.cells #[.int .i64 0, .string ⟨#[]⟩, .string ⟨#[]⟩, .string ⟨#[]⟩, .string ⟨#[]⟩, .string ⟨#[]⟩, .slice none 0 0] 47)) = W3 at HX HT HN ⊢
 generalize W2.heap.size = gn at HN HL2 ⊢
 obtain ⟨q0, q1, q2, q3, q4⟩ := HT.out.all
 dsimp only at q0 q1 q2 q3 q4
 obtain ⟨b', o', n', c', j', HO0⟩ := HX.out.ps.open
 have HO := Lib.hid HO0
 have pc3 := HO0.c3
 have pcf := HO0.cf
 have hjb := HO0.hj
 have hnb := HO0.hn
 have hw0 : IntKind.i64.wrap ((j' : Int) + 1) = (j' : Int) + 1 := IntWalk.i64_in _ (by omega)
 clear HO0
 go_upto_region 27 with fail
 have HGG := HX.out.hg
 replace HX := Lib.hid (HX.out.tick HO.out)
 have hl1' := HL1.out
 have hl2' := HL2.out
 replace HT := Lib.hid (HT.out.ocell (k := 3) (b := g) (by omega) (.int .i64 ((j' : Int) + 1)))
 replace HN := Lib.hid (HN.out.ocell (k := 3) (b := g) (y := .int .i64 ((j' : Int) + 1)) (by omega))
 clear q0 q1 q2 q3 q4 pc3 pcf hjb hnb hw0 HO hl1' hl2' HGG
 generalize W3.setCell ⟨g, 3, none⟩ (.int .i64 ((j' : Int) + 1)) = W4 at HX HT HN ⊢
 obtain ⟨q0, q1, q2, q3, q4⟩ := HT.out.all
 dsimp only at q0 q1 q2 q3 q4
 go_wp2_with fail
 refine (KL.out _ HX.out.ps).mono ?_
 rintro e w5 ⟨rfl, hb⟩
 have hO := HX.out.o.but hb (by have := HX.out.hg; omega)
 have hE := HX.out.e.but hb (by have := HX.out.hg; omega)
 have HO5 : Hid (ObB w5 w.heap.size #[.int .i64 0, .string ⟨#[]⟩, .string ⟨#[]⟩, .string ⟨#[]⟩, .string ⟨#[]⟩, .string ⟨#[]⟩, .slice none 0 0] ∧ EB w5 (w.heap.size + 1) (.int .i64 0) (.int .i64 0) ∧ But g w w5) := ⟨hO, hE, HX.out.but.trans hb⟩
 have HE5 : Hid (EB (w5.setRow w.heap.size #[.int .i64 0, .string ⟨#[]⟩, .string ⟨#[]⟩, .string ⟨#[]⟩, .string ⟨#[]⟩, .string ⟨#[]⟩, .slice none 0 0]) (w.heap.size + 1) (.int .i64 0) (.int .i64 0)) := hE.row (by omega) _
 clear hO hE hb q0 q1 q2 q3 q4
 go_wp2_with (first | (refine storeZ rfl (.tmp 4) (.tmp 142) rfl w.heap.size rfl rfl 47 _ HO5.out.1 rfl ?_) | (refine EB.store (.tmp 5) (.tmp 143) rfl rfl (w.heap.size + 1) x q _ _ rfl rfl HE5.out ?_))
 exact bodyPost_ret (resCC rfl rfl rfl ((setRow_other _ _ _ _ (by omega)).trans (setRow_heap _ _ _ _ _ _ HO5.out.1)) (HE5.out.set _ _)) rfl ⟨rfl, (HO5.out.2.2.row (Nat.le_refl _) _).row (by omega) _⟩
theorem PsR.pg {W0 W W' : World} {g : Nat} {l : List Sy.Pg} {lv : Value} {cur : ByteArray} {ts : List Tk} (h : PsR W0 W g l lv cur ts) (hb : Below W.heap.size W W') : Sy.PgV W' l lv := by
 obtain ⟨tv, T, j, h1, h2, h3, h4, _⟩ := h
 exact (h4.keep h3).keep hb
theorem SB.two {W : World} {g : Nat} {x y : Value} (h : Sy.SB W g x y) (u v : Value) : Sy.SB ((W.setCell ⟨g, 0, none⟩ u).setCell ⟨g, 1, none⟩ v) g u v := by
 unfold Sy.SB at h ⊢
 simp [World.setCell, Array.getElem?_modify, h]
structure PsC0 (w : World) (g : Nat) (lv : Value) (cur : ByteArray) (b o n c j : Nat) : Prop where
 c0 : w.cell? ⟨g, 0, none⟩ = some lv
 c1 : w.cell? ⟨g, 1, none⟩ = some (.string cur)
theorem PsR.open0 {W0 W : World} {g : Nat} {l : List Sy.Pg} {lv : Value} {cur : ByteArray} {ts : List Tk} (h : PsR W0 W g l lv cur ts) : ∃ b o n c j, PsC0 W g lv cur b o n c j := by
 obtain ⟨tv, T, j, h1, _⟩ := h
 exact ⟨0, 0, 0, 0, 0, by rw [cell_of_row _ _ _ _ _ _ h1]; rfl, by rw [cell_of_row _ _ _ _ _ _ h1]; rfl⟩
set_option maxHeartbeats 8000000 in
set_option maxRecDepth 100000 in
theorem objSymER (W0 w : World) (g : Nat) (l : List Sy.Pg) (lv : Value) (cur : ByteArray) (d : Int) (tk tp : Int) (tq tt td : List UInt8) (r : List Tk) (h : PsR W0 w g l lv cur (⟨tk, tp, tq, tt, td⟩ :: r)) (hk : tk = 6) (hq : tq = []) (hpb : PgB l) (s1 s2 : ByteArray) (x : Int) (hx : x = 0) (hm : Sy.internM l cur (BA tt) = ((s1, s2), x)) : Calls Tryz.prog 37 #[.pointer (some ⟨g, 0, none⟩), .int .i64 d] w (OutER W0 w g l lv cur (.ok (.sym (LA s1) (LA s2)) r)) := by
 subst hx
 have k0 : (tk == 0) = false := by rw [beq_eq_false_iff_ne]; omega
 have k2 : (tk == 2) = false := by rw [beq_eq_false_iff_ne]; omega
 have k3 : (tk == 3) = false := by rw [beq_eq_false_iff_ne]; omega
 have k5 : (tk == 5) = false := by rw [beq_eq_false_iff_ne]; omega
 have k7 : (tk == 7) = false := by rw [beq_eq_false_iff_ne]; omega
 have k6 : (tk == 6) = true := by rw [beq_iff_eq]; omega
 have e2 : (BA tq).toList.isEmpty = true := by rw [ba_empty]; exact decide_eq_true hq
 have HPB := Lib.hid hpb
 have HM := Lib.hid hm
 have HX := Lib.hid (RX.new h)
 clear h hk hq hpb hm
 go_enter Tryz.func37, Tryz.ntmps37
 go_upto_region 1 with fail
 generalize ((w.alloc (.cells #[.int .i64 0, .string ⟨#[]⟩, .string ⟨#[]⟩, .string ⟨#[]⟩, .string ⟨#[]⟩, .string ⟨#[]⟩, .slice none 0 0] 47)).alloc (.cells #[.int .i64 0, .int .i64 0] 26)) = W1 at HX ⊢
 obtain ⟨b, o, n, c, j, HC0⟩ := HX.out.ps.open
 have c0 := HC0.c0
 have c1 := HC0.c1
 have c2 := HC0.c2
 have c3 := HC0.c3
 have t0 := HC0.t0
 have t1 := HC0.t1
 have t2 := HC0.t2
 have t3 := HC0.t3
 have t4 := HC0.t4
 have hj := HC0.hj
 have hn := HC0.hn
 have hj0 : (0 : Int) ≤ (j : Int) := by omega
 have hj1 : (j : Int) < (n : Int) := by omega
 have HC1 := HC0.more ((Below.refl W1.heap.size W1).drew) HX.out.ps.lt HX.out.ps.bel
 have dc2 := HC1.c2
 have dc3 := HC1.c3
 have dt0 := HC1.t0
 have dt1 := HC1.t1
 have dt2 := HC1.t2
 have dt3 := HC1.t3
 have dt4 := HC1.t4
 have HC2 := HC0.more ((Below.alloc (Below.refl W1.heap.size W1) (Nat.le_refl _) (.cells #[.int .i64 0, .int .i64 0, .string ⟨#[]⟩, .string ⟨#[]⟩, .string ⟨#[]⟩] 65)).drew) HX.out.ps.lt HX.out.ps.bel
 have ac2 := HC2.c2
 have ac3 := HC2.c3
 have at0 := HC2.t0
 have at1 := HC2.t1
 have at2 := HC2.t2
 have at3 := HC2.t3
 have at4 := HC2.t4
 clear HC0 HC1 HC2
 go_wp2_with fail
 apply mergeG
 case h =>
  intro hG
  go_region_with (fail)
  all_goals exact hG
 clear c0 c1 c2 c3 t0 t1 t2 t3 t4 dc2 dc3 dt0 dt1 dt2 dt3 dt4 ac2 ac3 at0 at1 at2 at3 at4 hj hj0 hj1 hn
 have HT : Hid (TR (W1.alloc (.cells #[.int .i64 tk, .int .i64 tp, .string (BA tq), .string (BA tt), .string (BA td)] 65)).drew W1.heap.size (tkC ⟨tk, tp, tq, tt, td⟩)) := (TR.new W1 _).keep ((Below.refl _ _).drew)
 have HL1 : Hid (w.heap.size + 1 < W1.heap.size) := HX.out.e.lt
 replace HX : Hid (RX W0 w (W1.alloc (.cells #[.int .i64 tk, .int .i64 tp, .string (BA tq), .string (BA tt), .string (BA td)] 65)).drew g l lv cur (⟨tk, tp, tq, tt, td⟩ :: r) #[.int .i64 0, .string ⟨#[]⟩, .string ⟨#[]⟩, .string ⟨#[]⟩, .string ⟨#[]⟩, .string ⟨#[]⟩, .slice none 0 0] (.int .i64 0) (.int .i64 0)) := HX.out.keep ((Below.alloc (Below.refl _ _) (Nat.le_refl _) _).drew)
 generalize (W1.alloc (.cells #[.int .i64 tk, .int .i64 tp, .string (BA tq), .string (BA tt), .string (BA td)] 65)).drew = W2 at HX HT ⊢
 generalize W1.heap.size = gt at HT HL1 ⊢
 go_upto_region 3 with fail
 have HN : Hid (ObB (W2.alloc (.cells #[.int .i64 0, .string ⟨#[]⟩, .string ⟨#[]⟩, .string ⟨#[]⟩, .string ⟨#[]⟩, .string ⟨#[]⟩, .slice none 0 0] 47)) W2.heap.size #[.int .i64 0, .string ⟨#[]⟩, .string ⟨#[]⟩, .string ⟨#[]⟩, .string ⟨#[]⟩, .string ⟨#[]⟩, .slice none 0 0]) := heap_alloc_new _ _
 have hal := Below.alloc (Below.refl W2.heap.size W2) (Nat.le_refl _) (.cells #[.int .i64 0, .string ⟨#[]⟩, .string ⟨#[]⟩, .string ⟨#[]⟩, .string ⟨#[]⟩, .string ⟨#[]⟩, .slice none 0 0] 47)
 have HL2 : Hid (gt < W2.heap.size) := HT.out.lt
 replace HT := Lib.hid (HT.out.keep hal)
 replace HX := Lib.hid (HX.out.keep hal)
 clear hal
 generalize (W2.alloc (.cells #[.int .i64 0, .string ⟨#[]⟩, .string ⟨#[]⟩, .string ⟨#[]⟩, .string ⟨#[]⟩, .string ⟨#[]⟩, .slice none 0 0] 47)) = W3 at HX HT HN ⊢
 generalize W2.heap.size = gn at HN HL2 ⊢
 obtain ⟨q0, q1, q2, q3, q4⟩ := HT.out.all
 dsimp only at q0 q1 q2 q3 q4
 obtain ⟨b', o', n', c', j', HO0⟩ := HX.out.ps.open
 have HO := Lib.hid HO0
 have pc3 := HO0.c3
 have pcf := HO0.cf
 have hjb := HO0.hj
 have hnb := HO0.hn
 have hw0 : IntKind.i64.wrap ((j' : Int) + 1) = (j' : Int) + 1 := IntWalk.i64_in _ (by omega)
 clear HO0
 go_upto_region 17 with fail
 have HGG := HX.out.hg
 replace HX := Lib.hid (HX.out.tick HO.out)
 have hl1' := HL1.out
 have hl2' := HL2.out
 replace HT := Lib.hid (HT.out.ocell (k := 3) (b := g) (by omega) (.int .i64 ((j' : Int) + 1)))
 replace HN := Lib.hid (HN.out.ocell (k := 3) (b := g) (y := .int .i64 ((j' : Int) + 1)) (by omega))
 clear q0 q1 q2 q3 q4 pc3 pcf hjb hnb hw0 HO hl1' hl2' HGG
 generalize W3.setCell ⟨g, 3, none⟩ (.int .i64 ((j' : Int) + 1)) = W4 at HX HT HN ⊢
 obtain ⟨q0, q1, q2, q3, q4⟩ := HT.out.all
 dsimp only at q0 q1 q2 q3 q4
 obtain ⟨b2, o2, n2, c2, j2, HO0⟩ := HX.out.ps.open0
 have pc0 := HO0.c0
 have pc1 := HO0.c1
 go_upto_region 20 with fail
 have KI : Hid (∀ W', Below W4.heap.size W4 W' → Calls Tryz.prog 65 #[lv, .string cur, .string (BA tt)] W' (Sy.RetN W' ((s1, s2), 0))) := fun W' hb => HM.out ▸ Sy.internRY l lv cur (BA tt) W' (HX.out.ps.pg hb) HPB.out.h1 HPB.out.h2
 have a0 : W4.drew.cell? ⟨g, 0, none⟩ = some lv := pc0
 have a3 : W4.drew.cell? ⟨gt, 3, none⟩ = some (.string (BA tt)) := q3
 have b0 : (W4.alloc (.cells #[.string ⟨#[]⟩, .string ⟨#[]⟩] 45)).drew.cell? ⟨g, 0, none⟩ = some lv := ((Below.alloc (Below.refl W4.heap.size W4) (Nat.le_refl _) _).cell (p := ⟨g, 0, none⟩) HX.out.ps.lt).trans pc0
 have b3 : (W4.alloc (.cells #[.string ⟨#[]⟩, .string ⟨#[]⟩] 45)).drew.cell? ⟨gt, 3, none⟩ = some (.string (BA tt)) := ((Below.alloc (Below.refl W4.heap.size W4) (Nat.le_refl _) _).cell (p := ⟨gt, 3, none⟩) HT.out.lt).trans q3
 have l1 := HX.out.ps.lt
 have l2 := HT.out.lt
 clear HO0
 go_wp2_with fail
 go_region_with (go_at_call 65; refine (KI.out _ ?_).mono ?_; (first | exact Below.drew (Below.refl _ _) | exact Below.alloc (Below.drew (Below.refl _ _)) (Nat.le_refl _) _); rintro e w9 ⟨rfl, hb⟩; have HB9 : Hid (Below W4.heap.size W4 w9) := (by first | exact chain5 (Below.drew (Below.refl _ _)) hb | exact chain5 (Below.alloc (Below.drew (Below.refl _ _)) (Nat.le_refl _) _) hb); (try (have HS9 : Hid (Sy.SB w9 W4.heap.size (.string ⟨#[]⟩) (.string ⟨#[]⟩)) := Sy.SB.keep (Sy.SB.new W4.drew (.string ⟨#[]⟩) (.string ⟨#[]⟩)) hb; have s0 := HS9.out.c0; have s1' := HS9.out.c1; have sf0 := SB.fr0 HS9.out; have sf1 := SB.fr1 HS9.out)))
 all_goals
  clear q0 q1 q2 q3 q4 a0 a3 b0 b3 pc0 pc1 l1 l2
  first
  | (obtain ⟨W5, hW5⟩ : ∃ W5, w9.alloc (.cells #[.string s1, .string s2] 45) = W5 := ⟨_, rfl⟩
     rw [hW5]
     have hbw : Below W4.heap.size W4 W5 := hW5 ▸ chain5 HB9.out (Below.alloc (Below.refl _ _) (Nat.le_refl _) _)
     replace HX := Lib.hid (HX.out.keep hbw)
     replace HT := Lib.hid (HT.out.keep hbw)
     replace HN := Lib.hid (HN.out.keep hbw)
     have HV : Hid (Sy.SB W5 w9.heap.size (.string s1) (.string s2)) := hW5 ▸ Sy.SB.new _ _ _
     clear hW5 hbw
     generalize w9.heap.size = gs at HV ⊢)
  | (obtain ⟨W5, hW5⟩ : ∃ W5, (w9.setCell ⟨W4.heap.size, 0, none⟩ (.string s1)).setCell ⟨W4.heap.size, 1, none⟩ (.string s2) = W5 := ⟨_, rfl⟩
     rw [hW5]
     have hbw : Below W4.heap.size W4 W5 := hW5 ▸ (HB9.out.setCell (Nat.le_refl _) _).setCell (Nat.le_refl _) _
     replace HX := Lib.hid (HX.out.keep hbw)
     replace HT := Lib.hid (HT.out.keep hbw)
     replace HN := Lib.hid (HN.out.keep hbw)
     have HV : Hid (Sy.SB W5 W4.heap.size (.string s1) (.string s2)) := hW5 ▸ SB.two HS9.out _ _
     clear hW5 hbw s0 s1' sf0 sf1 HS9
     generalize W4.heap.size = gs at HV ⊢)
 all_goals
  have x0 := HV.out.c0
  have x1 := HV.out.c1
  go_wp2_with fail
  refine (symO s1 s2 _ (fun _ => False)).mono ?_
  rintro e w8 ⟨pp, rfl, hpp, hb8⟩
  obtain rfl := hpp.flat rfl
  replace HX := Lib.hid (HX.out.keep hb8)
  clear hb8 x0 x1
  have HP := Lib.hid hpp
  clear hpp
  go_wp2_with (first | (refine storeV rfl (.tmp 4) (.tmp 102) rfl w.heap.size (.sym (LA s1) (LA s2)) (.slice none 0 0) rfl rfl HP.out 47 _ HX.out.o rfl ?_) | (refine EB.store (.tmp 5) (.tmp 103) rfl rfl (w.heap.size + 1) 0 0 _ _ rfl rfl (HX.out.setO2 _).e ?_))
  exact RX.fin2 (o := .sym (LA s1) (LA s2)) (p := .slice none 0 0) (S := fun _ => False) HX.out rfl (fun b hb => hb.elim) rfl rfl rfl
structure RB (w W : World) (g : Nat) (x : Array Value) (u v : Value) : Prop where
 hg : g < w.heap.size
 but : But g w W
 o : ObB W w.heap.size x
 e : EB W (w.heap.size + 1) u v
section
variable {W0 w W W' : World} {g : Nat} {l : List Sy.Pg} {lv : Value} {cur : ByteArray} {ts ts' : List Tk} {x : Array Value} {u v : Value}
theorem RX.rb (h : RX W0 w W g l lv cur ts x u v) : RB w W g x u v := ⟨h.hg, h.but, h.o, h.e⟩
theorem RB.keep (h : RB w W g x u v) (hb : Below W.heap.size W W') : RB w W' g x u v := ⟨h.hg, h.but.trans (But.of hb), h.o.keep hb, h.e.keep hb⟩
theorem RB.next (h : RB w W g x u v) (hb : But g W W') : RB w W' g x u v := ⟨h.hg, h.but.trans hb, h.o.but hb (by have := h.hg; omega), h.e.but hb (by have := h.hg; omega)⟩
theorem RB.setE (h : RB w W g x u v) (p q : Value) : RB w ((W.setCell ⟨w.heap.size + 1, 0, none⟩ p).setCell ⟨w.heap.size + 1, 1, none⟩ q) g x p q := by
 have hg := h.hg
 refine ⟨hg, (h.but.cell (by omega)).cell (by omega), ?_, h.e.cell2 p q⟩
 exact (Below.heap_setCell _ ⟨w.heap.size + 1, 1, none⟩ _ _ (by show w.heap.size ≠ w.heap.size + 1; omega)).trans ((Below.heap_setCell _ ⟨w.heap.size + 1, 0, none⟩ _ _ (by show w.heap.size ≠ w.heap.size + 1; omega)).trans h.o)
theorem RB.setO {y0 y1 y2 y3 y4 y5 y6 : Value} (h : RB w W g #[y0, y1, y2, y3, y4, y5, y6] u v) (x0 x1 x2 x3 x4 x5 x6 : Value) : RB w (set7 W w.heap.size x0 x1 x2 x3 x4 x5 x6) g #[x0, x1, x2, x3, x4, x5, x6] u v :=
 ⟨h.hg, set7_but h.but (Nat.le_refl _) _ _ _ _ _ _ _, set7_row h.o _ _ _ _ _ _ _, (set7_other _ _ _ _ _ _ _ _ _ _ (by omega)).trans h.e⟩
theorem RB.retBad {fn : Func} {r0 r1 : Tmp} {tmps : Array Value} {p q : Int} (h : RB w W g #[.int .i64 0, .string ⟨#[]⟩, .string ⟨#[]⟩, .string ⟨#[]⟩, .string ⟨#[]⟩, .string ⟨#[]⟩, .slice none 0 0] (.int .i64 p) (.int .i64 q)) (hf : fn.results = #[.cell r0 47, .cell r1 26]) (h0 : tmps.getD r0 undef = .pointer (some ⟨w.heap.size, 0, none⟩)) (h1 : tmps.getD r1 undef = .pointer (some ⟨w.heap.size + 1, 0, none⟩)) :
 bodyPost Tryz.prog fn (OutER W0 w g l lv cur (.bad p q)) Exit.ret ⟨tmps, []⟩ W := bodyPost_ret (resCC hf h0 h1 h.o h.e) rfl ⟨rfl, h.but⟩
end
theorem RX.fin7 {W0 w W : World} {g : Nat} {l : List Sy.Pg} {lv : Value} {cur : ByteArray} {ts : List Tk} {u v : Value} {y0 y1 y2 y3 y4 y5 y6 : Value} {o : Ob} {p x0 x1 x2 x3 x4 x5 : Value} {S : Nat → Prop} (h : RX W0 w W g l lv cur ts #[y0, y1, y2, y3, y4, y5, y6] u v) (hz : Val7 o p x0 x1 x2 x3 x4 x5) (hp : Pair W S o p) (hS : ∀ b, S b → w.heap.size + 1 < b ∧ b < W.heap.size)
 {fn : Func} {r0 r1 : Tmp} {tmps : Array Value} (hf : fn.results = #[.cell r0 47, .cell r1 26]) (h0 : tmps.getD r0 undef = .pointer (some ⟨w.heap.size, 0, none⟩)) (h1 : tmps.getD r1 undef = .pointer (some ⟨w.heap.size + 1, 0, none⟩)) :
 bodyPost Tryz.prog fn (OutER W0 w g l lv cur (.ok o ts)) Exit.ret ⟨tmps, []⟩ (((set7 W w.heap.size x0 x1 x2 x3 x4 x5 p).setCell ⟨w.heap.size + 1, 0, none⟩ (.int .i64 0)).setCell ⟨w.heap.size + 1, 1, none⟩ (.int .i64 0)) := by
 refine ((h.setO x0 x1 x2 x3 x4 x5 p).setE (.int .i64 0) (.int .i64 0)).retOk hz (S := S) (hp.keep (fun b hb => hb) (fun b hb => ?_)) (fun b hb => ?_) hf h0 h1
 · have := hS b hb
   exact (Below.heap_setCell _ ⟨w.heap.size + 1, 1, none⟩ _ b (by show b ≠ w.heap.size + 1; omega)).trans ((Below.heap_setCell _ ⟨w.heap.size + 1, 0, none⟩ _ b (by show b ≠ w.heap.size + 1; omega)).trans (set7_other _ _ _ _ _ _ _ _ _ b (by omega)))
 · have := hS b hb
   have hs : (((set7 W w.heap.size x0 x1 x2 x3 x4 x5 p).setCell ⟨w.heap.size + 1, 0, none⟩ (.int .i64 0)).setCell ⟨w.heap.size + 1, 1, none⟩ (.int .i64 0)).heap.size = W.heap.size := by
    rw [show ∀ (W : World) (k : Nat) (y : Value), (W.setCell ⟨w.heap.size + 1, k, none⟩ y).heap.size = W.heap.size from fun W k y => by simp [World.setCell]]
    rw [show ∀ (W : World) (k : Nat) (y : Value), (W.setCell ⟨w.heap.size + 1, k, none⟩ y).heap.size = W.heap.size from fun W k y => by simp [World.setCell]]
    exact set7_size _ _ _ _ _ _ _ _ _
   rw [hs]
   omega
def boxes2 (w5 : World) (o : Ob) (p u v : Value) : World := (((w5.alloc (.cells #[.int .i64 0, .string ⟨#[]⟩, .string ⟨#[]⟩, .string ⟨#[]⟩, .string ⟨#[]⟩, .string ⟨#[]⟩, .slice none 0 0] 47)).alloc (.cells #[.int .i64 0, .int .i64 0] 26)).setRow w5.heap.size (cellsO o p).toArray).setRow (w5.heap.size + 1) #[u, v]
theorem newE (w5 : World) (x : Obj) (u v : Value) : EB ((w5.alloc x).alloc (.cells #[u, v] 26)) (w5.heap.size + 1) u v := by
 have := EB.new (w5.alloc x) u v
 have h2 : (w5.alloc x).heap.size = w5.heap.size + 1 := by simp
 rw [h2] at this
 exact this
theorem boxes2_spec (w5 : World) (o : Ob) (p u v : Value) : Below w5.heap.size w5 (boxes2 w5 o p u v) ∧ ObB (boxes2 w5 o p u v) w5.heap.size (cellsO o p).toArray ∧ EB (boxes2 w5 o p u v) (w5.heap.size + 1) u v := by
 refine ⟨below_setRow (below_setRow (al2 w5 _ _) (Nat.le_refl _) _) (Nat.le_succ _) _, (setRow_other _ _ _ _ (by omega)).trans (setRow_heap _ _ _ _ _ _ (heap_old1 w5 _ _)), ?_⟩
 exact EB.set ((newE w5 _ _ _).row (by omega) _) u v
theorem listQR (o : Ob) (p x0 x1 x2 x3 x4 x5 : Value) (hz : Val7 o p x0 x1 x2 x3 x4 x5) (W : World) (b : Nat) (S : Nat → Prop) (hS : In S W) (hb : S b)
 (hr : W.heap[b]? = some (.cells #[.int .i64 2, .string ⟨#[]⟩, .string ⟨#[]⟩, .string (BA lispB), .string ⟨#[113, 117, 111, 116, 101]⟩, .string ⟨#[]⟩, .slice none 0 0, x0, x1, x2, x3, x4, x5, p] 47 (0, 0))) (hp : Pair W S o p) :
 Calls Tryz.prog 24 #[.slice (some ⟨b, 0, none⟩) 2 2] W (fun e w' => ∃ b' o' c', e = .returned (.agg #[.int .i64 4, .string ⟨#[]⟩, .string ⟨#[]⟩, .string ⟨#[]⟩, .string ⟨#[]⟩, .string ⟨#[]⟩, .slice (some ⟨b', o', none⟩) 2 c']) ∧ Pair w' (Upto W w' S) (.cons quoteO (.cons o .nil)) (.slice (some ⟨b', o', none⟩) 2 c') ∧ Below W.heap.size W w') := by
 have h := listO [quoteO, o] (some ⟨b, 0, none⟩) 2 W S hS (Nat.le_refl _) (by simp) (fun _ => ⟨b, 0, rfl, hb, by
  refine ⟨⟨.slice none 0 0, rfl, fun j u hj => ?_⟩, ⟨p, hp, fun j u hj => ?_⟩, trivial⟩
  · rw [Nat.zero_add, cell_of_row _ _ _ _ _ _ hr]
    match j, hj with
    | 0, hj => exact hj
    | 1, hj => exact hj
    | 2, hj => exact hj
    | 3, hj => exact hj
    | 4, hj => exact hj
    | 5, hj => exact hj
    | 6, hj => exact hj
    | k + 7, hj => cases hj
  · rw [hz] at hj
    rw [cell_of_row _ _ _ _ _ _ hr]
    match j, hj with
    | 0, hj => exact hj
    | 1, hj => exact hj
    | 2, hj => exact hj
    | 3, hj => exact hj
    | 4, hj => exact hj
    | 5, hj => exact hj
    | 6, hj => exact hj
    | k + 7, hj => cases hj⟩)
 refine h.mono ?_
 rintro e w' ⟨pp, rfl, h1, h2⟩
 obtain ⟨b', o', c', pa, pd, rfl, _⟩ := h1.parts
 exact ⟨b', o', c', rfl, h1, h2⟩
set_option maxHeartbeats 8000000 in
set_option maxRecDepth 100000 in
theorem objQuoteBadR (W0 w : World) (g : Nat) (l : List Sy.Pg) (lv : Value) (cur : ByteArray) (d : Int) (tk tp : Int) (tq tt td : List UInt8) (r : List Tk) (h : PsR W0 w g l lv cur (⟨tk, tp, tq, tt, td⟩ :: r)) (k0' : tk ≠ 0) (n5 : tk ≠ 5) (n6 : tk ≠ 6) (n7 : tk ≠ 7) (n2 : tk ≠ 2) (n3 : tk ≠ 3) (n4 : tk = 4) (hd : ¬ 200 < d) (hd0 : 0 ≤ d) (x q : Int) (hx : x ≠ 0) (hO : ∀ w, PsR W0 w g l lv cur r → Calls Tryz.prog 37 #[.pointer (some ⟨g, 0, none⟩), .int .i64 (d + 1)] w (OutER W0 w g l lv cur (.bad x q))) : Calls Tryz.prog 37 #[.pointer (some ⟨g, 0, none⟩), .int .i64 d] w (OutER W0 w g l lv cur (.bad x q)) := by
 have k0 : (tk == 0) = false := by rw [beq_eq_false_iff_ne]; omega
 have k2 : (tk == 2) = false := by rw [beq_eq_false_iff_ne]; omega
 have k3 : (tk == 3) = false := by rw [beq_eq_false_iff_ne]; omega
 have k5 : (tk == 5) = false := by rw [beq_eq_false_iff_ne]; omega
 have k7 : (tk == 7) = false := by rw [beq_eq_false_iff_ne]; omega
 have k6 : (tk == 6) = false := by rw [beq_eq_false_iff_ne]; omega
 have k4 : (tk == 4) = true := by rw [beq_iff_eq]; omega
 have KO := Lib.hid hO
 have hw1 : IntKind.i64.wrap (d + 1) = d + 1 := IntWalk.i64_in _ (by omega)
 have her : (x != 0) = true := by rw [bne_iff_ne]; exact hx
 have HX := Lib.hid (RX.new h)
 clear h k0' n5 n6 n7 n2 n3 n4 hO hx
 go_enter Tryz.func37, Tryz.ntmps37
 go_upto_region 1 with fail
 generalize ((w.alloc (.cells #[.int .i64 0, .string ⟨#[]⟩, .string ⟨#[]⟩, .string ⟨#[]⟩, .string ⟨#[]⟩, .string ⟨#[]⟩, .slice none 0 0] 47)).alloc (.cells #[.int .i64 0, .int .i64 0] 26)) = W1 at HX ⊢
 obtain ⟨b, o, n, c, j, HC0⟩ := HX.out.ps.open
 have c0 := HC0.c0
 have c1 := HC0.c1
 have c2 := HC0.c2
 have c3 := HC0.c3
 have t0 := HC0.t0
 have t1 := HC0.t1
 have t2 := HC0.t2
 have t3 := HC0.t3
 have t4 := HC0.t4
 have hj := HC0.hj
 have hn := HC0.hn
 have hj0 : (0 : Int) ≤ (j : Int) := by omega
 have hj1 : (j : Int) < (n : Int) := by omega
 have HC1 := HC0.more ((Below.refl W1.heap.size W1).drew) HX.out.ps.lt HX.out.ps.bel
 have dc2 := HC1.c2
 have dc3 := HC1.c3
 have dt0 := HC1.t0
 have dt1 := HC1.t1
 have dt2 := HC1.t2
 have dt3 := HC1.t3
 have dt4 := HC1.t4
 have HC2 := HC0.more ((Below.alloc (Below.refl W1.heap.size W1) (Nat.le_refl _) (.cells #[.int .i64 0, .int .i64 0, .string ⟨#[]⟩, .string ⟨#[]⟩, .string ⟨#[]⟩] 65)).drew) HX.out.ps.lt HX.out.ps.bel
 have ac2 := HC2.c2
 have ac3 := HC2.c3
 have at0 := HC2.t0
 have at1 := HC2.t1
 have at2 := HC2.t2
 have at3 := HC2.t3
 have at4 := HC2.t4
 clear HC0 HC1 HC2
 go_wp2_with fail
 apply mergeG
 case h =>
  intro hG
  go_region_with (fail)
  all_goals exact hG
 clear c0 c1 c2 c3 t0 t1 t2 t3 t4 dc2 dc3 dt0 dt1 dt2 dt3 dt4 ac2 ac3 at0 at1 at2 at3 at4 hj hj0 hj1 hn
 have HT : Hid (TR (W1.alloc (.cells #[.int .i64 tk, .int .i64 tp, .string (BA tq), .string (BA tt), .string (BA td)] 65)).drew W1.heap.size (tkC ⟨tk, tp, tq, tt, td⟩)) := (TR.new W1 _).keep ((Below.refl _ _).drew)
 have HL1 : Hid (w.heap.size + 1 < W1.heap.size) := HX.out.e.lt
 replace HX : Hid (RX W0 w (W1.alloc (.cells #[.int .i64 tk, .int .i64 tp, .string (BA tq), .string (BA tt), .string (BA td)] 65)).drew g l lv cur (⟨tk, tp, tq, tt, td⟩ :: r) #[.int .i64 0, .string ⟨#[]⟩, .string ⟨#[]⟩, .string ⟨#[]⟩, .string ⟨#[]⟩, .string ⟨#[]⟩, .slice none 0 0] (.int .i64 0) (.int .i64 0)) := HX.out.keep ((Below.alloc (Below.refl _ _) (Nat.le_refl _) _).drew)
 generalize (W1.alloc (.cells #[.int .i64 tk, .int .i64 tp, .string (BA tq), .string (BA tt), .string (BA td)] 65)).drew = W2 at HX HT ⊢
 generalize W1.heap.size = gt at HT HL1 ⊢
 go_upto_region 3 with fail
 have HN : Hid (ObB (W2.alloc (.cells #[.int .i64 0, .string ⟨#[]⟩, .string ⟨#[]⟩, .string ⟨#[]⟩, .string ⟨#[]⟩, .string ⟨#[]⟩, .slice none 0 0] 47)) W2.heap.size #[.int .i64 0, .string ⟨#[]⟩, .string ⟨#[]⟩, .string ⟨#[]⟩, .string ⟨#[]⟩, .string ⟨#[]⟩, .slice none 0 0]) := heap_alloc_new _ _
 have hal := Below.alloc (Below.refl W2.heap.size W2) (Nat.le_refl _) (.cells #[.int .i64 0, .string ⟨#[]⟩, .string ⟨#[]⟩, .string ⟨#[]⟩, .string ⟨#[]⟩, .string ⟨#[]⟩, .slice none 0 0] 47)
 have HL2 : Hid (gt < W2.heap.size) := HT.out.lt
 replace HT := Lib.hid (HT.out.keep hal)
 replace HX := Lib.hid (HX.out.keep hal)
 clear hal
 generalize (W2.alloc (.cells #[.int .i64 0, .string ⟨#[]⟩, .string ⟨#[]⟩, .string ⟨#[]⟩, .string ⟨#[]⟩, .string ⟨#[]⟩, .slice none 0 0] 47)) = W3 at HX HT HN ⊢
 generalize W2.heap.size = gn at HN HL2 ⊢
 obtain ⟨q0, q1, q2, q3, q4⟩ := HT.out.all
 dsimp only at q0 q1 q2 q3 q4
 obtain ⟨b', o', n', c', j', HO0⟩ := HX.out.ps.open
 have HO := Lib.hid HO0
 have pc3 := HO0.c3
 have pcf := HO0.cf
 have hjb := HO0.hj
 have hnb := HO0.hn
 have hw0 : IntKind.i64.wrap ((j' : Int) + 1) = (j' : Int) + 1 := IntWalk.i64_in _ (by omega)
 clear HO0
 go_upto_region 27 with fail
 have HGG := HX.out.hg
 replace HX := Lib.hid (HX.out.tick HO.out)
 have hl1' := HL1.out
 have hl2' := HL2.out
 replace HT := Lib.hid (HT.out.ocell (k := 3) (b := g) (by omega) (.int .i64 ((j' : Int) + 1)))
 replace HN := Lib.hid (HN.out.ocell (k := 3) (b := g) (y := .int .i64 ((j' : Int) + 1)) (by omega))
 clear q0 q1 q2 q3 q4 pc3 pcf hjb hnb hw0 HO hl1' hl2' HGG
 generalize W3.setCell ⟨g, 3, none⟩ (.int .i64 ((j' : Int) + 1)) = W4 at HX HT HN ⊢
 obtain ⟨q0, q1, q2, q3, q4⟩ := HT.out.all
 dsimp only at q0 q1 q2 q3 q4
 go_wp2_with fail
 refine (KO.out _ HX.out.ps).mono ?_
 rintro e w5 ⟨rfl, hb⟩
 have HGG := HX.out.hg
 have hl1' := HL1.out
 have hl2' := HL2.out
 have HA := Lib.hid (al2 w5 (.cells #[.int .i64 0, .string ⟨#[]⟩, .string ⟨#[]⟩, .string ⟨#[]⟩, .string ⟨#[]⟩, .string ⟨#[]⟩, .slice none 0 0] 47) (.cells #[.int .i64 x, .int .i64 q] 26))
 have HB : Hid (RB w ((w5.alloc (.cells #[.int .i64 0, .string ⟨#[]⟩, .string ⟨#[]⟩, .string ⟨#[]⟩, .string ⟨#[]⟩, .string ⟨#[]⟩, .slice none 0 0] 47)).alloc (.cells #[.int .i64 x, .int .i64 q] 26)) g #[.int .i64 0, .string ⟨#[]⟩, .string ⟨#[]⟩, .string ⟨#[]⟩, .string ⟨#[]⟩, .string ⟨#[]⟩, .slice none 0 0] (.int .i64 0) (.int .i64 0)) := (HX.out.rb.next hb).keep HA.out
 replace HN : Hid (ObB ((w5.alloc (.cells #[.int .i64 0, .string ⟨#[]⟩, .string ⟨#[]⟩, .string ⟨#[]⟩, .string ⟨#[]⟩, .string ⟨#[]⟩, .slice none 0 0] 47)).alloc (.cells #[.int .i64 x, .int .i64 q] 26)) gn #[.int .i64 0, .string ⟨#[]⟩, .string ⟨#[]⟩, .string ⟨#[]⟩, .string ⟨#[]⟩, .string ⟨#[]⟩, .slice none 0 0]) := (HN.out.but hb (by omega)).keep HA.out
 have HE : Hid (EB ((w5.alloc (.cells #[.int .i64 0, .string ⟨#[]⟩, .string ⟨#[]⟩, .string ⟨#[]⟩, .string ⟨#[]⟩, .string ⟨#[]⟩, .slice none 0 0] 47)).alloc (.cells #[.int .i64 x, .int .i64 q] 26)) (w5.heap.size + 1) (.int .i64 x) (.int .i64 q)) := by
  have := EB.new (w5.alloc (.cells #[.int .i64 0, .string ⟨#[]⟩, .string ⟨#[]⟩, .string ⟨#[]⟩, .string ⟨#[]⟩, .string ⟨#[]⟩, .slice none 0 0] 47)) (.int .i64 x) (.int .i64 q)
  have h2 : (w5.alloc (.cells #[.int .i64 0, .string ⟨#[]⟩, .string ⟨#[]⟩, .string ⟨#[]⟩, .string ⟨#[]⟩, .string ⟨#[]⟩, .slice none 0 0] 47)).heap.size = w5.heap.size + 1 := by simp
  rw [h2] at this
  exact this
 have hsz := HX.out.rb.e.lt
 have hlt := hb.size
 clear hb HX q0 q1 q2 q3 q4 HT HGG hl1' hl2'
 go_upto_region 29 with fail
 generalize ((w5.alloc (.cells #[.int .i64 0, .string ⟨#[]⟩, .string ⟨#[]⟩, .string ⟨#[]⟩, .string ⟨#[]⟩, .string ⟨#[]⟩, .slice none 0 0] 47)).alloc (.cells #[.int .i64 x, .int .i64 q] 26)) = W5 at HB HN HE ⊢
 have HX5 : Hid (w.heap.size + 1 < w5.heap.size) := by show _ < _; omega
 clear hsz hlt HA
 obtain ⟨ge, hge⟩ : ∃ ge, w5.heap.size + 1 = ge := ⟨_, rfl⟩
 rw [hge] at HE ⊢
 have hge2 : w.heap.size + 1 < ge := by have := HX5.out; omega
 clear hge
 have ec0 := HE.out.c0
 have ec1 := HE.out.c1
 have hl1 := HL1.out
 have hl2 := HL2.out
 have n1 : ¬ w.heap.size = w.heap.size + 1 := by omega
 have n2 : ¬ w.heap.size + 1 = w.heap.size := by omega
 have n3 : ¬ gt = w.heap.size := by omega
 have n4 : ¬ w.heap.size = gt := by omega
 have n5' : ¬ gt = w.heap.size + 1 := by omega
 have n6' : ¬ w.heap.size + 1 = gt := by omega
 have n7' : ¬ gn = w.heap.size := by omega
 have n8 : ¬ w.heap.size = gn := by omega
 have n9 : ¬ gn = w.heap.size + 1 := by omega
 have n10 : ¬ w.heap.size + 1 = gn := by omega
 have n11 : ¬ ge = w.heap.size := by omega
 have n12 : ¬ w.heap.size = ge := by omega
 have n13 : ¬ ge = w.heap.size + 1 := by omega
 have n14 : ¬ w.heap.size + 1 = ge := by omega
 go_upto_region 30 with fail
 have HB0 := Lib.hid (HB.out.keep ((Below.refl W5.heap.size W5).drew))
 have HN0 := Lib.hid (HN.out.keep ((Below.refl W5.heap.size W5).drew))
 have HE0 := Lib.hid (HE.out.keep ((Below.refl W5.heap.size W5).drew))
 obtain ⟨m0, m1, m2, m3, m4, m5, m6⟩ := HN0.out.c
 obtain ⟨d0, d1, d2, d3, d4, d5, d6⟩ := HB0.out.o.c
 obtain ⟨f0, f1, f2, f3, f4, f5, f6⟩ := HB0.out.o.f
 obtain ⟨ef0, ef1⟩ := HB0.out.e.frs
 have oc0 := HB0.out.e.c0
 have oc1 := HB0.out.e.c1
 have e0 := HE0.out.c0
 have e1 := HE0.out.c1
 obtain ⟨mm0, mm1, mm2, mm3, mm4, mm5, mm6⟩ := HN.out.c
 obtain ⟨dd0, dd1, dd2, dd3, dd4, dd5, dd6⟩ := HB.out.o.c
 obtain ⟨ff0, ff1, ff2, ff3, ff4, ff5, ff6⟩ := HB.out.o.f
 obtain ⟨eff0, eff1⟩ := HB.out.e.frs
 have occ0 := HB.out.e.c0
 have occ1 := HB.out.e.c1
 go_wp2_with fail
 go_region_with (fail)
 all_goals
  clear m0 m1 m2 m3 m4 m5 m6 d0 d1 d2 d3 d4 d5 d6 f0 f1 f2 f3 f4 f5 f6 ef0 ef1 oc0 oc1 e0 e1 ec0 ec1 mm0 mm1 mm2 mm3 mm4 mm5 mm6 dd0 dd1 dd2 dd3 dd4 dd5 dd6 ff0 ff1 ff2 ff3 ff4 ff5 ff6 eff0 eff1 occ0 occ1
  go_wp2_with fail
  exact (((HB.out.setO (.int .i64 0) (.string ⟨#[]⟩) (.string ⟨#[]⟩) (.string ⟨#[]⟩) (.string ⟨#[]⟩) (.string ⟨#[]⟩) (.slice none 0 0)).setE (.int .i64 x) (.int .i64 q)).keep ((Below.refl _ _).drew)).retBad rfl rfl rfl
def Ab (g6 : Nat) (w : World) : Nat → Prop := fun b => g6 < b ∧ b < w.heap.size
def TkN (ts : List Tk) : Prop := ∀ t ∈ ts, t.k = 5 → nt (quo t.txt t.den) = BA t.txt ∧ dt (quo t.txt t.den) = BA t.den
theorem TkN.suf {ts r : List Tk} (h : TkN ts) (hs : r <:+ ts) : TkN r := fun t ht => h t (hs.subset ht)
def ObR2 (f : Nat) : Prop := ∀ (W0 w : World) (g : Nat) (l : List Sy.Pg) (lv : Value) (cur : ByteArray) (d : Int) (ts : List Tk), PsR W0 w g l lv cur ts → WfT ts → TkS ts → TkN ts → PgB l → 0 ≤ d → d ≤ 300 → parF (symL l cur) numK f d ts ≠ .out →
 Calls Tryz.prog 37 #[.pointer (some ⟨g, 0, none⟩), .int .i64 d] w (OutER W0 w g l lv cur (parF (symL l cur) numK f d ts))
def LiR2 (f : Nat) : Prop := ∀ (W0 w : World) (g : Nat) (l : List Sy.Pg) (lv : Value) (cur : ByteArray) (d : Int) (ts : List Tk), PsR W0 w g l lv cur ts → WfT ts → TkS ts → TkN ts → PgB l → 0 ≤ d → d ≤ 300 → lisF (symL l cur) numK f d [] ts ≠ .out →
 Calls Tryz.prog 66 #[.pointer (some ⟨g, 0, none⟩), .int .i64 d] w (OutER W0 w g l lv cur (lisF (symL l cur) numK f d [] ts))
structure LX (W0 w wr : World) (g : Nat) (l : List Sy.Pg) (lv : Value) (cur : ByteArray) (d : Int) (f : Nat) (R : Pr) (N g6 : Nat) (v : Value) (xs : List (Ob × Value)) (ts : List Tk) (f' : Nat) : Prop where
 x : RX W0 w wr g l lv cur ts #[.int .i64 0, .string ⟨#[]⟩, .string ⟨#[]⟩, .string ⟨#[]⟩, .string ⟨#[]⟩, .string ⟨#[]⟩, .slice none 0 0] (.int .i64 0) (.int .i64 0)
 lt6 : w.heap.size + 1 < g6
 last : ObB wr g6 #[.int .i64 2, .string ⟨#[]⟩, .string ⟨#[]⟩, .string (BA lispB), .string (BA [110, 105, 108]), .string ⟨#[]⟩, .slice none 0 0]
 it : ItL (g6 + 1) wr v xs
 eq : lisF (symL l cur) numK f' d (fsts xs) ts = R
 wf : WfT ts
 ks : TkS ts
 kn : TkN ts
 hf : f' ≤ f
 len : xs.length + ts.length ≤ N
theorem LX.keep {W0 w wr w' : World} {g : Nat} {l : List Sy.Pg} {lv : Value} {cur : ByteArray} {d : Int} {f : Nat} {R : Pr} {N g6 : Nat} {v : Value} {xs : List (Ob × Value)} {ts : List Tk} {f' : Nat} (h : LX W0 w wr g l lv cur d f R N g6 v xs ts f') (hb : Below wr.heap.size wr w') : LX W0 w w' g l lv cur d f R N g6 v xs ts f' :=
 ⟨h.x.keep hb, h.lt6, h.last.keep hb, h.it.keep hb, h.eq, h.wf, h.ks, h.kn, h.hf, h.len⟩
structure L2 (W0 w wr : World) (g : Nat) (l : List Sy.Pg) (lv : Value) (cur : ByteArray) (r : List Tk) (os : List Ob) (gb g6 : Nat) (last : Ob) (j : Nat) (p x0 x1 x2 x3 x4 x5 : Value) : Prop where
 x : RX W0 w wr g l lv cur r #[.int .i64 0, .string ⟨#[]⟩, .string ⟨#[]⟩, .string ⟨#[]⟩, .string ⟨#[]⟩, .string ⟨#[]⟩, .slice none 0 0] (.int .i64 0) (.int .i64 0)
 lt6 : w.heap.size + 1 < g6
 gl : gb < wr.heap.size
 ne : gb ≠ g6
 obs : ObsAt wr (Ab g6 wr) gb 0 os
 hz : Val7 (consL (os.drop j) last) p x0 x1 x2 x3 x4 x5
 box : ObB wr g6 #[x0, x1, x2, x3, x4, x5, p]
 pr : Pair wr (Ab g6 wr) (consL (os.drop j) last) p
theorem RX.row {W0 w W : World} {g b : Nat} {l : List Sy.Pg} {lv : Value} {cur : ByteArray} {ts : List Tk} {x : Array Value} {u v : Value} (h : RX W0 w W g l lv cur ts x u v) (hb : w.heap.size + 1 < b) (cs : Array Value) : RX W0 w (W.setRow b cs) g l lv cur ts x u v :=
 ⟨h.hg, h.but.row (by omega) cs, (setRow_other _ _ _ _ (by omega)).trans h.o, h.e.row (by omega) cs, h.ps.row (by have := h.hg; omega) cs⟩
theorem RX.below {W0 w W W' : World} {g B : Nat} {l : List Sy.Pg} {lv : Value} {cur : ByteArray} {ts : List Tk} {x : Array Value} {u v : Value} (h : RX W0 w W g l lv cur ts x u v) (hb : Below B W W') (hB : w.heap.size + 1 < B) : RX W0 w W' g l lv cur ts x u v := by
 have hg := h.hg
 exact ⟨hg, ⟨hb.os.trans h.but.os, hb.tape.trans h.but.tape, hb.output.trans h.but.output, Nat.le_trans h.but.size hb.size, fun k hk hne => (hb.block k (by omega)).trans (h.but.block k hk hne)⟩, (hb.block w.heap.size (by omega)).trans h.o, (hb.block (w.heap.size + 1) hB).trans h.e, h.ps.below hb (by omega)⟩
theorem L2.step {W0 w wr w2 : World} {g : Nat} {l : List Sy.Pg} {lv : Value} {cur : ByteArray} {r : List Tk} {os : List Ob} {gb g6 : Nat} {last : Ob} {j : Nat} {p x0 x1 x2 x3 x4 x5 : Value} (h : L2 W0 w wr g l lv cur r os gb g6 last (j + 1) p x0 x1 x2 x3 x4 x5) (hj : j < os.length) (hb : Below wr.heap.size wr w2) {pp : Value}
 (hp : Pair w2 (Upto wr w2 (Ab g6 wr)) (.cons os[j] (consL (os.drop (j + 1)) last)) pp) :
 L2 W0 w (w2.setRow g6 (cellsO (.cons os[j] (consL (os.drop (j + 1)) last)) pp).toArray) g l lv cur r os gb g6 last j pp (.int .i64 4) (.string ⟨#[]⟩) (.string ⟨#[]⟩) (.string ⟨#[]⟩) (.string ⟨#[]⟩) (.string ⟨#[]⟩) := by
 have hs := hb.size
 have h6 := Sy.blk_ltY h.box
 have hgl := h.gl
 refine ⟨(h.x.keep hb).row h.lt6 _, h.lt6, by rw [setRow_size]; omega, h.ne, ?_, ?_, setRow_heap _ _ _ _ _ _ (h.box.keep hb), ?_⟩
 · refine h.obs.keep5 (fun b hb' => ⟨hb'.1, by rw [setRow_size]; have := hb'.2; omega⟩) (fun b hb' => (setRow_other _ _ _ _ (by have := hb'.1; omega)).trans (hb.block b hb'.2)) ((setRow_other _ _ _ _ h.ne).trans (hb.block gb h.gl))
 · rw [consL_drop hj]; rfl
 · rw [consL_drop hj]
   refine hp.keep (fun b hb' => ?_) (fun b hb' => setRow_other _ _ _ _ ?_)
   · show g6 < b ∧ b < _
     rw [setRow_size]
     rcases hb' with hb' | hb'
     · exact ⟨hb'.1, by have := hb'.2; omega⟩
     · exact ⟨by omega, hb'.2⟩
   · rcases hb' with hb' | hb'
     · have := hb'.1; omega
     · omega
theorem L2.start {W0 w W : World} {g : Nat} {l : List Sy.Pg} {lv : Value} {cur : ByteArray} {r : List Tk} {A : Option Addr} {n c : Nat} {xs : List (Ob × Value)} {last : Ob} {p x0 x1 x2 x3 x4 x5 : Value} {g6 : Nat} (hx : RX W0 w W g l lv cur r #[.int .i64 0, .string ⟨#[]⟩, .string ⟨#[]⟩, .string ⟨#[]⟩, .string ⟨#[]⟩, .string ⟨#[]⟩, .slice none 0 0] (.int .i64 0) (.int .i64 0)) (hi : ItL (g6 + 1) W (.slice A n c) xs)
 (h6 : w.heap.size + 1 < g6) (hb6 : ObB W g6 #[x0, x1, x2, x3, x4, x5, p]) (hz : Val7 last p x0 x1 x2 x3 x4 x5) (hp : Pair W (Ab g6 W) last p) (hn : xs.length = n) :
 ∃ gb, (0 < n → A = some ⟨gb, 0, none⟩) ∧ L2 W0 w W g l lv cur r (fsts xs) gb g6 last n p x0 x1 x2 x3 x4 x5 := by
 have hd : consL ((fsts xs).drop n) last = last := by rw [List.drop_eq_nil_of_le (by simp [fsts, hn])]; rfl
 have ho := own_lt hi.own
 rcases hi.own.2 with ⟨e, h0⟩ | ⟨gb, cap, cur', e, hb, hh, hn', _, hcs, hcur⟩
 · have hx0 : xs = [] := List.eq_nil_of_length_eq_zero h0
   subst hx0
   exact ⟨w.heap.size, fun h => by simp at hn; omega, hx, h6, Sy.blk_ltY hx.o, by omega, trivial, by rw [hd]; exact hz, hb6, by rw [hd]; exact hp⟩
 · injection e with e1 e2 e3
   subst e1
   refine ⟨gb, fun _ => rfl, hx, h6, Sy.blk_ltY hh, by omega, obsAt_row xs 0 (fun y hy => (hi.pairs y hy).more fun b hb => ⟨by have := hb.1; omega, hb.2.1⟩) fun j u hj => ?_, by rw [hd]; exact hz, hb6, by rw [hd]; exact hp⟩
   rw [Nat.zero_add, cell_of_row _ _ _ _ _ _ hh]
   rw [← hcur] at hj
   rw [List.getElem?_take] at hj
   split at hj
   · simpa using hj
   · cases hj
theorem nilR5 (w : World) : Calls Tryz.prog 41 #[] w (Sy.RetY w (.agg #[.int .i64 2, .string ⟨#[]⟩, .string ⟨#[]⟩, .string (BA lispB), .string (BA [110, 105, 108]), .string ⟨#[]⟩, .slice none 0 0])) := by
 refine (nilO w (fun _ => False)).mono ?_
 rintro e w' ⟨p, rfl, hp, hb⟩
 obtain rfl := hp.flat rfl
 exact ⟨rfl, hb⟩
def lfN (g : Nat) (w : World) : Nat := match w.cell? ⟨g, 2, none⟩, w.cell? ⟨g, 3, none⟩ with
 | some (.slice _ n _), some (.int _ j) => n - j.toNat
 | _, _ => 0
theorem PsR.lfN {W0 w : World} {g : Nat} {l : List Sy.Pg} {lv : Value} {cur : ByteArray} {ts : List Tk} (h : PsR W0 w g l lv cur ts) : lfN g w = ts.length := by
 obtain ⟨tv, T, j, h1, _, _, _, ⟨A, c, rfl, _⟩, rfl, _⟩ := h
 unfold Proofs.YtflnffgohbbhiaaGreatDoor.lfN
 rw [cell_of_row _ _ _ _ _ _ h1, cell_of_row _ _ _ _ _ _ h1, List.length_drop]
 rfl
end Go.Proofs.YtflnffgohbbhiaaGreatDoor
