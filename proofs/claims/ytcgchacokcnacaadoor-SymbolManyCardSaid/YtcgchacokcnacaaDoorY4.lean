/- Packages in memory; Find, imported. -/
import Derived.Test.YtcgchacokcnacaaDoorY3
import Derived.Laws.CopyOwn
namespace Go.Proofs.YtcgchacokcnacaaDoor
open Go Go.RowKit
set_option linter.unusedVariables false

/-- A symbol: its package's name and its own. -/
abbrev Sy := ByteArray × ByteArray
/-- A package: its name and its imports. -/
abbrev Pg := ByteArray × List Sy
def sv (s : Sy) : Value := .agg #[.string s.1, .string s.2]
/-- The value v is a slice of these symbols. -/
def SyV (w : World) (l : List Sy) (v : Value) : Prop := ∃ A c, v = .slice A l.length c ∧ l.length ≤ c ∧ c ≤ maxLen ∧
  (0 < l.length → ∃ b o, A = some ⟨b, o, none⟩ ∧ b < w.heap.size ∧ ∀ i (hi : i < l.length), w.cell? ⟨b, o + i * 2, none⟩ = some (.string l[i].1) ∧ w.cell? ⟨b, o + i * 2 + 1, none⟩ = some (.string l[i].2))
theorem SyV.keep {w w' : World} {l : List Sy} {v : Value} (h : SyV w l v) (hb : Below w.heap.size w w') : SyV w' l v := by
  obtain ⟨A, c, h1, h2, h3, h4⟩ := h
  refine ⟨A, c, h1, h2, h3, fun hl => ?_⟩
  obtain ⟨b, o, h5, h6, h7⟩ := h4 hl
  exact ⟨b, o, h5, Nat.lt_of_lt_of_le h6 hb.size, fun i hi => ⟨(hb.cell (p := ⟨b, _, none⟩) h6).trans (h7 i hi).1, (hb.cell (p := ⟨b, _, none⟩) h6).trans (h7 i hi).2⟩⟩
theorem SyV.nil (w : World) : SyV w [] (.slice none 0 0) := ⟨none, 0, rfl, Nat.le_refl _, Nat.zero_le _, fun h => by simp at h⟩
/-- The value v is a slice of these packages. -/
def PgV (w : World) (l : List Pg) (v : Value) : Prop := ∃ A c, v = .slice A l.length c ∧ l.length ≤ c ∧ c ≤ maxLen ∧
  (0 < l.length → ∃ b o, A = some ⟨b, o, none⟩ ∧ b < w.heap.size ∧ ∀ i (hi : i < l.length), w.cell? ⟨b, o + i * 2, none⟩ = some (.string l[i].1) ∧ ∃ u, w.cell? ⟨b, o + i * 2 + 1, none⟩ = some u ∧ SyV w l[i].2 u)
theorem PgV.keep {w w' : World} {l : List Pg} {v : Value} (h : PgV w l v) (hb : Below w.heap.size w w') : PgV w' l v := by
  obtain ⟨A, c, h1, h2, h3, h4⟩ := h
  refine ⟨A, c, h1, h2, h3, fun hl => ?_⟩
  obtain ⟨b, o, h5, h6, h7⟩ := h4 hl
  refine ⟨b, o, h5, Nat.lt_of_lt_of_le h6 hb.size, fun i hi => ?_⟩
  obtain ⟨k1, u, k2, k3⟩ := h7 i hi
  exact ⟨(hb.cell (p := ⟨b, _, none⟩) h6).trans k1, u, (hb.cell (p := ⟨b, _, none⟩) h6).trans k2, k3.keep hb⟩
theorem PgV.nil (w : World) : PgV w [] (.slice none 0 0) := ⟨none, 0, rfl, Nat.le_refl _, Nat.zero_le _, fun h => by simp at h⟩

/-- Block g is a box with these two cells. -/
def PB (W : World) (g : Nat) (x y : Value) : Prop := W.heap[g]? = some (.cells #[x, y] 26 (0, 0))
def SB (W : World) (g : Nat) (x y : Value) : Prop := W.heap[g]? = some (.cells #[x, y] 29 (0, 0))
theorem PB.lt {W : World} {g : Nat} {x y : Value} (h : PB W g x y) : g < W.heap.size := blk_ltY h
theorem PB.keep {W W' : World} {g : Nat} {x y : Value} (h : PB W g x y) (hb : Below W.heap.size W W') : PB W' g x y := (hb.block g h.lt).trans h
theorem PB.new (w : World) (x y : Value) : PB (w.alloc (.cells #[x, y] 26)) w.heap.size x y := heap_alloc_new w _
theorem PB.c0 {W : World} {g : Nat} {x y : Value} (h : PB W g x y) : W.cell? ⟨g, 0, none⟩ = some x := by rw [cell_of_row _ _ _ _ _ _ h]; rfl
theorem PB.c1 {W : World} {g : Nat} {x y : Value} (h : PB W g x y) : W.cell? ⟨g, 1, none⟩ = some y := by rw [cell_of_row _ _ _ _ _ _ h]; rfl
theorem PB.set {W : World} {g : Nat} {x y : Value} (h : PB W g x y) (u v : Value) : PB (W.setRow g #[u, v]) g u v := setRow_heap _ _ _ _ _ _ h
theorem PB.store {ops : Array Oper} {rest : List Oper} {o : Oper} {a : Act} {w : World} {Q : Exit → Act → World → Prop} (x y : Operand) (ho : o.op = .store 26 x y) (hgd : o.guard = none)
    (g : Nat) (u v u0 v0 : Value) (hx : a.eval x = .pointer (some ⟨g, 0, none⟩)) (hy : a.eval y = .agg #[u, v]) (hg : PB w g u0 v0) (h1 : u.oneCell' = true) (h2 : v.oneCell' = true)
    (h : wpList Tryd.prog ops Q rest (a.put o.dst undef) (w.setRow g #[u, v])) : wpList Tryd.prog ops Q (o :: rest) a w :=
  wpList_store_row hgd 26 x y ho g #[u, v] hx hy 26 #[u0, v0] hg (by kernel_rfl) rfl (by simp [h1, h2]) h
theorem PB.load {ops : Array Oper} {rest : List Oper} {o : Oper} {a : Act} {w : World} {Q : Exit → Act → World → Prop} (x : Operand) (ho : o.op = .load 26 x) (hgd : o.guard = none)
    {g : Nat} {u v : Value} (hx : a.eval x = .pointer (some ⟨g, 0, none⟩)) (hg : PB w g u v)
    (h : wpList Tryd.prog ops Q rest (a.put o.dst (.agg #[u, v])) w) : wpList Tryd.prog ops Q (o :: rest) a w :=
  wpList_load_row hgd 26 x ho g hx 26 #[u, v] (0, 0) _ hg Tryd.underlying26 rfl (by kernel_rfl) h
theorem SB.lt {W : World} {g : Nat} {x y : Value} (h : SB W g x y) : g < W.heap.size := blk_ltY h
theorem SB.keep {W W' : World} {g : Nat} {x y : Value} (h : SB W g x y) (hb : Below W.heap.size W W') : SB W' g x y := (hb.block g h.lt).trans h
theorem SB.new (w : World) (x y : Value) : SB (w.alloc (.cells #[x, y] 29)) w.heap.size x y := heap_alloc_new w _
theorem SB.c0 {W : World} {g : Nat} {x y : Value} (h : SB W g x y) : W.cell? ⟨g, 0, none⟩ = some x := by rw [cell_of_row _ _ _ _ _ _ h]; rfl
theorem SB.c1 {W : World} {g : Nat} {x y : Value} (h : SB W g x y) : W.cell? ⟨g, 1, none⟩ = some y := by rw [cell_of_row _ _ _ _ _ _ h]; rfl
theorem SB.set {W : World} {g : Nat} {x y : Value} (h : SB W g x y) (u v : Value) : SB (W.setRow g #[u, v]) g u v := setRow_heap _ _ _ _ _ _ h
theorem SB.store {ops : Array Oper} {rest : List Oper} {o : Oper} {a : Act} {w : World} {Q : Exit → Act → World → Prop} (x y : Operand) (ho : o.op = .store 29 x y) (hgd : o.guard = none)
    (g : Nat) (u v u0 v0 : Value) (hx : a.eval x = .pointer (some ⟨g, 0, none⟩)) (hy : a.eval y = .agg #[u, v]) (hg : SB w g u0 v0) (h1 : u.oneCell' = true) (h2 : v.oneCell' = true)
    (h : wpList Tryd.prog ops Q rest (a.put o.dst undef) (w.setRow g #[u, v])) : wpList Tryd.prog ops Q (o :: rest) a w :=
  wpList_store_row hgd 29 x y ho g #[u, v] hx hy 29 #[u0, v0] hg (by kernel_rfl) rfl (by simp [h1, h2]) h
theorem SB.load {ops : Array Oper} {rest : List Oper} {o : Oper} {a : Act} {w : World} {Q : Exit → Act → World → Prop} (x : Operand) (ho : o.op = .load 29 x) (hgd : o.guard = none)
    {g : Nat} {u v : Value} (hx : a.eval x = .pointer (some ⟨g, 0, none⟩)) (hg : SB w g u v)
    (h : wpList Tryd.prog ops Q rest (a.put o.dst (.agg #[u, v])) w) : wpList Tryd.prog ops Q (o :: rest) a w :=
  wpList_load_row hgd 29 x ho g hx 29 #[u, v] (0, 0) _ hg Tryd.underlying29 rfl (by kernel_rfl) h
/-- A result in a box and one in a slot. -/
theorem PB.run {w : World} {g : Nat} {x y : Value} (hg : PB w g x y) : (loadVar 26 ⟨g, 0, none⟩).run Tryd.prog w = .ok (.agg #[x, y]) w :=
  run_loadVar_row w g 26 26 #[x, y] (0, 0) _ hg Tryd.underlying26 rfl (by kernel_rfl)
theorem retPB {fn : Func} {r0 r1 : Tmp} {tmps : Array Value} {w : World} {g : Nat} {u v x : Value} {Q : Ending → World → Prop} (h : fn.results = #[.cell r0 26, .tmp r1]) (h0 : tmps.getD r0 undef = .pointer (some ⟨g, 0, none⟩)) (h1 : tmps.getD r1 undef = x)
    (hg : PB w g u v) (hQ : Q (.returned (.tuple #[.agg #[u, v], x])) w) : bodyPost Tryd.prog fn Q Exit.ret ⟨tmps, []⟩ w := by
  subst h1
  have h0' : tmps[r0]?.getD undef = .pointer (some ⟨g, 0, none⟩) := by simpa using h0
  exact bodyPost_ret (v := .tuple #[.agg #[u, v], tmps.getD r1 undef]) (by simp [results, h, h0', asAddr, hg.run]) rfl hQ
theorem SB.run {w : World} {g : Nat} {x y : Value} (hg : SB w g x y) : (loadVar 29 ⟨g, 0, none⟩).run Tryd.prog w = .ok (.agg #[x, y]) w :=
  run_loadVar_row w g 29 29 #[x, y] (0, 0) _ hg Tryd.underlying29 rfl (by kernel_rfl)
theorem retSB {fn : Func} {r0 r1 : Tmp} {tmps : Array Value} {w : World} {g : Nat} {u v x : Value} {Q : Ending → World → Prop} (h : fn.results = #[.cell r0 29, .tmp r1]) (h0 : tmps.getD r0 undef = .pointer (some ⟨g, 0, none⟩)) (h1 : tmps.getD r1 undef = x)
    (hg : SB w g u v) (hQ : Q (.returned (.tuple #[.agg #[u, v], x])) w) : bodyPost Tryd.prog fn Q Exit.ret ⟨tmps, []⟩ w := by
  subst h1
  have h0' : tmps[r0]?.getD undef = .pointer (some ⟨g, 0, none⟩) := by simpa using h0
  exact bodyPost_ret (v := .tuple #[.agg #[u, v], tmps.getD r1 undef]) (by simp [results, h, h0', asAddr, hg.run]) rfl hQ

/-- The first package of this name; the first import. -/
def findM : List Pg → ByteArray → Option Pg
  | [], _ => none
  | p :: r, n => if (p.1.toList == n.toList) = true then some p else findM r n
def impM : List Sy → ByteArray → Option Sy
  | [], _ => none
  | s :: r, n => if (s.2.toList == n.toList) = true then some s else impM r n
theorem findM_drop {l : List Pg} {i : Nat} (hi : i < l.length) (n : ByteArray) : findM (l.drop i) n = if (l[i].1.toList == n.toList) = true then some l[i] else findM (l.drop (i + 1)) n := by rw [List.drop_eq_getElem_cons hi]; rfl
theorem impM_drop {l : List Sy} {i : Nat} (hi : i < l.length) (n : ByteArray) : impM (l.drop i) n = if (l[i].2.toList == n.toList) = true then some l[i] else impM (l.drop (i + 1)) n := by rw [List.drop_eq_getElem_cons hi]; rfl
def e0Y : ByteArray := ⟨#[]⟩
/-- The call returned a package, or nothing. -/
def RetF (w : World) (m : Option Pg) (e : Ending) (w' : World) : Prop := match m with
  | some p => ∃ u, e = .returned (.tuple #[.agg #[.string p.1, u], .bool true]) ∧ SyV w' p.2 u ∧ Below w.heap.size w w'
  | none => e = .returned (.tuple #[.agg #[.string ⟨#[]⟩, .slice none 0 0], .bool false]) ∧ Below w.heap.size w w'
def RetS (w : World) (m : Option Sy) (e : Ending) (w' : World) : Prop := match m with
  | some s => e = .returned (.tuple #[.agg #[.string s.1, .string s.2], .bool true]) ∧ Below w.heap.size w w'
  | none => e = .returned (.tuple #[.agg #[.string ⟨#[]⟩, .string ⟨#[]⟩], .bool false]) ∧ Below w.heap.size w w'
def FinW (w W wr : World) (g : Nat) (l : List Pg) (n : ByteArray) (i : Nat) (R : Option Pg) : Prop := findM (l.drop i) n = R ∧ Below w.heap.size w wr ∧ PB wr g (.string ⟨#[]⟩) (.slice none 0 0)
def ImpW (w W wr : World) (g : Nat) (l : List Sy) (n : ByteArray) (i : Nat) (R : Option Sy) : Prop := impM (l.drop i) n = R ∧ Below w.heap.size w wr ∧ SB wr g (.string ⟨#[]⟩) (.string ⟨#[]⟩)
set_option maxHeartbeats 4000000 in
set_option maxRecDepth 100000 in
theorem findY (l : List Pg) (v : Value) (n : ByteArray) (w : World) (hv : PgV w l v) (hl : l.length ≤ 1000000) : Calls Tryd.prog 13 #[v, .string n] w (RetF w (findM l n)) := by
  obtain ⟨A, c, rfl, hlc, hcm, hA⟩ := hv
  have HA := Lib.hid hA
  clear hA
  obtain ⟨L, hL⟩ : ∃ L, l.length = L := ⟨_, rfl⟩
  rw [hL] at hl hlc ⊢
  have HL := Lib.hid hL
  clear hL
  obtain ⟨R, hR⟩ : ∃ R, findM l n = R := ⟨_, rfl⟩
  rw [hR]
  have T := PB.new w (.string ⟨#[]⟩) (.slice none 0 0)
  have H0 : Hid (FinW w w (w.alloc (.cells #[.string ⟨#[]⟩, .slice none 0 0] 26)) w.heap.size l n 0 R) := ⟨by rw [List.drop_zero]; exact hR, Below.alloc (Below.refl _ _) (Nat.le_refl _) _, T⟩
  clear hR T
  go_enter Tryd.func13, Tryd.ntmps13
  go_wp2_with fail
  generalize w.alloc (.cells #[.string ⟨#[]⟩, .slice none 0 0] 26) = W0 at H0 ⊢
  go_loopw [10] (fun v wr => ∃ (i : Nat), i ≤ L ∧ v = .int .i64 i ∧ Hid (FinW w W0 wr w.heap.size l n i R)) (fun v _ => L - (intOf v).toNat)
  case atStart => exact ⟨0, Nat.zero_le _, rfl, H0⟩
  case round =>
    obtain ⟨i, hi, rfl, hE⟩ := hrel
    obtain ⟨wo, rfl⟩ : ∃ wo : World, wo = wr := ⟨_, rfl⟩
    obtain ⟨hf, hb, hg⟩ := hE.out
    clear hE H0
    have HG := Lib.hid hg
    have HB := Lib.hid hb
    have HF := Lib.hid hf
    clear hg hb hf
    by_cases hiL : i < L
    · have hil : i < l.length := by rw [HL.out]; exact hiL
      obtain ⟨b, o, rfl, hbw, hcell⟩ := HA.out (by omega)
      obtain ⟨k0, u, k1, hu⟩ := hcell i hil
      have step := findM_drop hil n
      have HS := Lib.hid hu
      obtain ⟨A1, c1, rfl, _, _, _⟩ := hu
      have l0 := (HB.out.cell (p := ⟨b, o + i * 2, none⟩) hbw).trans k0
      have l1 := (HB.out.cell (p := ⟨b, o + i * 2 + 1, none⟩) hbw).trans k1
      clear k0 k1 hcell
      rw [HF.out] at step
      cases hq : (l[i].1.toList == n.toList) with
      | true =>
        rw [hq, if_pos rfl] at step
        subst step
        generalize hp : l[i].2 = p2 at HS l1
        have HP := Lib.hid hp
        clear hp HF
        generalize hp1 : l[i].1 = p1 at l0 hq
        have HP1 := Lib.hid hp1
        clear hp1
        go_wp2_with ((with_reducible refine PB.store (.tmp 4) (.tmp 18) ?_ ?_ w.heap.size (.string p1) (.slice A1 p2.length c1) (.string ⟨#[]⟩) (.slice none 0 0) ?_ ?_ ?_ ?_ ?_ ?_); rfl; rfl; rfl; rfl; exact HG.out.keep (Below.alloc (Below.refl _ _) (Nat.le_refl _) _); rfl; rfl)
        refine retPB rfl rfl rfl ((HG.out.keep (Below.alloc (Below.refl _ _) (Nat.le_refl _) _)).set _ _) ?_
        have hx : Below w.heap.size w (wo.alloc (.cells #[.string p1, .slice A1 p2.length c1] 26)) := chainY HB.out (Below.alloc (Below.refl _ _) (Nat.le_refl _) _) (Nat.le_refl _)
        have hy := below_setRow hx (Nat.le_refl _) #[.string p1, .slice A1 p2.length c1]
        exact ⟨_, by rw [HP1.out]; rfl, by rw [HP.out]; exact HS.out.keep hy, hy⟩
      | false =>
        rw [hq, if_neg (by simp)] at step
        replace step := Lib.hid step
        generalize l[i].1 = p1 at l0 hq
        generalize l[i].2 = p2 at HS l1
        go_wp2_with fail
        go_roundw
        case rel => exact ⟨i + 1, by omega, by go_num, ⟨step.out.symm, chainY HB.out (Below.alloc (Below.refl _ _) (Nat.le_refl _) _) (Nat.le_refl _), HG.out.keep (Below.alloc (Below.refl _ _) (Nat.le_refl _) _)⟩⟩
        case measure => simp [intOf]; omega
    · have hiE : i = L := by omega
      have hr : Hid (R = none) := by
        show _ = _
        rw [← HF.out, List.drop_eq_nil_of_le (by rw [HL.out]; omega)]
        rfl
      clear HF
      go_wp2_with ((with_reducible refine PB.store (.tmp 4) (.tmp 20) ?_ ?_ w.heap.size (.string ⟨#[]⟩) (.slice none 0 0) (.string ⟨#[]⟩) (.slice none 0 0) ?_ ?_ HG.out ?_ ?_ ?_); rfl; rfl; rfl; rfl; rfl; rfl)
      refine retPB rfl rfl rfl (HG.out.set _ _) ?_
      rw [hr.out]
      exact ⟨rfl, below_setRow HB.out (Nat.le_refl _) _⟩
set_option maxHeartbeats 4000000 in
set_option maxRecDepth 100000 in
theorem importedY (l : List Sy) (v : Value) (n : ByteArray) (w : World) (hv : SyV w l v) (hl : l.length ≤ 1000000) : Calls Tryd.prog 14 #[v, .string n] w (RetS w (impM l n)) := by
  obtain ⟨A, c, rfl, hlc, hcm, hA⟩ := hv
  have HA := Lib.hid hA
  clear hA
  obtain ⟨L, hL⟩ : ∃ L, l.length = L := ⟨_, rfl⟩
  rw [hL] at hl hlc ⊢
  have HL := Lib.hid hL
  clear hL
  obtain ⟨R, hR⟩ : ∃ R, impM l n = R := ⟨_, rfl⟩
  rw [hR]
  have T := SB.new w (.string ⟨#[]⟩) (.string ⟨#[]⟩)
  have H0 : Hid (ImpW w w (w.alloc (.cells #[.string ⟨#[]⟩, .string ⟨#[]⟩] 29)) w.heap.size l n 0 R) := ⟨by rw [List.drop_zero]; exact hR, Below.alloc (Below.refl _ _) (Nat.le_refl _) _, T⟩
  clear hR T
  go_enter Tryd.func14, Tryd.ntmps14
  go_wp2_with fail
  generalize w.alloc (.cells #[.string ⟨#[]⟩, .string ⟨#[]⟩] 29) = W0 at H0 ⊢
  go_loopw [10] (fun v wr => ∃ (i : Nat), i ≤ L ∧ v = .int .i64 i ∧ Hid (ImpW w W0 wr w.heap.size l n i R)) (fun v _ => L - (intOf v).toNat)
  case atStart => exact ⟨0, Nat.zero_le _, rfl, H0⟩
  case round =>
    obtain ⟨i, hi, rfl, hE⟩ := hrel
    obtain ⟨wo, rfl⟩ : ∃ wo : World, wo = wr := ⟨_, rfl⟩
    obtain ⟨hf, hb, hg⟩ := hE.out
    clear hE H0
    have HG := Lib.hid hg
    have HB := Lib.hid hb
    have HF := Lib.hid hf
    clear hg hb hf
    by_cases hiL : i < L
    · have hil : i < l.length := by rw [HL.out]; exact hiL
      obtain ⟨b, o, rfl, hbw, hcell⟩ := HA.out (by omega)
      obtain ⟨k0, k1⟩ := hcell i hil
      have step := impM_drop hil n
      have l0 := (HB.out.cell (p := ⟨b, o + i * 2, none⟩) hbw).trans k0
      have l1 := (HB.out.cell (p := ⟨b, o + i * 2 + 1, none⟩) hbw).trans k1
      clear k0 k1 hcell
      rw [HF.out] at step
      cases hq : (l[i].2.toList == n.toList) with
      | true =>
        rw [hq, if_pos rfl] at step
        subst step
        clear HF
        generalize hp : l[i].2 = p2 at l1 hq
        have HP := Lib.hid hp
        generalize hp1 : l[i].1 = p1 at l0
        have HP1 := Lib.hid hp1
        clear hp1 hp
        go_wp2_with ((with_reducible refine SB.store (.tmp 4) (.tmp 18) ?_ ?_ w.heap.size (.string p1) (.string p2) (.string ⟨#[]⟩) (.string ⟨#[]⟩) ?_ ?_ ?_ ?_ ?_ ?_); rfl; rfl; rfl; rfl; exact HG.out.keep (Below.alloc (Below.refl _ _) (Nat.le_refl _) _); rfl; rfl)
        refine retSB rfl rfl rfl ((HG.out.keep (Below.alloc (Below.refl _ _) (Nat.le_refl _) _)).set _ _) ?_
        have hx : Below w.heap.size w (wo.alloc (.cells #[.string p1, .string p2] 29)) := chainY HB.out (Below.alloc (Below.refl _ _) (Nat.le_refl _) _) (Nat.le_refl _)
        have hy := below_setRow hx (Nat.le_refl _) #[.string p1, .string p2]
        exact ⟨by rw [HP1.out, HP.out]; rfl, hy⟩
      | false =>
        rw [hq, if_neg (by simp)] at step
        replace step := Lib.hid step
        generalize l[i].2 = p2 at l1 hq
        generalize l[i].1 = p1 at l0
        go_wp2_with fail
        go_roundw
        case rel => exact ⟨i + 1, by omega, by go_num, ⟨step.out.symm, chainY HB.out (Below.alloc (Below.refl _ _) (Nat.le_refl _) _) (Nat.le_refl _), HG.out.keep (Below.alloc (Below.refl _ _) (Nat.le_refl _) _)⟩⟩
        case measure => simp [intOf]; omega
    · have hiE : i = L := by omega
      have hr : Hid (R = none) := by
        show _ = _
        rw [← HF.out, List.drop_eq_nil_of_le (by rw [HL.out]; omega)]
        rfl
      clear HF
      go_wp2_with ((with_reducible refine SB.store (.tmp 4) (.tmp 20) ?_ ?_ w.heap.size (.string ⟨#[]⟩) (.string ⟨#[]⟩) (.string ⟨#[]⟩) (.string ⟨#[]⟩) ?_ ?_ HG.out ?_ ?_ ?_); rfl; rfl; rfl; rfl; rfl; rfl)
      refine retSB rfl rfl rfl (HG.out.set _ _) ?_
      rw [hr.out]
      exact ⟨rfl, below_setRow HB.out (Nat.le_refl _) _⟩
end Go.Proofs.YtcgchacokcnacaaDoor
