/- K32 anew: the names short, the numbers small. -/
import Derived.Test.YtinjhnnpbejccaaGreatDoorG19
import Derived.Test.YtinjhnnpbejccaaGreatDoorG24
import Derived.Test.YtinjhnnpbejccaaGreatDoorG30
namespace Go.Proofs.YtinjhnnpbejccaaGreatDoor
open Go Go.RowKit
set_option linter.unusedVariables false
set_option maxHeartbeats 32000000
set_option maxRecDepth 100000
def RetSeqq {w0 : World} {S : Nat → Prop} (J Jx : List (Spotq w0 S) → World → Prop) (L : List Tm) (e : Ending) (W' : World) : Prop := (∃ v, e = .returned v) ∧ ((∃ xs : List (Spotq w0 S), xs.map Spotq.tm = L ∧ J xs W') ∨ (∃ pre : List (Spotq w0 S), pre.map Spotq.tm <+: L ∧ Jx pre W'))
theorem subterms1q {w0 : World} {S M : Nat → Prop} {B0 l N : Nat} {J Jx : List (Spotq w0 S) → World → Prop} (C : ItCq w0 S M B0 l N J Jx) (ts : List Tm) (A : Option Addr) (c Bl : Nat) (hbl : w0.heap[Bl]? = some (.cells #[.slice A ts.length c] 30 (0, 0))) (hB0 : Bl < B0 ∧ ¬ M Bl)
 (ha : ArgsAt w0 S ts A c) (hsh : ∀ u ∈ subsTs ts, NmOkq u) (hn : ∀ x ∈ ts, x.nodes ≤ 3000) (hl : ts.length ≤ 3000) (W : World) (hk : KeepC B0 M w0 W) (hJ : J [] W) (hN : (subsTs ts).length ≤ N) :
 Calls Tryz.prog 100 #[.func (.yield l) #[] #[], .pointer (some ⟨Bl, 0, none⟩)] W (RetSeqq J Jx (subsTs ts)) := by
 have HBL : Hid (∀ X, KeepC B0 M w0 X → X.heap[Bl]? = some (.cells #[.slice A ts.length c] 30 (0, 0))) := fun X hX => (hX.old C.hB hB0.1 hB0.2).trans hbl
 have HLC0 : Hid (ts.length ≤ c) := ha.1
 have HAA := hI ha
 have HI : Hid (∀ i (hi : i < ts.length), ∀ (b k : Nat) (cs : List Value) (pre : List (Spotq w0 S)) (W : World), TmP w0 S ts[i] b k cs → KeepC B0 M w0 W → J pre W → pre.length + (subsT ts[i]).length ≤ N → Calls Tryz.prog 102 #[.pointer none, .pointer (some ⟨b, k, none⟩), .func (.yield l) #[] #[]] W (RetVq B0 M J Jx pre (subsT ts[i]) W)) := fun i hi b k cs pre W h1 h2 h3 h4 => visitTq C ts[i] b k cs pre W h1 (fun u hu => hsh u (subsTs_mem (List.getElem_mem hi) hu)) (hn _ (List.getElem_mem hi)) h2 h3 h4
 have HNN : Hid (∀ i (hi : i < ts.length), ts[i].nodes ≤ 3000) := fun i hi => hn _ (List.getElem_mem hi)
 have HC := hI C
 have HK := hI hk
 have HN := hI hN
 have h0 : Hid (V1Wq B0 M J [] ts 0 W W) := ⟨[], by rw [List.drop_zero]; rfl, hJ, KeepC.refl W⟩
 have cT := cell1 (HBL.out W hk)
 obtain ⟨L, hL⟩ : ∃ L, ts.length = L := ⟨_, rfl⟩
 have HL := hI hL
 rw [hL] at hl HLC0 cT HBL
 have hLc := HLC0.out
 clear C hk hJ hN ha hL hbl hB0 hn hsh
 go_enter Tryz.func100, Tryz.ntmps100
 go_wp2_with fail
 go_loopw [7] (fun v wr => ∃ (i : Nat), i ≤ L ∧ v = .int .i64 (i : Int) ∧ Hid (V1Wq B0 M J [] ts i W wr)) (fun v _ => L - (intOf v).toNat)
 case atStart => exact ⟨0, Nat.zero_le _, rfl, h0⟩
 case round =>
  clear h0 cT
  obtain ⟨i, hiL, rfl, hE⟩ := hrel
  obtain ⟨wo, rfl⟩ : ∃ wo : World, wo = wr := ⟨_, rfl⟩
  obtain ⟨xs, hxs, hJx, hkx⟩ := hE.out
  have hk0 := HK.out.trans hkx
  by_cases hlt : i < L
  · have hil : i < ts.length := by rw [HL.out]; exact hlt
    obtain ⟨b1, o1, cs1, rfl, hP1⟩ := HAA.out.arg hil
    have c1 := cell1 (HBL.out wo hk0)
    have hPo := HC.out.tmP hk0 hP1
    have MFC := hI (memForB true ts[i] b1 _ cs1 wo (hPo.more fun q hq => Nat.lt_of_lt_of_le (Nat.lt_of_lt_of_le (HC.out.hS q hq).1 HC.out.hB) hk0.size) (HNN.out i hil))
    have hdr := subsTs_drop hil
    rw [hdr] at hxs
    have hNi : xs.length + (subsT ts[i]).length ≤ N := by
     have h1 := congrArg List.length hxs
     have h2 := HN.out
     simp only [List.length_append, List.length_map] at h1 ⊢
     omega
    have CALL : Hid (∀ X, Below wo.heap.size wo X → Calls Tryz.prog 102 #[.pointer none, .pointer (some ⟨b1, o1 + i * 11, none⟩), .func (.yield l) #[] #[]] X (RetVq B0 M J Jx xs (subsT ts[i]) X)) := fun X hX =>
     HI.out i hil b1 _ cs1 xs X hP1 (hk0.trans (KeepC.of_below hX)) (HC.out.jb _ _ _ hJx hX) hNi
    have HXS := hI hxs
    have HKX := hI hkx
    have HK0 := hI hk0
    obtain ⟨u, hu⟩ : ∃ u, subsT ts[i] = u := ⟨_, rfl⟩
    rw [hu] at HXS CALL
    clear hE hxs hJx hkx hk0 hP1 hdr hNi hu hPo
    go_wp2_with fail
    refine MFC.out.mono ?_
    rintro e w3 ⟨rfl, hb3⟩
    have c3 := cell1 (HBL.out w3 (HK0.out.trans (KeepC.of_below hb3)))
    have CALL2 := hI (CALL.out w3 hb3)
    have HKB : Hid (KeepC B0 M wo w3) := KeepC.of_below hb3
    clear hb3 c1 CALL MFC
    go_wp2_with fail
    refine CALL2.out.mono ?_
    rintro e w5 ⟨r, rfl, (⟨rfl, ys, h1, h2, h3⟩ | ⟨rfl, ys, h1, h2⟩)⟩
    · have HE : Hid (V1Wq B0 M J [] ts (i + 1) W w5) := ⟨xs ++ ys, by rw [List.map_append, h1, List.append_assoc]; exact HXS.out, h2, (HKX.out.trans HKB.out).trans h3⟩
      clear h1 h2 h3 CALL2 c3
      go_wp2_with fail
      go_roundw
      case rel => exact ⟨i + 1, by omega, by go_num, HE⟩
      case measure => simp [intOf]; omega
    · have HE : Hid (∀ v, RetSeqq J Jx (subsTs ts) (.returned v) w5) := fun v => ⟨⟨_, rfl⟩, .inr ⟨xs ++ ys, by rw [List.map_append, ← HXS.out]; exact (List.prefix_append_right_inj _).2 (h1.trans (List.prefix_append _ _)), h2⟩⟩
      clear h1 h2 CALL2 c3
      go_wp2_with fail
      refine bodyPost_ret (results_none rfl _ _ _) rfl ?_
      exact HE.out _
  · have hiL2 : i = L := by omega
    have hn : ¬ (i : Int) < L := by omega
    have HE : Hid (∀ v, RetSeqq J Jx (subsTs ts) (.returned v) wo) := fun v => ⟨⟨_, rfl⟩, .inl ⟨xs, by
     rw [hiL2, ← HL.out, List.drop_length] at hxs
     unfold subsTs at hxs
     rw [List.append_nil] at hxs
     rw [hxs]
     cases ts <;> rfl, hJx⟩⟩
    clear hE hiL2 hlt hxs hJx hkx hk0
    go_wp2
    first | go_end0 | refine bodyPost_ret (results_none rfl _ _ _) rfl ?_
    exact HE.out _
theorem subStopsq (n : Nat) (w0 : World) (S M : Nat → Prop) (B0 : Nat) (hS : ∀ b, S b → b < B0 ∧ ¬ M b) (hB : B0 ≤ w0.heap.size) (hM : ∀ b, M b → b < B0) (ts : List Tm) (A : Option Addr) (c Bl : Nat) (hbl : w0.heap[Bl]? = some (.cells #[.slice A ts.length c] 30 (0, 0))) (hB0 : Bl < B0 ∧ ¬ M Bl)
 (ha : ArgsAt w0 S ts A c) (hsh : ∀ u ∈ subsTs ts, NmOkq u) (hn : ∀ x ∈ ts, x.nodes ≤ 3000) (hl : ts.length ≤ 3000) :
 SeqStopsK Fence.wide n Tryz.prog 100 #[.pointer (some ⟨Bl, 0, none⟩)] (fun x : Spotq w0 S => #[.pointer (some ⟨x.1.1, x.1.2.1, none⟩)]) (KeepC B0 M) (fun xs => xs.map Spotq.tm = subsTs ts) (fun pre => pre.map Spotq.tm <+: subsTs ts) (subsTs ts).length w0 := by
 intro l J Jx W hW hJ hJx hY h0
 refine callsIn_wide.2 ?_
 have C : ItCq w0 S M B0 l (subsTs ts).length J Jx := ⟨hS, hB, hM, fun pre W1 W2 h hb => hJ _ _ _ none h ⟨hb.os, hb.tape, hb.output, hb.size, fun k hk _ => hb.block k hk⟩ (fun r e => by cases e), fun pre W1 W2 h hb => hJx _ _ _ none h ⟨hb.os, hb.tape, hb.output, hb.size, fun k hk _ => hb.block k hk⟩ (fun r e => by cases e), fun m pre x W h hl => yieldAny (hY pre x W h hl)⟩
 exact subterms1q C ts A c Bl hbl hB0 ha hsh hn hl W (KeepC.of_below hW) h0 (Nat.le_refl _)
end Go.Proofs.YtinjhnnpbejccaaGreatDoor
