/- The reference's parser: lists, the walk. -/
import Derived.Test.YtflnffgohbbhiaaGreatDoorG30
import Derived.BigQuiet
namespace Go.Proofs.YtflnffgohbbhiaaGreatDoor
open Go Go.RowKit
set_option linter.unusedVariables false
theorem below_drN5 (w : World) (n : Nat) : Below w.heap.size w (w.drewN n) := ⟨rfl, rfl, rfl, Nat.le_refl _, fun _ _ => rfl⟩
theorem ItL.rowX {B g6 : Nat} {w : World} {v : Value} {xs : List (Ob × Value)} (h : ItL B w v xs) (hg : g6 < B) (cs : Array Value) : ItL B (w.setRow g6 cs) v xs :=
 h.move (Nat.le_of_eq (setRow_size _ _ _).symm) fun k hk _ => setRow_other _ _ _ _ (by omega)
theorem par_code {sym : Tk → (List UInt8 × List UInt8) × Int} {num : Tk → Rat} : ∀ {f : Nat} {d : Int} {ts : List Tk} {x q : Int}, parF sym num f d ts = .bad x q → x ≠ 0 := by
 intro f
 have key : ∀ f, (∀ (d : Int) (ts : List Tk) (x q : Int), parF sym num f d ts = .bad x q → x ≠ 0) ∧ (∀ (d : Int) (acc : List Ob) (ts : List Tk) (x q : Int), lisF sym num f d acc ts = .bad x q → x ≠ 0) := by
  intro f
  induction f with
  | zero => exact ⟨fun d ts x q e => (by unfold parF at e; cases e), fun d acc ts x q e => (by unfold lisF at e; cases e)⟩
  | succ f ih =>
   obtain ⟨ih1, ih2⟩ := ih
   constructor
   · intro d ts x q e
     cases ts with
     | nil => unfold parF at e; cases e
     | cons t ts =>
      rw [parF] at e
      split at e
      · injection e with e; omega
      split at e
      · cases e
      split at e
      · split at e
        · cases e
        · rename_i hs; injection e with e; subst e; exact hs
      split at e
      · cases e
      split at e
      · injection e with e; omega
      split at e
      · injection e with e; omega
      split at e
      · cases hp : parF sym num f (d + 1) ts with
        | ok o' r' => rw [hp] at e; cases e
        | bad x' q' => rw [hp] at e; injection e with e1 e2; subst e1; exact ih1 _ _ _ _ hp
        | out => rw [hp] at e; cases e
      · exact ih2 _ _ _ _ _ e
   · intro d acc ts x q e
     cases ts with
     | nil => unfold lisF at e; cases e
     | cons t ts =>
      rw [lisF] at e
      split at e
      · cases e
      split at e
      · cases hp : parF sym num f d ts with
        | ok o' r' =>
         rw [hp] at e
         cases r' with
         | nil => cases e
         | cons u r' =>
          by_cases hu : u.k = 2
          · simp only [if_pos hu] at e; cases e
          · simp only [if_neg hu] at e
            split at e <;> (injection e with e; omega)
        | bad x' q' => rw [hp] at e; injection e with e1 e2; subst e1; exact ih1 _ _ _ _ hp
        | out => rw [hp] at e; cases e
      · cases hp : parF sym num f d (t :: ts) with
        | ok o' r' => rw [hp] at e; exact ih2 _ _ _ _ _ e
        | bad x' q' => rw [hp] at e; injection e with e1 e2; subst e1; exact ih1 _ _ _ _ hp
        | out => rw [hp] at e; cases e
 exact fun {d ts x q} e => (key f).1 d ts x q e
set_option maxHeartbeats 8000000 in
set_option maxRecDepth 100000 in
theorem listR5 (f : Nat) (HO : ∀ f', f' < f → ObR2 f') : LiR2 f := by
 intro W0 w g l lv cur d ts h hw hk hkn hpb hd0 hd3 hout
 obtain ⟨R, hR⟩ : ∃ R, lisF (symL l cur) numK f d [] ts = R := ⟨_, rfl⟩
 rw [hR] at hout ⊢
 have HX := Lib.hid (RX.new h)
 have HRO := Lib.hid hout
 have HRQ := Lib.hid hR
 have HWF := Lib.hid (And.intro hw (And.intro hk hkn))
 have HNLE := Lib.hid hk.1
 have HHO := Lib.hid HO
 have HPB := Lib.hid hpb
 have HG := Lib.hid h.lt
 have HD := Lib.hid (And.intro hd0 hd3)
 clear h hw hk hkn hpb hout hR HO hd0 hd3
 go_enter Tryz.func66, Tryz.ntmps66
 go_upto_region 1 with fail
 generalize ((w.alloc (.cells #[.int .i64 0, .string ⟨#[]⟩, .string ⟨#[]⟩, .string ⟨#[]⟩, .string ⟨#[]⟩, .string ⟨#[]⟩, .slice none 0 0] 47)).alloc (.cells #[.int .i64 0, .int .i64 0] 26)) = W1 at HX ⊢
 go_wp2_with fail
 refine (nilR5 _).mono ?_
 rintro e w2 ⟨rfl, hb⟩
 have hal : Below w2.heap.size w2 (w2.alloc (.cells #[.int .i64 2, .string ⟨#[]⟩, .string ⟨#[]⟩, .string (BA lispB), .string (BA [110, 105, 108]), .string ⟨#[]⟩, .slice none 0 0] 47)) := Below.alloc (Below.refl _ _) (Nat.le_refl _) _
 have HLA : Hid (ObB (w2.alloc (.cells #[.int .i64 2, .string ⟨#[]⟩, .string ⟨#[]⟩, .string (BA lispB), .string (BA [110, 105, 108]), .string ⟨#[]⟩, .slice none 0 0] 47)) w2.heap.size #[.int .i64 2, .string ⟨#[]⟩, .string ⟨#[]⟩, .string (BA lispB), .string (BA [110, 105, 108]), .string ⟨#[]⟩, .slice none 0 0]) := heap_alloc_new _ _
 have H6 : Hid (w.heap.size + 1 < w2.heap.size) := Nat.lt_of_lt_of_le HX.out.e.lt hb.size
 replace HX := Lib.hid ((HX.out.keep hb).keep hal)
 clear hb hal
 go_upto_region 3 with fail
 generalize w2.alloc (.cells #[.int .i64 2, .string ⟨#[]⟩, .string ⟨#[]⟩, .string (BA lispB), .string (BA [110, 105, 108]), .string ⟨#[]⟩, .slice none 0 0] 47) = W2 at HX HLA ⊢
 generalize w2.heap.size = g6 at HLA H6 ⊢
 have H0 : Hid (LX W0 w W2 g l lv cur d f R ts.length g6 (.slice none 0 0) [] ts f) := ⟨HX.out, H6.out, HLA.out, ItL.start _ _, HRQ.out, HWF.out.1, HWF.out.2.1, HWF.out.2.2, Nat.le_refl _, by simp⟩
 obtain ⟨N, hNN⟩ : ∃ N, ts.length = N := ⟨_, rfl⟩
 have HN : Hid (N ≤ 10000) := by rw [← hNN]; exact HNLE.out
 rw [hNN] at H0
 clear HX HLA HRQ HNLE hNN
 go_loopw [6] (fun v wr => ∃ (xs : List (Ob × Value)) (t : Tk) (r : List Tk) (f' : Nat) (sl : Value), sl = v ∧ Hid (LX W0 w wr g l lv cur d f R N g6 sl xs (t :: r) f')) (fun _ wr => lfN g wr)
 case atStart =>
  cases ts with
  | nil => exact absurd rfl H0.out.wf.ne
  | cons t r => exact ⟨[], t, r, f, _, rfl, H0⟩
 case round =>
  clear H0 HWF
  obtain ⟨xs, t, r, f', sl, rfl, HE⟩ := hrel
  obtain ⟨wo, rfl⟩ : ∃ wo : World, wo = wr := ⟨_, rfl⟩
  have HM := Lib.hid HE.out.x.ps.lfN
  obtain ⟨f2, hf2⟩ := lis_some HE.out.eq HRO.out
  subst hf2
  obtain ⟨tk, tp, tq, tt, td⟩ := t
  obtain ⟨A, cc, hsl⟩ := HE.out.it.lenv
  obtain ⟨n, hn⟩ : ∃ n, xs.length = n := ⟨_, rfl⟩
  rw [hn] at hsl
  subst hsl
  have HNn := Lib.hid hn
  have hnl : n ≤ 10000 := by have := HN.out; have := HE.out.len; omega
  have hq := HE.out.eq
  have hlen := HE.out.len
  by_cases k2 : tk = 2
  · rw [lis_close k2] at hq
    have HQ := Lib.hid hq
    have e2 : (tk != 2) = false := by rw [k2]; rfl
    clear hq k2 hlen
    obtain ⟨b, o, nn, c, j, HC0⟩ := HE.out.x.ps.open
    have c2 := HC0.c2
    have c3 := HC0.c3
    have t0 := HC0.t0
    have hj := HC0.hj
    have hnn := HC0.hn
    have hj0 : (0 : Int) ≤ (j : Int) := by omega
    have hj1 : (j : Int) < (nn : Int) := by omega
    have HC1 := HC0.more ((Below.refl wo.heap.size wo).drew) HE.out.x.ps.lt HE.out.x.ps.bel
    have dc2 := HC1.c2
    have dc3 := HC1.c3
    have dt0 := HC1.t0
    clear HC0 HC1
    go_wp2_with fail
    go_quiet (fail)
    clear c2 c3 t0 dc2 dc3 dt0 hj hnn hj0 hj1
    replace HE := Lib.hid (HE.out.keep (below_drN5 wo nq))
    generalize wo.drewN nq = w3 at HE ⊢
    clear e2
    have HZ : Hid (Val7 Ob.nil (.slice none 0 0) (.int .i64 2) (.string ⟨#[]⟩) (.string ⟨#[]⟩) (.string (BA lispB)) (.string (BA [110, 105, 108])) (.string ⟨#[]⟩)) := rfl
    have HPR : Hid (Pair w3 (Ab g6 w3) Ob.nil (.slice none 0 0)) := (rfl : (Value.slice none 0 0) = _)
    have HX := Lib.hid HE.out.x
    have HIA := Lib.hid HE.out.it
    have HB6 := Lib.hid HE.out.last
    obtain ⟨b', o', n', c', j', HO0⟩ := HX.out.ps.open
    have HO := Lib.hid HO0
    have pc3 := HO0.c3
    have pcf := HO0.cf
    have hjb := HO0.hj
    have hnb := HO0.hn
    have hw0 : IntKind.i64.wrap ((j' : Int) + 1) = (j' : Int) + 1 := IntWalk.i64_in _ (by omega)
    clear HO0
    go_upto_region 21 with fail
    have HGG := HG.out
    have h66 := HE.out.lt6
    have H66 := Lib.hid h66
    replace HX := Lib.hid (HX.out.tick HO.out)
    replace HB6 : Hid (ObB (w3.setCell ⟨g, 3, none⟩ (.int .i64 ((j' : Int) + 1))) g6 _) := HB6.out.ocell (by omega)
    replace HIA : Hid (ItL (g6 + 1) (w3.setCell ⟨g, 3, none⟩ (.int .i64 ((j' : Int) + 1))) (.slice A n cc) xs) := HIA.out.but (But.set w3 3 _) (by omega)
    replace HPR : Hid (Pair (w3.setCell ⟨g, 3, none⟩ (.int .i64 ((j' : Int) + 1))) (Ab g6 (w3.setCell ⟨g, 3, none⟩ (.int .i64 ((j' : Int) + 1)))) Ob.nil _) := HPR.out.keep (fun b hb' => ⟨hb'.1, by have := hb'.2; have h3 := (But.set w3 (g := g) 3 (.int .i64 ((j' : Int) + 1))).size; omega⟩) (fun b hb' => Below.heap_setCell _ ⟨g, 3, none⟩ _ b (by show b ≠ g; have := hb'.1; omega))
    clear pc3 pcf hjb hnb hw0 HO HGG h66 HE
    generalize w3.setCell ⟨g, 3, none⟩ (.int .i64 ((j' : Int) + 1)) = W8 at HX HB6 HIA HPR ⊢
    obtain ⟨gb, hA, H2⟩ := L2.start HX.out HIA.out H66.out HB6.out HZ.out HPR.out HNn.out
    have HA := Lib.hid hA
    have H20 := Lib.hid H2
    clear hA H2 HX HIA HB6 HZ HPR
    have hw9 : IntKind.i64.wrap ((n : Int) - 1) = (n : Int) - 1 := IntWalk.i64_in _ (by omega)
    go_wp2_with fail
    go_loopw [13] (fun v wr => ∃ (k : Nat) (p' y0 y1 y2 y3 y4 y5 : Value), k ≤ n ∧ v = .int .i64 ((k : Int) - 1) ∧ Hid (L2 W0 w wr g l lv cur r (fsts xs) gb g6 Ob.nil k p' y0 y1 y2 y3 y4 y5)) (fun v _ => (intOf v + 1).toNat)
    case atStart => exact ⟨n, _, _, _, _, _, _, _, Nat.le_refl _, rfl, H20⟩
    case round =>
     clear H20
     obtain ⟨k, p', y0, y1, y2, y3, y4, y5, hk, rfl, hE⟩ := hrel
     obtain ⟨wz, rfl⟩ : ∃ wz : World, wz = wr := ⟨_, rfl⟩
     obtain ⟨m0, m1, m2, m3, m4, m5, m6⟩ := hE.out.box.c
     have hh := Lib.hid hE.out.box
     cases k with
     | succ k =>
      have hkl : k < (fsts xs).length := by rw [fsts_len, HNn.out]; omega
      obtain ⟨pa, hpa, hcell⟩ := hE.out.obs.get hkl
      have hq := hE.out.pr
      have eq : cellsO (consL ((fsts xs).drop (k + 1)) Ob.nil) p' = [y0, y1, y2, y3, y4, y5, p'] := hE.out.hz
      obtain ⟨b, rfl⟩ : ∃ b, A = some ⟨b, 0, none⟩ := ⟨gb, HA.out (by omega)⟩
      obtain rfl : b = gb := by have := HA.out (by omega); injection this with this; injection this
      have hIn : In (Ab g6 wz) wz := fun b hb => hb.2
      have hgl : g6 < wz.heap.size := Sy.blk_ltY hE.out.box
      have call : ∀ wd, Below wz.heap.size wz wd → Calls Tryz.prog 42 #[vO (fsts xs)[k] pa, vO (consL ((fsts xs).drop (k + 1)) Ob.nil) p'] wd (RetO wd (Ab g6 wz) (.cons (fsts xs)[k] (consL ((fsts xs).drop (k + 1)) Ob.nil))) :=
       fun wd hbd => consO _ _ pa p' wd _ (hIn.later hbd.size) (hpa.below hIn hbd) (hq.below hIn hbd)
      obtain ⟨x0', x1', x2', x3', x4', x5', ea⟩ := cells7 (fsts xs)[k] pa
      rw [ea] at hcell
      have l0 := hcell 0 _ rfl
      have l1 := hcell 1 _ rfl
      have l2 := hcell 2 _ rfl
      have l3 := hcell 3 _ rfl
      have l4 := hcell 4 _ rfl
      have l5 := hcell 5 _ rfl
      have l6 := hcell 6 _ rfl
      rw [Nat.zero_add] at l0
      rw [Nat.zero_add] at l1
      rw [Nat.zero_add] at l2
      rw [Nat.zero_add] at l3
      rw [Nat.zero_add] at l4
      rw [Nat.zero_add] at l5
      rw [Nat.zero_add] at l6
      rw [Nat.add_zero] at l0
      unfold vO at call
      rw [ea, eq] at call
      have CALL := Lib.hid call
      have HE := hE
      have HK := Lib.hid hkl
      clear call hcell hpa hq ea eq hE
      have hi0 : ((k + 1 : Nat) : Int) - 1 = (k : Int) := by omega
      rw [hi0]
      have hp0 : (0 : Int) ≤ (k : Int) := by omega
      have hp1 : (k : Int) < (n : Int) := by omega
      have hp2 : ((k : Int)).toNat = k := by omega
      have hp5 : IntKind.i64.wrap ((k : Int) - 1) = (k : Int) - 1 := IntWalk.i64_in _ (by omega)
      go_wp2_with fail
      go_still_tail 5, (by kernel_rfl)
      change wpList _ _ _ _ _ wz.drew
      have hbd : Below wz.heap.size wz wz.drew := (Below.refl _ _).drew
      generalize wz.drew = wd at hbd ⊢
      clear l0 l1 l2 l3 l4 l5 l6 m0 m1 m2 m3 m4 m5 m6
      go_wp2_with fail
      refine (CALL.out wd hbd).mono ?_
      rintro e w7 ⟨p3, rfl, hp3, hb3⟩
      have hbe := hbd.trans (hb3.mono hbd.size)
      have hh3 := Lib.hid ((hbe.block g6 hgl).trans hh.out)
      have h45 := hbd.size
      have HS := Lib.hid (HE.out.step HK.out hbe (hp3.more fun b hb => hb.imp id fun h => ⟨Nat.le_trans h45 h.1, h.2⟩))
      go_wp2_with (refine storeV (w1 := w7) rfl (.tmp 7) (.tmp 121) rfl g6 _ _ rfl rfl hp3 _ _ hh3.out rfl ?_)
      go_roundw
      case rel => exact ⟨k, _, _, _, _, _, _, _, by omega, by go_num, HS⟩
      case measure => simp [intOf]; try omega
     | zero =>
      have hn0 : ¬ (0 : Int) ≤ ((0 : Nat) : Int) - 1 := by omega
      have ev := Lib.hid (show Value.agg #[y0, y1, y2, y3, y4, y5, p'] = vO (consL ((fsts xs).drop 0) Ob.nil) p' from by unfold vO; rw [hE.out.hz])
      have HX := Lib.hid hE.out.x
      have HPL := Lib.hid hE.out.pr
      have hl6 := Lib.hid hE.out.lt6
      clear hE
      rw [List.drop_zero] at ev HPL
      go_wp2_with (first | (refine storeV rfl (.tmp 4) (.tmp 122) rfl w.heap.size (consL (fsts xs) Ob.nil) p' rfl ev.out HPL.out 47 _ HX.out.o rfl ?_) | (refine EB.store (.tmp 5) (.tmp 123) rfl rfl (w.heap.size + 1) 0 0 _ _ rfl rfl (HX.out.setO2 _).e ?_))
      rw [← HQ.out]
      exact HX.out.fin2 HPL.out (fun b hb => ⟨by have := hb.1; have := hl6.out; omega, hb.2⟩) rfl rfl rfl
  · have e2 : (tk != 2) = true := by rw [bne_iff_ne]; exact k2
    by_cases k3 : tk = 3 ∧ xs ≠ []
    · obtain ⟨k3, hxs⟩ := k3
      have hfx : fsts xs ≠ [] := fun e => hxs (fsts_nil.1 e)
      have e4 : (tk == 3) = true := by rw [k3]; rfl
      have e5 : (0 : Int) < (n : Int) := by have := List.length_pos_iff.2 hxs; omega
      have e6 : decide ((0 : Int) < (n : Int)) = true := decide_eq_true e5
      have hwr := HE.out.wf.tail (show tk ≠ 0 by omega)
      have KO0 : Hid (∀ w, PsR W0 w g l lv cur r → parF (symL l cur) numK f2 d r ≠ .out → Calls Tryz.prog 37 #[.pointer (some ⟨g, 0, none⟩), .int .i64 d] w (OutER W0 w g l lv cur (parF (symL l cur) numK f2 d r))) := fun w h ho => HHO.out f2 (by have := HE.out.hf; omega) W0 w g l lv cur d r h hwr (HE.out.ks.suf (List.suffix_cons _ _)) (HE.out.kn.suf (List.suffix_cons _ _)) HPB.out HD.out.1 HD.out.2 ho
      have hpk := (par_ok (symL l cur) numK f2).1 d r hwr
      obtain ⟨b, o, nn, c, j, HC0⟩ := HE.out.x.ps.open
      have c2 := HC0.c2
      have c3 := HC0.c3
      have t0 := HC0.t0
      have hj := HC0.hj
      have hnn := HC0.hn
      have hj0 : (0 : Int) ≤ (j : Int) := by omega
      have hj1 : (j : Int) < (nn : Int) := by omega
      have HC1 := HC0.more ((Below.refl wo.heap.size wo).drew) HE.out.x.ps.lt HE.out.x.ps.bel
      have dc2 := HC1.c2
      have dc3 := HC1.c3
      have dt0 := HC1.t0
      clear HC0 HC1
      go_wp2_with fail
      go_quiet (fail)
      clear c2 c3 t0 dc2 dc3 dt0 hj hnn hj0 hj1
      replace HE := Lib.hid (HE.out.keep (below_drN5 wo nq))
      generalize wo.drewN nq = w3 at HE ⊢
      obtain ⟨b, o, nn, c, j, HC0⟩ := HE.out.x.ps.open
      have c2 := HC0.c2
      have c3 := HC0.c3
      have t0 := HC0.t0
      have hj := HC0.hj
      have hnn := HC0.hn
      have hj0 : (0 : Int) ≤ (j : Int) := by omega
      have hj1 : (j : Int) < (nn : Int) := by omega
      have HC1 := HC0.more ((Below.refl w3.heap.size w3).drew) HE.out.x.ps.lt HE.out.x.ps.bel
      have dc2 := HC1.c2
      have dc3 := HC1.c3
      have dt0 := HC1.t0
      clear HC0 HC1
      go_wp2_with fail
      go_quiet (fail)
      clear c2 c3 t0 dc2 dc3 dt0 hj hnn hj0 hj1
      replace HE := Lib.hid (HE.out.keep (below_drN5 w3 nq))
      generalize w3.drewN nq = w4 at HE ⊢
      clear e2 e4
      obtain ⟨b', o', n', c', j', HO0⟩ := HE.out.x.ps.open
      have HO := Lib.hid HO0
      have pc3 := HO0.c3
      have pcf := HO0.cf
      have hjb := HO0.hj
      have hnb := HO0.hn
      have hw0 : IntKind.i64.wrap ((j' : Int) + 1) = (j' : Int) + 1 := IntWalk.i64_in _ (by omega)
      clear HO0
      go_upto_region 6 with fail
      have hg6 := HE.out.lt6
      have HGG := HG.out
      have HX := Lib.hid (HE.out.x.tick HO.out)
      have HB6 : Hid (ObB (w4.setCell ⟨g, 3, none⟩ (.int .i64 ((j' : Int) + 1))) g6 #[.int .i64 2, .string ⟨#[]⟩, .string ⟨#[]⟩, .string (BA lispB), .string (BA [110, 105, 108]), .string ⟨#[]⟩, .slice none 0 0]) := HE.out.last.ocell (by omega)
      have HIA : Hid (ItL (g6 + 1) (w4.setCell ⟨g, 3, none⟩ (.int .i64 ((j' : Int) + 1))) (.slice A n cc) xs) := HE.out.it.but (But.set w4 3 _) (by omega)
      have H66 := Lib.hid hg6
      clear pc3 pcf hjb hnb hw0 HO HGG hg6 HE e5 e6
      generalize w4.setCell ⟨g, 3, none⟩ (.int .i64 ((j' : Int) + 1)) = W4 at HX HB6 HIA ⊢
      cases hp : parF (symL l cur) numK f2 d r with
      | out => rw [dot_out k3 hfx hp] at hq; exact absurd hq.symm HRO.out
      | bad x q =>
       rw [dot_bad k3 hfx hp] at hq
       have KO : Hid (∀ w, PsR W0 w g l lv cur r → Calls Tryz.prog 37 #[.pointer (some ⟨g, 0, none⟩), .int .i64 d] w (OutER W0 w g l lv cur (.bad x q))) := fun w h => by
        have := KO0.out w h (by rw [hp]; intro e; cases e)
        rw [hp] at this
        exact this
       have HQ := Lib.hid hq
       have her : (x != 0) = true := by rw [bne_iff_ne]; exact par_code hp
       clear hq hp hpk KO0 hwr hfx hxs k3 k2 hlen
       go_wp2_with fail
       refine (KO.out _ HX.out.ps).mono ?_
       rintro e w5 ⟨rfl, hb⟩
       have HA := Lib.hid (al2 w5 (.cells #[.int .i64 0, .string ⟨#[]⟩, .string ⟨#[]⟩, .string ⟨#[]⟩, .string ⟨#[]⟩, .string ⟨#[]⟩, .slice none 0 0] 47) (.cells #[.int .i64 x, .int .i64 q] 26))
       have HB : Hid (RB w ((w5.alloc (.cells #[.int .i64 0, .string ⟨#[]⟩, .string ⟨#[]⟩, .string ⟨#[]⟩, .string ⟨#[]⟩, .string ⟨#[]⟩, .slice none 0 0] 47)).alloc (.cells #[.int .i64 x, .int .i64 q] 26)) g #[.int .i64 0, .string ⟨#[]⟩, .string ⟨#[]⟩, .string ⟨#[]⟩, .string ⟨#[]⟩, .string ⟨#[]⟩, .slice none 0 0] (.int .i64 0) (.int .i64 0)) := (HX.out.rb.next hb).keep HA.out
       have HE2 : Hid (EB ((w5.alloc (.cells #[.int .i64 0, .string ⟨#[]⟩, .string ⟨#[]⟩, .string ⟨#[]⟩, .string ⟨#[]⟩, .string ⟨#[]⟩, .slice none 0 0] 47)).alloc (.cells #[.int .i64 x, .int .i64 q] 26)) (w5.heap.size + 1) (.int .i64 x) (.int .i64 q)) := newE _ _ _ _
       have hsz := HX.out.e.lt
       have hlt := hb.size
       clear hb HX HB6 HIA HA
       go_upto_region 7 with fail
       generalize ((w5.alloc (.cells #[.int .i64 0, .string ⟨#[]⟩, .string ⟨#[]⟩, .string ⟨#[]⟩, .string ⟨#[]⟩, .string ⟨#[]⟩, .slice none 0 0] 47)).alloc (.cells #[.int .i64 x, .int .i64 q] 26)) = W5 at HB HE2 ⊢
       obtain ⟨ge, hge⟩ : ∃ ge, w5.heap.size + 1 = ge := ⟨_, rfl⟩
       rw [hge] at HE2 ⊢
       have n1 : ¬ w.heap.size = w.heap.size + 1 := by omega
       have n2 : ¬ w.heap.size + 1 = w.heap.size := by omega
       have n11 : ¬ ge = w.heap.size := by omega
       have n12 : ¬ w.heap.size = ge := by omega
       have n13 : ¬ ge = w.heap.size + 1 := by omega
       have n14 : ¬ w.heap.size + 1 = ge := by omega
       clear hge hsz hlt
       have ec0 := HE2.out.c0
       have ec1 := HE2.out.c1
       go_upto_region 8 with fail
       have HB0 := Lib.hid (HB.out.keep ((Below.refl W5.heap.size W5).drew))
       have HE0 := Lib.hid (HE2.out.keep ((Below.refl W5.heap.size W5).drew))
       obtain ⟨d0, d1, d2, d3, d4, d5, d6⟩ := HB0.out.o.c
       obtain ⟨f0, f1, f2, f3, f4, f5, f6⟩ := HB0.out.o.f
       obtain ⟨ef0, ef1⟩ := HB0.out.e.frs
       have oc0 := HB0.out.e.c0
       have oc1 := HB0.out.e.c1
       have e0 := HE0.out.c0
       have e1 := HE0.out.c1
       obtain ⟨dd0, dd1, dd2, dd3, dd4, dd5, dd6⟩ := HB.out.o.c
       obtain ⟨ff0, ff1, ff2, ff3, ff4, ff5, ff6⟩ := HB.out.o.f
       obtain ⟨eff0, eff1⟩ := HB.out.e.frs
       have occ0 := HB.out.e.c0
       have occ1 := HB.out.e.c1
       go_wp2_with fail
       apply mergeG
       case h =>
        intro hG
        go_region_with (fail)
        all_goals exact hG
       clear d0 d1 d2 d3 d4 d5 d6 f0 f1 f2 f3 f4 f5 f6 ef0 ef1 oc0 oc1 e0 e1 ec0 ec1 dd0 dd1 dd2 dd3 dd4 dd5 dd6 ff0 ff1 ff2 ff3 ff4 ff5 ff6 eff0 eff1 occ0 occ1
       go_wp2_with fail
       rw [← HQ.out]
       exact (((HB.out.setO (.int .i64 0) (.string ⟨#[]⟩) (.string ⟨#[]⟩) (.string ⟨#[]⟩) (.string ⟨#[]⟩) (.string ⟨#[]⟩) (.slice none 0 0)).setE (.int .i64 x) (.int .i64 q)).keep ((Below.refl _ _).drew)).retBad rfl rfl rfl
      | ok ob r1 =>
       rw [hp] at hpk
       have KO : Hid (∀ w, PsR W0 w g l lv cur r → Calls Tryz.prog 37 #[.pointer (some ⟨g, 0, none⟩), .int .i64 d] w (OutER W0 w g l lv cur (.ok ob r1))) := fun w h => by
        have := KO0.out w h (by rw [hp]; intro e; cases e)
        rw [hp] at this
        exact this
       have hw1 := hpk.1
       cases r1 with
       | nil => exact absurd rfl hw1.ne
       | cons u r2 =>
        rw [dot_ok k3 hfx hp] at hq
        obtain ⟨uk, up, uq, ut, ud⟩ := u
        have HQ := Lib.hid hq
        clear hq hp hpk KO0 hwr hfx hxs k3 k2 hlen hw1
        go_wp2_with fail
        refine (KO.out _ HX.out.ps).mono ?_
        rintro e w5 ⟨p, rfl, hp, hps, hb⟩
        obtain ⟨x0, x1, x2, x3, x4, x5, hz⟩ := cells7 ob p
        have HZ : Hid (Val7 ob p x0 x1 x2 x3 x4 x5) := hz
        have hA := boxes2_spec w5 ob p (.int .i64 0) (.int .i64 0)
        have HGG := HG.out
        have h66 := H66.out
        have h6b := Sy.blk_ltY HB6.out
        have HX5 : Hid (RX W0 w (boxes2 w5 ob p (.int .i64 0) (.int .i64 0)) g l lv cur _ #[.int .i64 0, .string ⟨#[]⟩, .string ⟨#[]⟩, .string ⟨#[]⟩, .string ⟨#[]⟩, .string ⟨#[]⟩, .slice none 0 0] (.int .i64 0) (.int .i64 0)) := (HX.out.next hb hps).keep hA.1
        have HB65 : Hid (ObB (boxes2 w5 ob p (.int .i64 0) (.int .i64 0)) g6 #[.int .i64 2, .string ⟨#[]⟩, .string ⟨#[]⟩, .string (BA lispB), .string (BA [110, 105, 108]), .string ⟨#[]⟩, .slice none 0 0]) := (HB6.out.but hb (by omega)).keep hA.1
        have HIA5 : Hid (ItL (g6 + 1) (boxes2 w5 ob p (.int .i64 0) (.int .i64 0)) (.slice A n cc) xs) := (HIA.out.but hb (by omega)).keep hA.1
        have HPW : Hid (Pair (boxes2 w5 ob p (.int .i64 0) (.int .i64 0)) (fun b => g6 + 1 ≤ b ∧ b < (boxes2 w5 ob p (.int .i64 0) (.int .i64 0)).heap.size ∧ (Value.slice A n cc).ownBlock ≠ some b) ob p) := hp.keep (fun b hb' => ⟨by omega, by have := hA.1.size; omega, fun e => by have := (own_lt HIA.out.own b e).2; omega⟩) (fun b hb' => hA.1.block b hb'.2)
        have HP5 : Hid (Pair (boxes2 w5 ob p (.int .i64 0) (.int .i64 0)) (Ab g6 (boxes2 w5 ob p (.int .i64 0) (.int .i64 0))) ob p) := hp.keep (fun b hb' => ⟨by omega, by have := hA.1.size; omega⟩) (fun b hb' => hA.1.block b hb'.2)
        have HE2 := Lib.hid hA.2.2
        have HQ5 : Hid (ObB (boxes2 w5 ob p (.int .i64 0) (.int .i64 0)) w5.heap.size #[x0, x1, x2, x3, x4, x5, p]) := by have := hA.2.1; rw [hz] at this; exact this
        have HPP := Lib.hid hp
        have HEV := Lib.hid (show Value.agg #[x0, x1, x2, x3, x4, x5, p] = vO ob p from by unfold vO; rw [hz])
        clear hA hz hp hps hb HX HB6 HIA HGG h66 h6b
        go_upto_region 7 with (first | (refine storeV rfl (.tmp 8) (.tmp 55) rfl w5.heap.size ob p rfl rfl HPP.out 47 _ (heap_old1 _ _ _) rfl ?_) | (refine EB.store (.tmp 9) (.tmp 56) rfl rfl (w5.heap.size + 1) 0 0 _ _ rfl rfl ((newE w5 _ _ _).row (by omega) _) ?_))
        unfold boxes2 at HX5 HB65 HIA5 HPW HP5 HE2 HQ5
        generalize (((w5.alloc (.cells #[.int .i64 0, .string ⟨#[]⟩, .string ⟨#[]⟩, .string ⟨#[]⟩, .string ⟨#[]⟩, .string ⟨#[]⟩, .slice none 0 0] 47)).alloc (.cells #[.int .i64 0, .int .i64 0] 26)).setRow w5.heap.size (cellsO ob p).toArray).setRow (w5.heap.size + 1) #[.int .i64 0, .int .i64 0] = W5 at HX5 HB65 HIA5 HPW HP5 HE2 HQ5 ⊢
        have HX := HX5
        have HB6 := HB65
        have HIA := HIA5
        clear HX5 HB65 HIA5 HPP
        have l0 := HE2.out.c0
        have l1 := HE2.out.c1
        go_upto_region 9 with fail
        clear l0 l1
        have l0 := HE2.out.c0
        have l1 := HE2.out.c1
        obtain ⟨m0, m1, m2, m3, m4, m5, m6⟩ := HQ5.out.c
        go_upto_region 10 with (refine storeV rfl (.tmp 7) (.tmp 62) rfl g6 ob p rfl HEV.out HP5.out 47 _ HB6.out rfl ?_)
        have HX6 := Lib.hid (HX.out.row H66.out (cellsO ob p).toArray)
        have HIA6 := Lib.hid (ItL.rowX HIA.out (g6 := g6) (Nat.lt_succ_self _) (cellsO ob p).toArray)
        have HB7 : Hid (ObB (W5.setRow g6 (cellsO ob p).toArray) g6 #[x0, x1, x2, x3, x4, x5, p]) := (setRow_heap _ _ _ _ _ _ HB6.out).trans (by rw [HZ.out])
        have HPR6 : Hid (Pair (W5.setRow g6 (cellsO ob p).toArray) (Ab g6 (W5.setRow g6 (cellsO ob p).toArray)) ob p) := HP5.out.keep (fun b hb' => ⟨hb'.1, by rw [setRow_size]; exact hb'.2⟩) (fun b hb' => setRow_other _ _ _ _ (by have := hb'.1; omega))
        clear l0 l1 m0 m1 m2 m3 m4 m5 m6 HX HIA HB6 HQ5 HE2 HP5 HEV
        generalize W5.setRow g6 (cellsO ob p).toArray = W6 at HX6 HIA6 HB7 HPR6 ⊢
        obtain ⟨b, o, nn, c, j, HC0⟩ := HX6.out.ps.open
        have c2 := HC0.c2
        have c3 := HC0.c3
        have t0 := HC0.t0
        have t1 := HC0.t1
        have t2 := HC0.t2
        have t3 := HC0.t3
        have t4 := HC0.t4
        have hj := HC0.hj
        have hnn := HC0.hn
        have hj0 : (0 : Int) ≤ (j : Int) := by omega
        have hj1 : (j : Int) < (nn : Int) := by omega
        have HC1 := HC0.more ((Below.refl W6.heap.size W6).drew) HX6.out.ps.lt HX6.out.ps.bel
        have dc2 := HC1.c2
        have dc3 := HC1.c3
        have dt0 := HC1.t0
        have dt1 := HC1.t1
        have dt2 := HC1.t2
        have dt3 := HC1.t3
        have dt4 := HC1.t4
        have HC2 := HC0.more ((Below.alloc (Below.refl W6.heap.size W6) (Nat.le_refl _) (.cells #[.int .i64 0, .int .i64 0, .string ⟨#[]⟩, .string ⟨#[]⟩, .string ⟨#[]⟩] 65)).drew) HX6.out.ps.lt HX6.out.ps.bel
        have ac2 := HC2.c2
        have ac3 := HC2.c3
        have at0 := HC2.t0
        have at1 := HC2.t1
        have at2 := HC2.t2
        have at3 := HC2.t3
        have at4 := HC2.t4
        clear HC0 HC1 HC2
        go_wp2_with fail
        apply mergeG
        case h =>
         intro hG
         go_region_with (fail)
         all_goals exact hG
        clear c2 c3 t0 t1 t2 t3 t4 dc2 dc3 dt0 dt1 dt2 dt3 dt4 ac2 ac3 at0 at1 at2 at3 at4 hj hj0 hj1 hnn
        have HT : Hid (TR (W6.alloc (.cells #[.int .i64 uk, .int .i64 up, .string (BA uq), .string (BA ut), .string (BA ud)] 65)).drew W6.heap.size (tkC ⟨uk, up, uq, ut, ud⟩)) := (TR.new W6 _).keep ((Below.refl _ _).drew)
        have hbt : Below W6.heap.size W6 (W6.alloc (.cells #[.int .i64 uk, .int .i64 up, .string (BA uq), .string (BA ut), .string (BA ud)] 65)).drew := (Below.alloc (Below.refl _ _) (Nat.le_refl _) _).drew
        have HX := Lib.hid (HX6.out.keep hbt)
        have HIA := Lib.hid (HIA6.out.keep hbt)
        have HB6 := Lib.hid (HB7.out.keep hbt)
        have HPR : Hid (Pair (W6.alloc (.cells #[.int .i64 uk, .int .i64 up, .string (BA uq), .string (BA ut), .string (BA ud)] 65)).drew (Ab g6 (W6.alloc (.cells #[.int .i64 uk, .int .i64 up, .string (BA uq), .string (BA ut), .string (BA ud)] 65)).drew) ob p) := HPR6.out.keep (fun b hb' => ⟨hb'.1, Nat.lt_of_lt_of_le hb'.2 hbt.size⟩) (fun b hb' => hbt.block b hb'.2)
        clear hbt HX6 HIA6 HB7 HPR6
        generalize (W6.alloc (.cells #[.int .i64 uk, .int .i64 up, .string (BA uq), .string (BA ut), .string (BA ud)] 65)).drew = W7 at HX HIA HB6 HPR HT ⊢
        generalize W6.heap.size = gt at HT ⊢
        obtain ⟨q0, q1, q2, q3, q4⟩ := HT.out.all
        dsimp only at q0 q1 q2 q3 q4
        by_cases u2 : uk = 2
        · have h2 : (uk == 2) = true := by rw [beq_iff_eq]; exact u2
          have hq := HQ.out
          rw [if_pos u2] at hq
          replace HQ := Lib.hid hq
          clear hq u2
          go_upto_region 20 with fail
          clear h2 q0 q1 q2 q3 q4 HT
          obtain ⟨b', o', n', c', j', HO0⟩ := HX.out.ps.open
          have HO := Lib.hid HO0
          have pc3 := HO0.c3
          have pcf := HO0.cf
          have hjb := HO0.hj
          have hnb := HO0.hn
          have hw0 : IntKind.i64.wrap ((j' : Int) + 1) = (j' : Int) + 1 := IntWalk.i64_in _ (by omega)
          clear HO0
          go_upto_region 21 with fail
          have HGG := HG.out
          have h66 := H66.out
          have h67 := h66
          replace HX := Lib.hid (HX.out.tick HO.out)
          replace HB6 : Hid (ObB (W7.setCell ⟨g, 3, none⟩ (.int .i64 ((j' : Int) + 1))) g6 _) := HB6.out.ocell (by omega)
          replace HIA : Hid (ItL (g6 + 1) (W7.setCell ⟨g, 3, none⟩ (.int .i64 ((j' : Int) + 1))) (.slice A n cc) xs) := HIA.out.but (But.set W7 3 _) (by omega)
          replace HPR : Hid (Pair (W7.setCell ⟨g, 3, none⟩ (.int .i64 ((j' : Int) + 1))) (Ab g6 (W7.setCell ⟨g, 3, none⟩ (.int .i64 ((j' : Int) + 1)))) ob _) := HPR.out.keep (fun b hb' => ⟨hb'.1, by have := hb'.2; have h3 := (But.set W7 (g := g) 3 (.int .i64 ((j' : Int) + 1))).size; omega⟩) (fun b hb' => Below.heap_setCell _ ⟨g, 3, none⟩ _ b (by show b ≠ g; have := hb'.1; omega))
          clear pc3 pcf hjb hnb hw0 HO HGG h66 h67
          generalize W7.setCell ⟨g, 3, none⟩ (.int .i64 ((j' : Int) + 1)) = W8 at HX HB6 HIA HPR ⊢
          obtain ⟨gb, hA, H2⟩ := L2.start HX.out HIA.out H66.out HB6.out HZ.out HPR.out HNn.out
          have HA := Lib.hid hA
          have H20 := Lib.hid H2
          clear hA H2 HX HIA HB6 HZ HPR
          have hw9 : IntKind.i64.wrap ((n : Int) - 1) = (n : Int) - 1 := IntWalk.i64_in _ (by omega)
          go_wp2_with fail
          go_loopw [13] (fun v wr => ∃ (k : Nat) (p' y0 y1 y2 y3 y4 y5 : Value), k ≤ n ∧ v = .int .i64 ((k : Int) - 1) ∧ Hid (L2 W0 w wr g l lv cur r2 (fsts xs) gb g6 ob k p' y0 y1 y2 y3 y4 y5)) (fun v _ => (intOf v + 1).toNat)
          case atStart => exact ⟨n, _, _, _, _, _, _, _, Nat.le_refl _, rfl, H20⟩
          case round =>
           clear H20
           obtain ⟨k, p', y0, y1, y2, y3, y4, y5, hk, rfl, hE⟩ := hrel
           obtain ⟨wz, rfl⟩ : ∃ wz : World, wz = wr := ⟨_, rfl⟩
           obtain ⟨m0, m1, m2, m3, m4, m5, m6⟩ := hE.out.box.c
           have hh := Lib.hid hE.out.box
           cases k with
           | succ k =>
            have hkl : k < (fsts xs).length := by rw [fsts_len, HNn.out]; omega
            obtain ⟨pa, hpa, hcell⟩ := hE.out.obs.get hkl
            have hq := hE.out.pr
            have eq : cellsO (consL ((fsts xs).drop (k + 1)) ob) p' = [y0, y1, y2, y3, y4, y5, p'] := hE.out.hz
            obtain ⟨b, rfl⟩ : ∃ b, A = some ⟨b, 0, none⟩ := ⟨gb, HA.out (by omega)⟩
            obtain rfl : b = gb := by have := HA.out (by omega); injection this with this; injection this
            have hIn : In (Ab g6 wz) wz := fun b hb => hb.2
            have hgl : g6 < wz.heap.size := Sy.blk_ltY hE.out.box
            have call : ∀ wd, Below wz.heap.size wz wd → Calls Tryz.prog 42 #[vO (fsts xs)[k] pa, vO (consL ((fsts xs).drop (k + 1)) ob) p'] wd (RetO wd (Ab g6 wz) (.cons (fsts xs)[k] (consL ((fsts xs).drop (k + 1)) ob))) :=
             fun wd hbd => consO _ _ pa p' wd _ (hIn.later hbd.size) (hpa.below hIn hbd) (hq.below hIn hbd)
            obtain ⟨x0', x1', x2', x3', x4', x5', ea⟩ := cells7 (fsts xs)[k] pa
            rw [ea] at hcell
            have l0 := hcell 0 _ rfl
            have l1 := hcell 1 _ rfl
            have l2 := hcell 2 _ rfl
            have l3 := hcell 3 _ rfl
            have l4 := hcell 4 _ rfl
            have l5 := hcell 5 _ rfl
            have l6 := hcell 6 _ rfl
            rw [Nat.zero_add] at l0
            rw [Nat.zero_add] at l1
            rw [Nat.zero_add] at l2
            rw [Nat.zero_add] at l3
            rw [Nat.zero_add] at l4
            rw [Nat.zero_add] at l5
            rw [Nat.zero_add] at l6
            rw [Nat.add_zero] at l0
            unfold vO at call
            rw [ea, eq] at call
            have CALL := Lib.hid call
            have HE := hE
            have HK := Lib.hid hkl
            clear call hcell hpa hq ea eq hE
            have hi0 : ((k + 1 : Nat) : Int) - 1 = (k : Int) := by omega
            rw [hi0]
            have hp0 : (0 : Int) ≤ (k : Int) := by omega
            have hp1 : (k : Int) < (n : Int) := by omega
            have hp2 : ((k : Int)).toNat = k := by omega
            have hp5 : IntKind.i64.wrap ((k : Int) - 1) = (k : Int) - 1 := IntWalk.i64_in _ (by omega)
            go_wp2_with fail
            go_still_tail 5, (by kernel_rfl)
            change wpList _ _ _ _ _ wz.drew
            have hbd : Below wz.heap.size wz wz.drew := (Below.refl _ _).drew
            generalize wz.drew = wd at hbd ⊢
            clear l0 l1 l2 l3 l4 l5 l6 m0 m1 m2 m3 m4 m5 m6
            go_wp2_with fail
            refine (CALL.out wd hbd).mono ?_
            rintro e w7 ⟨p3, rfl, hp3, hb3⟩
            have hbe := hbd.trans (hb3.mono hbd.size)
            have hh3 := Lib.hid ((hbe.block g6 hgl).trans hh.out)
            have h45 := hbd.size
            have HS := Lib.hid (HE.out.step HK.out hbe (hp3.more fun b hb => hb.imp id fun h => ⟨Nat.le_trans h45 h.1, h.2⟩))
            go_wp2_with (refine storeV (w1 := w7) rfl (.tmp 7) (.tmp 121) rfl g6 _ _ rfl rfl hp3 _ _ hh3.out rfl ?_)
            go_roundw
            case rel => exact ⟨k, _, _, _, _, _, _, _, by omega, by go_num, HS⟩
            case measure => simp [intOf]; try omega
           | zero =>
            have hn0 : ¬ (0 : Int) ≤ ((0 : Nat) : Int) - 1 := by omega
            have ev := Lib.hid (show Value.agg #[y0, y1, y2, y3, y4, y5, p'] = vO (consL ((fsts xs).drop 0) ob) p' from by unfold vO; rw [hE.out.hz])
            have HX := Lib.hid hE.out.x
            have HPL := Lib.hid hE.out.pr
            have hl6 := Lib.hid hE.out.lt6
            clear hE
            rw [List.drop_zero] at ev HPL
            go_wp2_with (first | (refine storeV rfl (.tmp 4) (.tmp 122) rfl w.heap.size (consL (fsts xs) ob) p' rfl ev.out HPL.out 47 _ HX.out.o rfl ?_) | (refine EB.store (.tmp 5) (.tmp 123) rfl rfl (w.heap.size + 1) 0 0 _ _ rfl rfl (HX.out.setO2 _).e ?_))
            rw [← HQ.out]
            exact HX.out.fin2 HPL.out (fun b hb => ⟨by have := hb.1; have := hl6.out; omega, hb.2⟩) rfl rfl rfl
        · have h2 : (uk == 2) = false := by rw [beq_eq_false_iff_ne]; exact u2
          have hq := HQ.out
          rw [if_neg u2] at hq
          by_cases u0 : uk = 0
          · have h0 : (uk == 0) = true := by rw [beq_iff_eq]; exact u0
            rw [if_pos u0] at hq
            replace HQ := Lib.hid hq
            clear hq u2 u0
            go_wp2_with fail
            refine (badR 11 up _).mono ?_
            rintro e w8 ⟨rfl, hb⟩
            replace HX := Lib.hid (HX.out.keep hb)
            clear hb q0 q1 q2 q3 q4
            go_wp2_with (first | (refine storeZ rfl (.tmp 4) (.tmp 83) rfl w.heap.size rfl rfl 47 _ HX.out.o rfl ?_) | (refine EB.store (.tmp 5) (.tmp 86) rfl rfl (w.heap.size + 1) 11 up _ _ rfl rfl (HX.out.setO2 _).e ?_))
            rw [← HQ.out]
            exact ((HX.out.setO2 #[.int .i64 0, .string ⟨#[]⟩, .string ⟨#[]⟩, .string ⟨#[]⟩, .string ⟨#[]⟩, .string ⟨#[]⟩, .slice none 0 0]).setE2 (.int .i64 11) (.int .i64 up)).rb.retBad rfl rfl rfl
          · have h0 : (uk == 0) = false := by rw [beq_eq_false_iff_ne]; exact u0
            rw [if_neg u0] at hq
            replace HQ := Lib.hid hq
            clear hq u2 u0
            go_wp2_with fail
            refine (badR 12 up _).mono ?_
            rintro e w8 ⟨rfl, hb⟩
            replace HX := Lib.hid (HX.out.keep hb)
            clear hb q0 q1 q2 q3 q4
            go_wp2_with (first | (refine storeZ rfl (.tmp 4) (.tmp 75) rfl w.heap.size rfl rfl 47 _ HX.out.o rfl ?_) | (refine EB.store (.tmp 5) (.tmp 78) rfl rfl (w.heap.size + 1) 12 up _ _ rfl rfl (HX.out.setO2 _).e ?_))
            rw [← HQ.out]
            exact ((HX.out.setO2 #[.int .i64 0, .string ⟨#[]⟩, .string ⟨#[]⟩, .string ⟨#[]⟩, .string ⟨#[]⟩, .string ⟨#[]⟩, .slice none 0 0]).setE2 (.int .i64 12) (.int .i64 up)).rb.retBad rfl rfl rfl
    · have hnk : ¬ (tk = 3 ∧ fsts xs ≠ []) := fun h => k3 ⟨h.1, fun e => h.2 (fsts_nil.2 e)⟩
      have ec : (tk == 3) = false ∨ ((tk == 3) = true ∧ decide ((0 : Int) < (n : Int)) = false ∧ ¬ (0 : Int) < (n : Int)) := by
       by_cases h : tk = 3
       · right
         have hx : xs = [] := Classical.byContradiction fun e => k3 ⟨h, e⟩
         rw [hx] at hn
         rw [h, ← hn]
         exact ⟨rfl, rfl, by simp⟩
       · left; rw [beq_eq_false_iff_ne]; exact h
      have KO0 : Hid (∀ w, PsR W0 w g l lv cur ((⟨tk, tp, tq, tt, td⟩ : Tk) :: r) → parF (symL l cur) numK f2 d ((⟨tk, tp, tq, tt, td⟩ : Tk) :: r) ≠ .out → Calls Tryz.prog 37 #[.pointer (some ⟨g, 0, none⟩), .int .i64 d] w (OutER W0 w g l lv cur (parF (symL l cur) numK f2 d ((⟨tk, tp, tq, tt, td⟩ : Tk) :: r)))) := fun w h ho => HHO.out f2 (by have := HE.out.hf; omega) W0 w g l lv cur d _ h HE.out.wf HE.out.ks HE.out.kn HPB.out HD.out.1 HD.out.2 ho
      have hpk := (par_ok (symL l cur) numK f2).1 d _ HE.out.wf
      have HWR := Lib.hid HE.out.wf
      obtain ⟨b, o, nn, c, j, HC0⟩ := HE.out.x.ps.open
      have c2 := HC0.c2
      have c3 := HC0.c3
      have t0 := HC0.t0
      have hj := HC0.hj
      have hnn := HC0.hn
      have hj0 : (0 : Int) ≤ (j : Int) := by omega
      have hj1 : (j : Int) < (nn : Int) := by omega
      have HC1 := HC0.more ((Below.refl wo.heap.size wo).drew) HE.out.x.ps.lt HE.out.x.ps.bel
      have dc2 := HC1.c2
      have dc3 := HC1.c3
      have dt0 := HC1.t0
      clear HC0 HC1
      go_wp2_with fail
      go_quiet (fail)
      clear c2 c3 t0 dc2 dc3 dt0 hj hnn hj0 hj1
      replace HE := Lib.hid (HE.out.keep (below_drN5 wo nq))
      generalize wo.drewN nq = w3 at HE ⊢
      clear e2
      cases hp : parF (symL l cur) numK f2 d ((⟨tk, tp, tq, tt, td⟩ : Tk) :: r) with
      | out => rw [lis_out k2 hnk hp] at hq; exact absurd hq.symm HRO.out
      | bad x q =>
       rw [lis_bad k2 hnk hp] at hq
       have KO : Hid (∀ w, PsR W0 w g l lv cur ((⟨tk, tp, tq, tt, td⟩ : Tk) :: r) → Calls Tryz.prog 37 #[.pointer (some ⟨g, 0, none⟩), .int .i64 d] w (OutER W0 w g l lv cur (.bad x q))) := fun w h => by
        have := KO0.out w h (by rw [hp]; intro e; cases e)
        rw [hp] at this
        exact this
       have HQ := Lib.hid hq
       have her : (x != 0) = true := by rw [bne_iff_ne]; exact par_code hp
       clear hq hp hpk KO0 k3 k2 hnk hlen
       rcases ec with e4 | ⟨e4, e5, e6⟩
       all_goals
        obtain ⟨b, o, nn, c, j, HC0⟩ := HE.out.x.ps.open
        have c2 := HC0.c2
        have c3 := HC0.c3
        have t0 := HC0.t0
        have hj := HC0.hj
        have hnn := HC0.hn
        have hj0 : (0 : Int) ≤ (j : Int) := by omega
        have hj1 : (j : Int) < (nn : Int) := by omega
        have HC1 := HC0.more ((Below.refl w3.heap.size w3).drew) HE.out.x.ps.lt HE.out.x.ps.bel
        have dc2 := HC1.c2
        have dc3 := HC1.c3
        have dt0 := HC1.t0
        clear HC0 HC1
        go_wp2_with fail
        go_quiet (fail)
        clear c2 c3 t0 dc2 dc3 dt0 hj hnn hj0 hj1
        replace HE := Lib.hid (HE.out.keep (below_drN5 w3 nq))
        generalize w3.drewN nq = w4 at HE ⊢
        clear e4
        have H66 := Lib.hid HE.out.lt6
        have HX := Lib.hid HE.out.x
        have HB6 := Lib.hid HE.out.last
        have HIA := Lib.hid HE.out.it
        go_wp2_with fail
        refine (KO.out _ HX.out.ps).mono ?_
        rintro e w5 ⟨rfl, hb⟩
        have HA := Lib.hid (al2 w5 (.cells #[.int .i64 0, .string ⟨#[]⟩, .string ⟨#[]⟩, .string ⟨#[]⟩, .string ⟨#[]⟩, .string ⟨#[]⟩, .slice none 0 0] 47) (.cells #[.int .i64 x, .int .i64 q] 26))
        have HB : Hid (RB w ((w5.alloc (.cells #[.int .i64 0, .string ⟨#[]⟩, .string ⟨#[]⟩, .string ⟨#[]⟩, .string ⟨#[]⟩, .string ⟨#[]⟩, .slice none 0 0] 47)).alloc (.cells #[.int .i64 x, .int .i64 q] 26)) g #[.int .i64 0, .string ⟨#[]⟩, .string ⟨#[]⟩, .string ⟨#[]⟩, .string ⟨#[]⟩, .string ⟨#[]⟩, .slice none 0 0] (.int .i64 0) (.int .i64 0)) := (HX.out.rb.next hb).keep HA.out
        have HE2 : Hid (EB ((w5.alloc (.cells #[.int .i64 0, .string ⟨#[]⟩, .string ⟨#[]⟩, .string ⟨#[]⟩, .string ⟨#[]⟩, .string ⟨#[]⟩, .slice none 0 0] 47)).alloc (.cells #[.int .i64 x, .int .i64 q] 26)) (w5.heap.size + 1) (.int .i64 x) (.int .i64 q)) := newE _ _ _ _
        have hsz := HX.out.e.lt
        have hlt := hb.size
        clear hb HX HB6 HIA HA
        go_upto_region 17 with fail
        generalize ((w5.alloc (.cells #[.int .i64 0, .string ⟨#[]⟩, .string ⟨#[]⟩, .string ⟨#[]⟩, .string ⟨#[]⟩, .string ⟨#[]⟩, .slice none 0 0] 47)).alloc (.cells #[.int .i64 x, .int .i64 q] 26)) = W5 at HB HE2 ⊢
        obtain ⟨ge, hge⟩ : ∃ ge, w5.heap.size + 1 = ge := ⟨_, rfl⟩
        rw [hge] at HE2 ⊢
        have n1 : ¬ w.heap.size = w.heap.size + 1 := by omega
        have n2 : ¬ w.heap.size + 1 = w.heap.size := by omega
        have n11 : ¬ ge = w.heap.size := by omega
        have n12 : ¬ w.heap.size = ge := by omega
        have n13 : ¬ ge = w.heap.size + 1 := by omega
        have n14 : ¬ w.heap.size + 1 = ge := by omega
        clear hge hsz hlt
        have ec0 := HE2.out.c0
        have ec1 := HE2.out.c1
        go_upto_region 18 with fail
        have HB0 := Lib.hid (HB.out.keep ((Below.refl W5.heap.size W5).drew))
        have HE0 := Lib.hid (HE2.out.keep ((Below.refl W5.heap.size W5).drew))
        obtain ⟨d0, d1, d2, d3, d4, d5, d6⟩ := HB0.out.o.c
        obtain ⟨f0, f1, f2, f3, f4, f5, f6⟩ := HB0.out.o.f
        obtain ⟨ef0, ef1⟩ := HB0.out.e.frs
        have oc0 := HB0.out.e.c0
        have oc1 := HB0.out.e.c1
        have e0 := HE0.out.c0
        have e1 := HE0.out.c1
        obtain ⟨dd0, dd1, dd2, dd3, dd4, dd5, dd6⟩ := HB.out.o.c
        obtain ⟨ff0, ff1, ff2, ff3, ff4, ff5, ff6⟩ := HB.out.o.f
        obtain ⟨eff0, eff1⟩ := HB.out.e.frs
        have occ0 := HB.out.e.c0
        have occ1 := HB.out.e.c1
        go_wp2_with fail
        apply mergeG
        case h =>
         intro hG
         go_region_with (fail)
         all_goals exact hG
        clear d0 d1 d2 d3 d4 d5 d6 f0 f1 f2 f3 f4 f5 f6 ef0 ef1 oc0 oc1 e0 e1 ec0 ec1 dd0 dd1 dd2 dd3 dd4 dd5 dd6 ff0 ff1 ff2 ff3 ff4 ff5 ff6 eff0 eff1 occ0 occ1
        go_wp2_with fail
        rw [← HQ.out]
        exact (((HB.out.setO (.int .i64 0) (.string ⟨#[]⟩) (.string ⟨#[]⟩) (.string ⟨#[]⟩) (.string ⟨#[]⟩) (.string ⟨#[]⟩) (.slice none 0 0)).setE (.int .i64 x) (.int .i64 q)).keep ((Below.refl _ _).drew)).retBad rfl rfl rfl
      | ok ob r1 =>
       rw [lis_ok k2 hnk hp] at hq
       rw [hp] at hpk
       have hsf := (par_suf (symL l cur) numK f2).1 d _ ob r1 hp
       have KO : Hid (∀ w, PsR W0 w g l lv cur ((⟨tk, tp, tq, tt, td⟩ : Tk) :: r) → Calls Tryz.prog 37 #[.pointer (some ⟨g, 0, none⟩), .int .i64 d] w (OutER W0 w g l lv cur (.ok ob r1))) := fun w h => by
        have := KO0.out w h (by rw [hp]; intro e; cases e)
        rw [hp] at this
        exact this
       have HQ := Lib.hid hq
       have HPK := Lib.hid (And.intro hpk.1 (And.intro hpk.2.1 (And.intro (HE.out.ks.suf hsf) (HE.out.kn.suf hsf))))
       have HLN := Lib.hid hlen
       have hxl : xs.length ≤ 100000 := by rw [hn]; omega
       have HHF := Lib.hid HE.out.hf
       clear hq hp hpk KO0 k3 k2 hnk hsf hlen
       rcases ec with e4 | ⟨e4, e5, e6⟩
       all_goals
        obtain ⟨b, o, nn, c, j, HC0⟩ := HE.out.x.ps.open
        have c2 := HC0.c2
        have c3 := HC0.c3
        have t0 := HC0.t0
        have hj := HC0.hj
        have hnn := HC0.hn
        have hj0 : (0 : Int) ≤ (j : Int) := by omega
        have hj1 : (j : Int) < (nn : Int) := by omega
        have HC1 := HC0.more ((Below.refl w3.heap.size w3).drew) HE.out.x.ps.lt HE.out.x.ps.bel
        have dc2 := HC1.c2
        have dc3 := HC1.c3
        have dt0 := HC1.t0
        clear HC0 HC1
        go_wp2_with fail
        go_quiet (fail)
        clear c2 c3 t0 dc2 dc3 dt0 hj hnn hj0 hj1
        replace HE := Lib.hid (HE.out.keep (below_drN5 w3 nq))
        generalize w3.drewN nq = w4 at HE ⊢
        clear e4
        have H66 := Lib.hid HE.out.lt6
        have HX := Lib.hid HE.out.x
        have HB6 := Lib.hid HE.out.last
        have HIA := Lib.hid HE.out.it
        go_wp2_with fail
        refine (KO.out _ HX.out.ps).mono ?_
        rintro e w5 ⟨p, rfl, hp, hps, hb⟩
        obtain ⟨x0, x1, x2, x3, x4, x5, hz⟩ := cells7 ob p
        have HZ : Hid (Val7 ob p x0 x1 x2 x3 x4 x5) := hz
        have hA := boxes2_spec w5 ob p (.int .i64 0) (.int .i64 0)
        have HGG := HG.out
        have h66 := H66.out
        have h6b := Sy.blk_ltY HB6.out
        have HX5 : Hid (RX W0 w (boxes2 w5 ob p (.int .i64 0) (.int .i64 0)) g l lv cur _ #[.int .i64 0, .string ⟨#[]⟩, .string ⟨#[]⟩, .string ⟨#[]⟩, .string ⟨#[]⟩, .string ⟨#[]⟩, .slice none 0 0] (.int .i64 0) (.int .i64 0)) := (HX.out.next hb hps).keep hA.1
        have HB65 : Hid (ObB (boxes2 w5 ob p (.int .i64 0) (.int .i64 0)) g6 #[.int .i64 2, .string ⟨#[]⟩, .string ⟨#[]⟩, .string (BA lispB), .string (BA [110, 105, 108]), .string ⟨#[]⟩, .slice none 0 0]) := (HB6.out.but hb (by omega)).keep hA.1
        have HIA5 : Hid (ItL (g6 + 1) (boxes2 w5 ob p (.int .i64 0) (.int .i64 0)) (.slice A n cc) xs) := (HIA.out.but hb (by omega)).keep hA.1
        have HPW : Hid (Pair (boxes2 w5 ob p (.int .i64 0) (.int .i64 0)) (fun b => g6 + 1 ≤ b ∧ b < (boxes2 w5 ob p (.int .i64 0) (.int .i64 0)).heap.size ∧ (Value.slice A n cc).ownBlock ≠ some b) ob p) := hp.keep (fun b hb' => ⟨by omega, by have := hA.1.size; omega, fun e => by have := (own_lt HIA.out.own b e).2; omega⟩) (fun b hb' => hA.1.block b hb'.2)
        have HP5 : Hid (Pair (boxes2 w5 ob p (.int .i64 0) (.int .i64 0)) (Ab g6 (boxes2 w5 ob p (.int .i64 0) (.int .i64 0))) ob p) := hp.keep (fun b hb' => ⟨by omega, by have := hA.1.size; omega⟩) (fun b hb' => hA.1.block b hb'.2)
        have HE2 := Lib.hid hA.2.2
        have HQ5 : Hid (ObB (boxes2 w5 ob p (.int .i64 0) (.int .i64 0)) w5.heap.size #[x0, x1, x2, x3, x4, x5, p]) := by have := hA.2.1; rw [hz] at this; exact this
        have HPP := Lib.hid hp
        have HEV := Lib.hid (show Value.agg #[x0, x1, x2, x3, x4, x5, p] = vO ob p from by unfold vO; rw [hz])
        clear hA hz hp hps hb HX HB6 HIA HGG h66 h6b
        go_upto_region 17 with (first | (refine storeV rfl (.tmp 11) (.tmp 91) rfl w5.heap.size ob p rfl rfl HPP.out 47 _ (heap_old1 _ _ _) rfl ?_) | (refine EB.store (.tmp 12) (.tmp 92) rfl rfl (w5.heap.size + 1) 0 0 _ _ rfl rfl ((newE w5 _ _ _).row (by omega) _) ?_))
        unfold boxes2 at HX5 HB65 HIA5 HPW HP5 HE2 HQ5
        generalize (((w5.alloc (.cells #[.int .i64 0, .string ⟨#[]⟩, .string ⟨#[]⟩, .string ⟨#[]⟩, .string ⟨#[]⟩, .string ⟨#[]⟩, .slice none 0 0] 47)).alloc (.cells #[.int .i64 0, .int .i64 0] 26)).setRow w5.heap.size (cellsO ob p).toArray).setRow (w5.heap.size + 1) #[.int .i64 0, .int .i64 0] = W5 at HX5 HB65 HIA5 HPW HP5 HE2 HQ5 ⊢
        have HX := HX5
        have HB6 := HB65
        have HIA := HIA5
        clear HX5 HB65 HIA5 HPP
        have l0 := HE2.out.c0
        have l1 := HE2.out.c1
        go_upto_region 19 with fail
        clear l0 l1
        have l0 := HE2.out.c0
        have l1 := HE2.out.c1
        obtain ⟨m0, m1, m2, m3, m4, m5, m6⟩ := HQ5.out.c
        have hal := Lib.hid (show Below W5.heap.size W5 (W5.alloc (.cells #[x0, x1, x2, x3, x4, x5, p] 47)) from Below.alloc (Below.refl _ _) (Nat.le_refl _) _)
        have hnw := Lib.hid (heap_alloc_new W5 (.cells #[x0, x1, x2, x3, x4, x5, p] 47))
        have HI6 := Lib.hid (HIA.out.keep hal.out)
        have HP6 : Hid (Pair (W5.alloc (.cells #[x0, x1, x2, x3, x4, x5, p] 47)) (fun b => g6 + 1 ≤ b ∧ b < (W5.alloc (.cells #[x0, x1, x2, x3, x4, x5, p] 47)).heap.size ∧ (Value.slice A n cc).ownBlock ≠ some b) ob p) := HPW.out.keep (fun b hb' => ⟨hb'.1, by have := hal.out.size; omega, hb'.2.2⟩) (fun b hb' => hal.out.block b hb'.2.1)
        have HX6 := Lib.hid (HX.out.keep hal.out)
        have HB7 := Lib.hid (HB6.out.keep hal.out)
        have hsz := Lib.hid (show g6 + 1 ≤ (W5.alloc (.cells #[x0, x1, x2, x3, x4, x5, p] 47)).heap.size from Sy.blk_ltY HB7.out)
        go_wp2_with (at_builtin; refine appItem rfl (.tmp 98) (.tmp 100) rfl rfl HI6.out ob p x0 x1 x2 x3 x4 x5 HZ.out W5.heap.size 1 rfl hnw.out HP6.out hxl hsz.out ?_)
        intro v7 w7 hi7 hb7
        have HT7 : Hid (LX W0 w w7 g l lv cur d f R N g6 v7 (xs ++ [(ob, p)]) r1 f2) := ⟨HX6.out.below hb7 (by have := H66.out; omega), H66.out, (hb7.block g6 (Nat.lt_succ_self _)).trans HB7.out, hi7, by rw [fsts_snoc]; exact HQ.out, HPK.out.1, HPK.out.2.2.1, HPK.out.2.2.2, by have := HHF.out; omega, by have := HLN.out; have := HPK.out.2.1; simp only [List.length_append, List.length_cons, List.length_nil] at *; omega⟩
        have hms : lfN g w7 < lfN g wo := by rw [HM.out, HT7.out.x.ps.lfN]; have := HPK.out.2.1; simp only [List.length_cons] at *; omega
        have HW7 := Lib.hid HPK.out.1
        clear hi7 hb7
        go_wp2_with fail
        go_roundw
        case rel =>
         cases r1 with
         | nil => exact absurd rfl HW7.out.ne
         | cons t2 r2 => exact ⟨_, t2, r2, f2, _, rfl, HT7⟩
        case measure => exact hms
set_option maxHeartbeats 8000000 in
set_option maxRecDepth 100000 in
theorem objSymQR (W0 w : World) (g : Nat) (l : List Sy.Pg) (lv : Value) (cur : ByteArray) (d : Int) (tk tp : Int) (tq tt td : List UInt8) (r : List Tk) (h : PsR W0 w g l lv cur (⟨tk, tp, tq, tt, td⟩ :: r)) (hk : tk = 6) (hq : ¬ tq = []) (hpb : PgB l) (s1 s2 : ByteArray) (x : Int) (hx : x = 0) (hm : Sy.internM l (BA tq) (BA tt) = ((s1, s2), x)) : Calls Tryz.prog 37 #[.pointer (some ⟨g, 0, none⟩), .int .i64 d] w (OutER W0 w g l lv cur (.ok (.sym (LA s1) (LA s2)) r)) := by
 subst hx
 have k0 : (tk == 0) = false := by rw [beq_eq_false_iff_ne]; omega
 have k2 : (tk == 2) = false := by rw [beq_eq_false_iff_ne]; omega
 have k3 : (tk == 3) = false := by rw [beq_eq_false_iff_ne]; omega
 have k5 : (tk == 5) = false := by rw [beq_eq_false_iff_ne]; omega
 have k7 : (tk == 7) = false := by rw [beq_eq_false_iff_ne]; omega
 have k6 : (tk == 6) = true := by rw [beq_iff_eq]; omega
 have e2 : (BA tq).toList.isEmpty = false := by rw [ba_empty]; exact decide_eq_false hq
 have HPB := Lib.hid hpb
 have HM := Lib.hid hm
 have HX := Lib.hid (RX.new h)
 clear h hk hq hpb hm
 go_enter Tryz.func37, Tryz.ntmps37
 go_upto_region 1 with fail
 generalize ((w.alloc (.cells #[.int .i64 0, .string ⟨#[]⟩, .string ⟨#[]⟩, .string ⟨#[]⟩, .string ⟨#[]⟩, .string ⟨#[]⟩, .slice none 0 0] 47)).alloc (.cells #[.int .i64 0, .int .i64 0] 26)) = W1 at HX ⊢
 obtain ⟨b, o, n, c, j, HC0⟩ := HX.out.ps.open
 have c0 := HC0.c0
 have c1 := HC0.c1
 have c2 := HC0.c2
 have c3 := HC0.c3
 have t0 := HC0.t0
 have t1 := HC0.t1
 have t2 := HC0.t2
 have t3 := HC0.t3
 have t4 := HC0.t4
 have hj := HC0.hj
 have hn := HC0.hn
 have hj0 : (0 : Int) ≤ (j : Int) := by omega
 have hj1 : (j : Int) < (n : Int) := by omega
 have HC1 := HC0.more ((Below.refl W1.heap.size W1).drew) HX.out.ps.lt HX.out.ps.bel
 have dc2 := HC1.c2
 have dc3 := HC1.c3
 have dt0 := HC1.t0
 have dt1 := HC1.t1
 have dt2 := HC1.t2
 have dt3 := HC1.t3
 have dt4 := HC1.t4
 have HC2 := HC0.more ((Below.alloc (Below.refl W1.heap.size W1) (Nat.le_refl _) (.cells #[.int .i64 0, .int .i64 0, .string ⟨#[]⟩, .string ⟨#[]⟩, .string ⟨#[]⟩] 65)).drew) HX.out.ps.lt HX.out.ps.bel
 have ac2 := HC2.c2
 have ac3 := HC2.c3
 have at0 := HC2.t0
 have at1 := HC2.t1
 have at2 := HC2.t2
 have at3 := HC2.t3
 have at4 := HC2.t4
 clear HC0 HC1 HC2
 go_wp2_with fail
 apply mergeG
 case h =>
  intro hG
  go_region_with (fail)
  all_goals exact hG
 clear c0 c1 c2 c3 t0 t1 t2 t3 t4 dc2 dc3 dt0 dt1 dt2 dt3 dt4 ac2 ac3 at0 at1 at2 at3 at4 hj hj0 hj1 hn
 have HT : Hid (TR (W1.alloc (.cells #[.int .i64 tk, .int .i64 tp, .string (BA tq), .string (BA tt), .string (BA td)] 65)).drew W1.heap.size (tkC ⟨tk, tp, tq, tt, td⟩)) := (TR.new W1 _).keep ((Below.refl _ _).drew)
 have HL1 : Hid (w.heap.size + 1 < W1.heap.size) := HX.out.e.lt
 replace HX : Hid (RX W0 w (W1.alloc (.cells #[.int .i64 tk, .int .i64 tp, .string (BA tq), .string (BA tt), .string (BA td)] 65)).drew g l lv cur (⟨tk, tp, tq, tt, td⟩ :: r) #[.int .i64 0, .string ⟨#[]⟩, .string ⟨#[]⟩, .string ⟨#[]⟩, .string ⟨#[]⟩, .string ⟨#[]⟩, .slice none 0 0] (.int .i64 0) (.int .i64 0)) := HX.out.keep ((Below.alloc (Below.refl _ _) (Nat.le_refl _) _).drew)
 generalize (W1.alloc (.cells #[.int .i64 tk, .int .i64 tp, .string (BA tq), .string (BA tt), .string (BA td)] 65)).drew = W2 at HX HT ⊢
 generalize W1.heap.size = gt at HT HL1 ⊢
 go_upto_region 3 with fail
 have HN : Hid (ObB (W2.alloc (.cells #[.int .i64 0, .string ⟨#[]⟩, .string ⟨#[]⟩, .string ⟨#[]⟩, .string ⟨#[]⟩, .string ⟨#[]⟩, .slice none 0 0] 47)) W2.heap.size #[.int .i64 0, .string ⟨#[]⟩, .string ⟨#[]⟩, .string ⟨#[]⟩, .string ⟨#[]⟩, .string ⟨#[]⟩, .slice none 0 0]) := heap_alloc_new _ _
 have hal := Below.alloc (Below.refl W2.heap.size W2) (Nat.le_refl _) (.cells #[.int .i64 0, .string ⟨#[]⟩, .string ⟨#[]⟩, .string ⟨#[]⟩, .string ⟨#[]⟩, .string ⟨#[]⟩, .slice none 0 0] 47)
 have HL2 : Hid (gt < W2.heap.size) := HT.out.lt
 replace HT := Lib.hid (HT.out.keep hal)
 replace HX := Lib.hid (HX.out.keep hal)
 clear hal
 generalize (W2.alloc (.cells #[.int .i64 0, .string ⟨#[]⟩, .string ⟨#[]⟩, .string ⟨#[]⟩, .string ⟨#[]⟩, .string ⟨#[]⟩, .slice none 0 0] 47)) = W3 at HX HT HN ⊢
 generalize W2.heap.size = gn at HN HL2 ⊢
 obtain ⟨q0, q1, q2, q3, q4⟩ := HT.out.all
 dsimp only at q0 q1 q2 q3 q4
 obtain ⟨b', o', n', c', j', HO0⟩ := HX.out.ps.open
 have HO := Lib.hid HO0
 have pc3 := HO0.c3
 have pcf := HO0.cf
 have hjb := HO0.hj
 have hnb := HO0.hn
 have hw0 : IntKind.i64.wrap ((j' : Int) + 1) = (j' : Int) + 1 := IntWalk.i64_in _ (by omega)
 clear HO0
 go_upto_region 17 with fail
 have HGG := HX.out.hg
 replace HX := Lib.hid (HX.out.tick HO.out)
 have hl1' := HL1.out
 have hl2' := HL2.out
 replace HT := Lib.hid (HT.out.ocell (k := 3) (b := g) (by omega) (.int .i64 ((j' : Int) + 1)))
 replace HN := Lib.hid (HN.out.ocell (k := 3) (b := g) (y := .int .i64 ((j' : Int) + 1)) (by omega))
 clear q0 q1 q2 q3 q4 pc3 pcf hjb hnb hw0 HO hl1' hl2' HGG
 generalize W3.setCell ⟨g, 3, none⟩ (.int .i64 ((j' : Int) + 1)) = W4 at HX HT HN ⊢
 obtain ⟨q0, q1, q2, q3, q4⟩ := HT.out.all
 dsimp only at q0 q1 q2 q3 q4
 obtain ⟨b2, o2, n2, c2, j2, HO0⟩ := HX.out.ps.open0
 have pc0 := HO0.c0
 have pc1 := HO0.c1
 go_upto_region 20 with fail
 have KI : Hid (∀ W', Below W4.heap.size W4 W' → Calls Tryz.prog 65 #[lv, .string (BA tq), .string (BA tt)] W' (Sy.RetN W' ((s1, s2), 0))) := fun W' hb => HM.out ▸ Sy.internRY l lv (BA tq) (BA tt) W' (HX.out.ps.pg hb) HPB.out.h1 HPB.out.h2
 have a0 : W4.drew.cell? ⟨g, 0, none⟩ = some lv := pc0
 have a3 : W4.drew.cell? ⟨gt, 3, none⟩ = some (.string (BA tt)) := q3
 have b0 : (W4.alloc (.cells #[.string ⟨#[]⟩, .string ⟨#[]⟩] 45)).drew.cell? ⟨g, 0, none⟩ = some lv := ((Below.alloc (Below.refl W4.heap.size W4) (Nat.le_refl _) _).cell (p := ⟨g, 0, none⟩) HX.out.ps.lt).trans pc0
 have b3 : (W4.alloc (.cells #[.string ⟨#[]⟩, .string ⟨#[]⟩] 45)).drew.cell? ⟨gt, 3, none⟩ = some (.string (BA tt)) := ((Below.alloc (Below.refl W4.heap.size W4) (Nat.le_refl _) _).cell (p := ⟨gt, 3, none⟩) HT.out.lt).trans q3
 have l1 := HX.out.ps.lt
 have l2 := HT.out.lt
 clear HO0
 go_wp2_with fail
 go_region_with (go_at_call 65; refine (KI.out _ ?_).mono ?_; (first | exact Below.drew (Below.refl _ _) | exact Below.alloc (Below.drew (Below.refl _ _)) (Nat.le_refl _) _); rintro e w9 ⟨rfl, hb⟩; have HB9 : Hid (Below W4.heap.size W4 w9) := (by first | exact chain5 (Below.drew (Below.refl _ _)) hb | exact chain5 (Below.alloc (Below.drew (Below.refl _ _)) (Nat.le_refl _) _) hb); (try (have HS9 : Hid (Sy.SB w9 W4.heap.size (.string ⟨#[]⟩) (.string ⟨#[]⟩)) := Sy.SB.keep (Sy.SB.new W4.drew (.string ⟨#[]⟩) (.string ⟨#[]⟩)) hb; have s0 := HS9.out.c0; have s1' := HS9.out.c1; have sf0 := SB.fr0 HS9.out; have sf1 := SB.fr1 HS9.out)))
 all_goals
  clear q0 q1 q2 q3 q4 a0 a3 b0 b3 pc0 pc1 l1 l2
  first
  | (obtain ⟨W5, hW5⟩ : ∃ W5, w9.alloc (.cells #[.string s1, .string s2] 45) = W5 := ⟨_, rfl⟩
     rw [hW5]
     have hbw : Below W4.heap.size W4 W5 := hW5 ▸ chain5 HB9.out (Below.alloc (Below.refl _ _) (Nat.le_refl _) _)
     replace HX := Lib.hid (HX.out.keep hbw)
     replace HT := Lib.hid (HT.out.keep hbw)
     replace HN := Lib.hid (HN.out.keep hbw)
     have HV : Hid (Sy.SB W5 w9.heap.size (.string s1) (.string s2)) := hW5 ▸ Sy.SB.new _ _ _
     clear hW5 hbw
     generalize w9.heap.size = gs at HV ⊢)
  | (obtain ⟨W5, hW5⟩ : ∃ W5, (w9.setCell ⟨W4.heap.size, 0, none⟩ (.string s1)).setCell ⟨W4.heap.size, 1, none⟩ (.string s2) = W5 := ⟨_, rfl⟩
     rw [hW5]
     have hbw : Below W4.heap.size W4 W5 := hW5 ▸ (HB9.out.setCell (Nat.le_refl _) _).setCell (Nat.le_refl _) _
     replace HX := Lib.hid (HX.out.keep hbw)
     replace HT := Lib.hid (HT.out.keep hbw)
     replace HN := Lib.hid (HN.out.keep hbw)
     have HV : Hid (Sy.SB W5 W4.heap.size (.string s1) (.string s2)) := hW5 ▸ SB.two HS9.out _ _
     clear hW5 hbw s0 s1' sf0 sf1 HS9
     generalize W4.heap.size = gs at HV ⊢)
 all_goals
  have x0 := HV.out.c0
  have x1 := HV.out.c1
  go_wp2_with fail
  refine (symO s1 s2 _ (fun _ => False)).mono ?_
  rintro e w8 ⟨pp, rfl, hpp, hb8⟩
  obtain rfl := hpp.flat rfl
  replace HX := Lib.hid (HX.out.keep hb8)
  clear hb8 x0 x1
  have HP := Lib.hid hpp
  clear hpp
  go_wp2_with (first | (refine storeV rfl (.tmp 4) (.tmp 102) rfl w.heap.size (.sym (LA s1) (LA s2)) (.slice none 0 0) rfl rfl HP.out 47 _ HX.out.o rfl ?_) | (refine EB.store (.tmp 5) (.tmp 103) rfl rfl (w.heap.size + 1) 0 0 _ _ rfl rfl (HX.out.setO2 _).e ?_))
  exact RX.fin2 (o := .sym (LA s1) (LA s2)) (p := .slice none 0 0) (S := fun _ => False) HX.out rfl (fun b hb => hb.elim) rfl rfl rfl
set_option maxHeartbeats 8000000 in
set_option maxRecDepth 100000 in
theorem objSymBadER (W0 w : World) (g : Nat) (l : List Sy.Pg) (lv : Value) (cur : ByteArray) (d : Int) (tk tp : Int) (tq tt td : List UInt8) (r : List Tk) (h : PsR W0 w g l lv cur (⟨tk, tp, tq, tt, td⟩ :: r)) (hk : tk = 6) (hq : tq = []) (hpb : PgB l) (s1 s2 : ByteArray) (x : Int) (hx : x ≠ 0) (hm : Sy.internM l cur (BA tt) = ((s1, s2), x)) : Calls Tryz.prog 37 #[.pointer (some ⟨g, 0, none⟩), .int .i64 d] w (OutER W0 w g l lv cur (.bad x tp)) := by
 have k0 : (tk == 0) = false := by rw [beq_eq_false_iff_ne]; omega
 have k2 : (tk == 2) = false := by rw [beq_eq_false_iff_ne]; omega
 have k3 : (tk == 3) = false := by rw [beq_eq_false_iff_ne]; omega
 have k5 : (tk == 5) = false := by rw [beq_eq_false_iff_ne]; omega
 have k7 : (tk == 7) = false := by rw [beq_eq_false_iff_ne]; omega
 have k6 : (tk == 6) = true := by rw [beq_iff_eq]; omega
 have e2 : (BA tq).toList.isEmpty = true := by rw [ba_empty]; exact decide_eq_true hq
 have HPB := Lib.hid hpb
 have HM := Lib.hid hm
 have her : (x != 0) = true := by rw [bne_iff_ne]; exact hx
 have HX := Lib.hid (RX.new h)
 clear h hk hq hpb hm hx
 go_enter Tryz.func37, Tryz.ntmps37
 go_upto_region 1 with fail
 generalize ((w.alloc (.cells #[.int .i64 0, .string ⟨#[]⟩, .string ⟨#[]⟩, .string ⟨#[]⟩, .string ⟨#[]⟩, .string ⟨#[]⟩, .slice none 0 0] 47)).alloc (.cells #[.int .i64 0, .int .i64 0] 26)) = W1 at HX ⊢
 obtain ⟨b, o, n, c, j, HC0⟩ := HX.out.ps.open
 have c0 := HC0.c0
 have c1 := HC0.c1
 have c2 := HC0.c2
 have c3 := HC0.c3
 have t0 := HC0.t0
 have t1 := HC0.t1
 have t2 := HC0.t2
 have t3 := HC0.t3
 have t4 := HC0.t4
 have hj := HC0.hj
 have hn := HC0.hn
 have hj0 : (0 : Int) ≤ (j : Int) := by omega
 have hj1 : (j : Int) < (n : Int) := by omega
 have HC1 := HC0.more ((Below.refl W1.heap.size W1).drew) HX.out.ps.lt HX.out.ps.bel
 have dc2 := HC1.c2
 have dc3 := HC1.c3
 have dt0 := HC1.t0
 have dt1 := HC1.t1
 have dt2 := HC1.t2
 have dt3 := HC1.t3
 have dt4 := HC1.t4
 have HC2 := HC0.more ((Below.alloc (Below.refl W1.heap.size W1) (Nat.le_refl _) (.cells #[.int .i64 0, .int .i64 0, .string ⟨#[]⟩, .string ⟨#[]⟩, .string ⟨#[]⟩] 65)).drew) HX.out.ps.lt HX.out.ps.bel
 have ac2 := HC2.c2
 have ac3 := HC2.c3
 have at0 := HC2.t0
 have at1 := HC2.t1
 have at2 := HC2.t2
 have at3 := HC2.t3
 have at4 := HC2.t4
 clear HC0 HC1 HC2
 go_wp2_with fail
 apply mergeG
 case h =>
  intro hG
  go_region_with (fail)
  all_goals exact hG
 clear c0 c1 c2 c3 t0 t1 t2 t3 t4 dc2 dc3 dt0 dt1 dt2 dt3 dt4 ac2 ac3 at0 at1 at2 at3 at4 hj hj0 hj1 hn
 have HT : Hid (TR (W1.alloc (.cells #[.int .i64 tk, .int .i64 tp, .string (BA tq), .string (BA tt), .string (BA td)] 65)).drew W1.heap.size (tkC ⟨tk, tp, tq, tt, td⟩)) := (TR.new W1 _).keep ((Below.refl _ _).drew)
 have HL1 : Hid (w.heap.size + 1 < W1.heap.size) := HX.out.e.lt
 replace HX : Hid (RX W0 w (W1.alloc (.cells #[.int .i64 tk, .int .i64 tp, .string (BA tq), .string (BA tt), .string (BA td)] 65)).drew g l lv cur (⟨tk, tp, tq, tt, td⟩ :: r) #[.int .i64 0, .string ⟨#[]⟩, .string ⟨#[]⟩, .string ⟨#[]⟩, .string ⟨#[]⟩, .string ⟨#[]⟩, .slice none 0 0] (.int .i64 0) (.int .i64 0)) := HX.out.keep ((Below.alloc (Below.refl _ _) (Nat.le_refl _) _).drew)
 generalize (W1.alloc (.cells #[.int .i64 tk, .int .i64 tp, .string (BA tq), .string (BA tt), .string (BA td)] 65)).drew = W2 at HX HT ⊢
 generalize W1.heap.size = gt at HT HL1 ⊢
 go_upto_region 3 with fail
 have HN : Hid (ObB (W2.alloc (.cells #[.int .i64 0, .string ⟨#[]⟩, .string ⟨#[]⟩, .string ⟨#[]⟩, .string ⟨#[]⟩, .string ⟨#[]⟩, .slice none 0 0] 47)) W2.heap.size #[.int .i64 0, .string ⟨#[]⟩, .string ⟨#[]⟩, .string ⟨#[]⟩, .string ⟨#[]⟩, .string ⟨#[]⟩, .slice none 0 0]) := heap_alloc_new _ _
 have hal := Below.alloc (Below.refl W2.heap.size W2) (Nat.le_refl _) (.cells #[.int .i64 0, .string ⟨#[]⟩, .string ⟨#[]⟩, .string ⟨#[]⟩, .string ⟨#[]⟩, .string ⟨#[]⟩, .slice none 0 0] 47)
 have HL2 : Hid (gt < W2.heap.size) := HT.out.lt
 replace HT := Lib.hid (HT.out.keep hal)
 replace HX := Lib.hid (HX.out.keep hal)
 clear hal
 generalize (W2.alloc (.cells #[.int .i64 0, .string ⟨#[]⟩, .string ⟨#[]⟩, .string ⟨#[]⟩, .string ⟨#[]⟩, .string ⟨#[]⟩, .slice none 0 0] 47)) = W3 at HX HT HN ⊢
 generalize W2.heap.size = gn at HN HL2 ⊢
 obtain ⟨q0, q1, q2, q3, q4⟩ := HT.out.all
 dsimp only at q0 q1 q2 q3 q4
 obtain ⟨b', o', n', c', j', HO0⟩ := HX.out.ps.open
 have HO := Lib.hid HO0
 have pc3 := HO0.c3
 have pcf := HO0.cf
 have hjb := HO0.hj
 have hnb := HO0.hn
 have hw0 : IntKind.i64.wrap ((j' : Int) + 1) = (j' : Int) + 1 := IntWalk.i64_in _ (by omega)
 clear HO0
 go_upto_region 17 with fail
 have HGG := HX.out.hg
 replace HX := Lib.hid (HX.out.tick HO.out)
 have hl1' := HL1.out
 have hl2' := HL2.out
 replace HT := Lib.hid (HT.out.ocell (k := 3) (b := g) (by omega) (.int .i64 ((j' : Int) + 1)))
 replace HN := Lib.hid (HN.out.ocell (k := 3) (b := g) (y := .int .i64 ((j' : Int) + 1)) (by omega))
 clear q0 q1 q2 q3 q4 pc3 pcf hjb hnb hw0 HO hl1' hl2' HGG
 generalize W3.setCell ⟨g, 3, none⟩ (.int .i64 ((j' : Int) + 1)) = W4 at HX HT HN ⊢
 obtain ⟨q0, q1, q2, q3, q4⟩ := HT.out.all
 dsimp only at q0 q1 q2 q3 q4
 obtain ⟨b2, o2, n2, c2, j2, HO0⟩ := HX.out.ps.open0
 have pc0 := HO0.c0
 have pc1 := HO0.c1
 go_upto_region 20 with fail
 have KI : Hid (∀ W', Below W4.heap.size W4 W' → Calls Tryz.prog 65 #[lv, .string cur, .string (BA tt)] W' (Sy.RetN W' ((s1, s2), x))) := fun W' hb => HM.out ▸ Sy.internRY l lv cur (BA tt) W' (HX.out.ps.pg hb) HPB.out.h1 HPB.out.h2
 have a0 : W4.drew.cell? ⟨g, 0, none⟩ = some lv := pc0
 have a3 : W4.drew.cell? ⟨gt, 3, none⟩ = some (.string (BA tt)) := q3
 have b0 : (W4.alloc (.cells #[.string ⟨#[]⟩, .string ⟨#[]⟩] 45)).drew.cell? ⟨g, 0, none⟩ = some lv := ((Below.alloc (Below.refl W4.heap.size W4) (Nat.le_refl _) _).cell (p := ⟨g, 0, none⟩) HX.out.ps.lt).trans pc0
 have b3 : (W4.alloc (.cells #[.string ⟨#[]⟩, .string ⟨#[]⟩] 45)).drew.cell? ⟨gt, 3, none⟩ = some (.string (BA tt)) := ((Below.alloc (Below.refl W4.heap.size W4) (Nat.le_refl _) _).cell (p := ⟨gt, 3, none⟩) HT.out.lt).trans q3
 have l1 := HX.out.ps.lt
 have l2 := HT.out.lt
 clear HO0
 go_wp2_with fail
 go_region_with (go_at_call 65; refine (KI.out _ ?_).mono ?_; (first | exact Below.drew (Below.refl _ _) | exact Below.alloc (Below.drew (Below.refl _ _)) (Nat.le_refl _) _); rintro e w9 ⟨rfl, hb⟩; have HB9 : Hid (Below W4.heap.size W4 w9) := (by first | exact chain5 (Below.drew (Below.refl _ _)) hb | exact chain5 (Below.alloc (Below.drew (Below.refl _ _)) (Nat.le_refl _) _) hb); (try (have HS9 : Hid (Sy.SB w9 W4.heap.size (.string ⟨#[]⟩) (.string ⟨#[]⟩)) := Sy.SB.keep (Sy.SB.new W4.drew (.string ⟨#[]⟩) (.string ⟨#[]⟩)) hb; have s0 := HS9.out.c0; have s1' := HS9.out.c1; have sf0 := SB.fr0 HS9.out; have sf1 := SB.fr1 HS9.out)))
 all_goals
  clear q0 q1 q2 q3 q4 a0 a3 b0 b3 pc0 pc1 l1 l2
  first
  | (obtain ⟨W5, hW5⟩ : ∃ W5, w9.alloc (.cells #[.string s1, .string s2] 45) = W5 := ⟨_, rfl⟩
     rw [hW5]
     have hbw : Below W4.heap.size W4 W5 := hW5 ▸ chain5 HB9.out (Below.alloc (Below.refl _ _) (Nat.le_refl _) _)
     replace HX := Lib.hid (HX.out.keep hbw)
     replace HT := Lib.hid (HT.out.keep hbw)
     replace HN := Lib.hid (HN.out.keep hbw)
     have HV : Hid (Sy.SB W5 w9.heap.size (.string s1) (.string s2)) := hW5 ▸ Sy.SB.new _ _ _
     clear hW5 hbw
     generalize w9.heap.size = gs at HV ⊢)
  | (obtain ⟨W5, hW5⟩ : ∃ W5, (w9.setCell ⟨W4.heap.size, 0, none⟩ (.string s1)).setCell ⟨W4.heap.size, 1, none⟩ (.string s2) = W5 := ⟨_, rfl⟩
     rw [hW5]
     have hbw : Below W4.heap.size W4 W5 := hW5 ▸ (HB9.out.setCell (Nat.le_refl _) _).setCell (Nat.le_refl _) _
     replace HX := Lib.hid (HX.out.keep hbw)
     replace HT := Lib.hid (HT.out.keep hbw)
     replace HN := Lib.hid (HN.out.keep hbw)
     have HV : Hid (Sy.SB W5 W4.heap.size (.string s1) (.string s2)) := hW5 ▸ SB.two HS9.out _ _
     clear hW5 hbw s0 s1' sf0 sf1 HS9
     generalize W4.heap.size = gs at HV ⊢)
 all_goals
  have hl1 := HL1.out
  have hl2 := HL2.out
  have n1 : ¬ w.heap.size = w.heap.size + 1 := by omega
  have n2 : ¬ w.heap.size + 1 = w.heap.size := by omega
  have n3 : ¬ gt = w.heap.size := by omega
  have n4 : ¬ w.heap.size = gt := by omega
  have n5' : ¬ gt = w.heap.size + 1 := by omega
  have n6' : ¬ w.heap.size + 1 = gt := by omega
  have n7' : ¬ gn = w.heap.size := by omega
  have n8 : ¬ w.heap.size = gn := by omega
  have n9 : ¬ gn = w.heap.size + 1 := by omega
  have n10 : ¬ w.heap.size + 1 = gn := by omega
  go_wp2_with fail
  have HX0 := Lib.hid (HX.out.keep ((Below.refl W5.heap.size W5).drew))
  have HN0 := Lib.hid (HN.out.keep ((Below.refl W5.heap.size W5).drew))
  have HT0 := Lib.hid (HT.out.keep ((Below.refl W5.heap.size W5).drew))
  obtain ⟨m0, m1, m2, m3, m4, m5, m6⟩ := HN0.out.c
  obtain ⟨p0, p1, p2, p3, p4⟩ := HT0.out.all
  dsimp only at p0 p1 p2 p3 p4
  go_region_with (go_at_call 31; refine (badR x tp _).mono ?_; rintro e w7 ⟨rfl, hb⟩; have HX5 := Lib.hid (HX0.out.keep hb); have HN5 := Lib.hid (HN0.out.keep hb); obtain ⟨b0, b1, b2, b3, b4, b5, b6⟩ := HN5.out.c; obtain ⟨d0, d1, d2, d3, d4, d5, d6⟩ := HX5.out.o.c; obtain ⟨f0, f1, f2, f3, f4, f5, f6⟩ := HX5.out.o.f; obtain ⟨ef0, ef1⟩ := HX5.out.e.frs; have ec0 := HX5.out.e.c0; have ec1 := HX5.out.e.c1; clear hb)
  all_goals
   go_wp2_with fail
   exact ((HX5.out.setO (.int .i64 0) (.string ⟨#[]⟩) (.string ⟨#[]⟩) (.string ⟨#[]⟩) (.string ⟨#[]⟩) (.string ⟨#[]⟩) (.slice none 0 0)).setE (.int .i64 x) (.int .i64 tp)).retBad rfl rfl rfl
set_option maxHeartbeats 8000000 in
set_option maxRecDepth 100000 in
theorem objSymBadQR (W0 w : World) (g : Nat) (l : List Sy.Pg) (lv : Value) (cur : ByteArray) (d : Int) (tk tp : Int) (tq tt td : List UInt8) (r : List Tk) (h : PsR W0 w g l lv cur (⟨tk, tp, tq, tt, td⟩ :: r)) (hk : tk = 6) (hq : ¬ tq = []) (hpb : PgB l) (s1 s2 : ByteArray) (x : Int) (hx : x ≠ 0) (hm : Sy.internM l (BA tq) (BA tt) = ((s1, s2), x)) : Calls Tryz.prog 37 #[.pointer (some ⟨g, 0, none⟩), .int .i64 d] w (OutER W0 w g l lv cur (.bad x tp)) := by
 have k0 : (tk == 0) = false := by rw [beq_eq_false_iff_ne]; omega
 have k2 : (tk == 2) = false := by rw [beq_eq_false_iff_ne]; omega
 have k3 : (tk == 3) = false := by rw [beq_eq_false_iff_ne]; omega
 have k5 : (tk == 5) = false := by rw [beq_eq_false_iff_ne]; omega
 have k7 : (tk == 7) = false := by rw [beq_eq_false_iff_ne]; omega
 have k6 : (tk == 6) = true := by rw [beq_iff_eq]; omega
 have e2 : (BA tq).toList.isEmpty = false := by rw [ba_empty]; exact decide_eq_false hq
 have HPB := Lib.hid hpb
 have HM := Lib.hid hm
 have her : (x != 0) = true := by rw [bne_iff_ne]; exact hx
 have HX := Lib.hid (RX.new h)
 clear h hk hq hpb hm hx
 go_enter Tryz.func37, Tryz.ntmps37
 go_upto_region 1 with fail
 generalize ((w.alloc (.cells #[.int .i64 0, .string ⟨#[]⟩, .string ⟨#[]⟩, .string ⟨#[]⟩, .string ⟨#[]⟩, .string ⟨#[]⟩, .slice none 0 0] 47)).alloc (.cells #[.int .i64 0, .int .i64 0] 26)) = W1 at HX ⊢
 obtain ⟨b, o, n, c, j, HC0⟩ := HX.out.ps.open
 have c0 := HC0.c0
 have c1 := HC0.c1
 have c2 := HC0.c2
 have c3 := HC0.c3
 have t0 := HC0.t0
 have t1 := HC0.t1
 have t2 := HC0.t2
 have t3 := HC0.t3
 have t4 := HC0.t4
 have hj := HC0.hj
 have hn := HC0.hn
 have hj0 : (0 : Int) ≤ (j : Int) := by omega
 have hj1 : (j : Int) < (n : Int) := by omega
 have HC1 := HC0.more ((Below.refl W1.heap.size W1).drew) HX.out.ps.lt HX.out.ps.bel
 have dc2 := HC1.c2
 have dc3 := HC1.c3
 have dt0 := HC1.t0
 have dt1 := HC1.t1
 have dt2 := HC1.t2
 have dt3 := HC1.t3
 have dt4 := HC1.t4
 have HC2 := HC0.more ((Below.alloc (Below.refl W1.heap.size W1) (Nat.le_refl _) (.cells #[.int .i64 0, .int .i64 0, .string ⟨#[]⟩, .string ⟨#[]⟩, .string ⟨#[]⟩] 65)).drew) HX.out.ps.lt HX.out.ps.bel
 have ac2 := HC2.c2
 have ac3 := HC2.c3
 have at0 := HC2.t0
 have at1 := HC2.t1
 have at2 := HC2.t2
 have at3 := HC2.t3
 have at4 := HC2.t4
 clear HC0 HC1 HC2
 go_wp2_with fail
 apply mergeG
 case h =>
  intro hG
  go_region_with (fail)
  all_goals exact hG
 clear c0 c1 c2 c3 t0 t1 t2 t3 t4 dc2 dc3 dt0 dt1 dt2 dt3 dt4 ac2 ac3 at0 at1 at2 at3 at4 hj hj0 hj1 hn
 have HT : Hid (TR (W1.alloc (.cells #[.int .i64 tk, .int .i64 tp, .string (BA tq), .string (BA tt), .string (BA td)] 65)).drew W1.heap.size (tkC ⟨tk, tp, tq, tt, td⟩)) := (TR.new W1 _).keep ((Below.refl _ _).drew)
 have HL1 : Hid (w.heap.size + 1 < W1.heap.size) := HX.out.e.lt
 replace HX : Hid (RX W0 w (W1.alloc (.cells #[.int .i64 tk, .int .i64 tp, .string (BA tq), .string (BA tt), .string (BA td)] 65)).drew g l lv cur (⟨tk, tp, tq, tt, td⟩ :: r) #[.int .i64 0, .string ⟨#[]⟩, .string ⟨#[]⟩, .string ⟨#[]⟩, .string ⟨#[]⟩, .string ⟨#[]⟩, .slice none 0 0] (.int .i64 0) (.int .i64 0)) := HX.out.keep ((Below.alloc (Below.refl _ _) (Nat.le_refl _) _).drew)
 generalize (W1.alloc (.cells #[.int .i64 tk, .int .i64 tp, .string (BA tq), .string (BA tt), .string (BA td)] 65)).drew = W2 at HX HT ⊢
 generalize W1.heap.size = gt at HT HL1 ⊢
 go_upto_region 3 with fail
 have HN : Hid (ObB (W2.alloc (.cells #[.int .i64 0, .string ⟨#[]⟩, .string ⟨#[]⟩, .string ⟨#[]⟩, .string ⟨#[]⟩, .string ⟨#[]⟩, .slice none 0 0] 47)) W2.heap.size #[.int .i64 0, .string ⟨#[]⟩, .string ⟨#[]⟩, .string ⟨#[]⟩, .string ⟨#[]⟩, .string ⟨#[]⟩, .slice none 0 0]) := heap_alloc_new _ _
 have hal := Below.alloc (Below.refl W2.heap.size W2) (Nat.le_refl _) (.cells #[.int .i64 0, .string ⟨#[]⟩, .string ⟨#[]⟩, .string ⟨#[]⟩, .string ⟨#[]⟩, .string ⟨#[]⟩, .slice none 0 0] 47)
 have HL2 : Hid (gt < W2.heap.size) := HT.out.lt
 replace HT := Lib.hid (HT.out.keep hal)
 replace HX := Lib.hid (HX.out.keep hal)
 clear hal
 generalize (W2.alloc (.cells #[.int .i64 0, .string ⟨#[]⟩, .string ⟨#[]⟩, .string ⟨#[]⟩, .string ⟨#[]⟩, .string ⟨#[]⟩, .slice none 0 0] 47)) = W3 at HX HT HN ⊢
 generalize W2.heap.size = gn at HN HL2 ⊢
 obtain ⟨q0, q1, q2, q3, q4⟩ := HT.out.all
 dsimp only at q0 q1 q2 q3 q4
 obtain ⟨b', o', n', c', j', HO0⟩ := HX.out.ps.open
 have HO := Lib.hid HO0
 have pc3 := HO0.c3
 have pcf := HO0.cf
 have hjb := HO0.hj
 have hnb := HO0.hn
 have hw0 : IntKind.i64.wrap ((j' : Int) + 1) = (j' : Int) + 1 := IntWalk.i64_in _ (by omega)
 clear HO0
 go_upto_region 17 with fail
 have HGG := HX.out.hg
 replace HX := Lib.hid (HX.out.tick HO.out)
 have hl1' := HL1.out
 have hl2' := HL2.out
 replace HT := Lib.hid (HT.out.ocell (k := 3) (b := g) (by omega) (.int .i64 ((j' : Int) + 1)))
 replace HN := Lib.hid (HN.out.ocell (k := 3) (b := g) (y := .int .i64 ((j' : Int) + 1)) (by omega))
 clear q0 q1 q2 q3 q4 pc3 pcf hjb hnb hw0 HO hl1' hl2' HGG
 generalize W3.setCell ⟨g, 3, none⟩ (.int .i64 ((j' : Int) + 1)) = W4 at HX HT HN ⊢
 obtain ⟨q0, q1, q2, q3, q4⟩ := HT.out.all
 dsimp only at q0 q1 q2 q3 q4
 obtain ⟨b2, o2, n2, c2, j2, HO0⟩ := HX.out.ps.open0
 have pc0 := HO0.c0
 have pc1 := HO0.c1
 go_upto_region 20 with fail
 have KI : Hid (∀ W', Below W4.heap.size W4 W' → Calls Tryz.prog 65 #[lv, .string (BA tq), .string (BA tt)] W' (Sy.RetN W' ((s1, s2), x))) := fun W' hb => HM.out ▸ Sy.internRY l lv (BA tq) (BA tt) W' (HX.out.ps.pg hb) HPB.out.h1 HPB.out.h2
 have a0 : W4.drew.cell? ⟨g, 0, none⟩ = some lv := pc0
 have a3 : W4.drew.cell? ⟨gt, 3, none⟩ = some (.string (BA tt)) := q3
 have b0 : (W4.alloc (.cells #[.string ⟨#[]⟩, .string ⟨#[]⟩] 45)).drew.cell? ⟨g, 0, none⟩ = some lv := ((Below.alloc (Below.refl W4.heap.size W4) (Nat.le_refl _) _).cell (p := ⟨g, 0, none⟩) HX.out.ps.lt).trans pc0
 have b3 : (W4.alloc (.cells #[.string ⟨#[]⟩, .string ⟨#[]⟩] 45)).drew.cell? ⟨gt, 3, none⟩ = some (.string (BA tt)) := ((Below.alloc (Below.refl W4.heap.size W4) (Nat.le_refl _) _).cell (p := ⟨gt, 3, none⟩) HT.out.lt).trans q3
 have l1 := HX.out.ps.lt
 have l2 := HT.out.lt
 clear HO0
 go_wp2_with fail
 go_region_with (go_at_call 65; refine (KI.out _ ?_).mono ?_; (first | exact Below.drew (Below.refl _ _) | exact Below.alloc (Below.drew (Below.refl _ _)) (Nat.le_refl _) _); rintro e w9 ⟨rfl, hb⟩; have HB9 : Hid (Below W4.heap.size W4 w9) := (by first | exact chain5 (Below.drew (Below.refl _ _)) hb | exact chain5 (Below.alloc (Below.drew (Below.refl _ _)) (Nat.le_refl _) _) hb); (try (have HS9 : Hid (Sy.SB w9 W4.heap.size (.string ⟨#[]⟩) (.string ⟨#[]⟩)) := Sy.SB.keep (Sy.SB.new W4.drew (.string ⟨#[]⟩) (.string ⟨#[]⟩)) hb; have s0 := HS9.out.c0; have s1' := HS9.out.c1; have sf0 := SB.fr0 HS9.out; have sf1 := SB.fr1 HS9.out)))
 all_goals
  clear q0 q1 q2 q3 q4 a0 a3 b0 b3 pc0 pc1 l1 l2
  first
  | (obtain ⟨W5, hW5⟩ : ∃ W5, w9.alloc (.cells #[.string s1, .string s2] 45) = W5 := ⟨_, rfl⟩
     rw [hW5]
     have hbw : Below W4.heap.size W4 W5 := hW5 ▸ chain5 HB9.out (Below.alloc (Below.refl _ _) (Nat.le_refl _) _)
     replace HX := Lib.hid (HX.out.keep hbw)
     replace HT := Lib.hid (HT.out.keep hbw)
     replace HN := Lib.hid (HN.out.keep hbw)
     have HV : Hid (Sy.SB W5 w9.heap.size (.string s1) (.string s2)) := hW5 ▸ Sy.SB.new _ _ _
     clear hW5 hbw
     generalize w9.heap.size = gs at HV ⊢)
  | (obtain ⟨W5, hW5⟩ : ∃ W5, (w9.setCell ⟨W4.heap.size, 0, none⟩ (.string s1)).setCell ⟨W4.heap.size, 1, none⟩ (.string s2) = W5 := ⟨_, rfl⟩
     rw [hW5]
     have hbw : Below W4.heap.size W4 W5 := hW5 ▸ (HB9.out.setCell (Nat.le_refl _) _).setCell (Nat.le_refl _) _
     replace HX := Lib.hid (HX.out.keep hbw)
     replace HT := Lib.hid (HT.out.keep hbw)
     replace HN := Lib.hid (HN.out.keep hbw)
     have HV : Hid (Sy.SB W5 W4.heap.size (.string s1) (.string s2)) := hW5 ▸ SB.two HS9.out _ _
     clear hW5 hbw s0 s1' sf0 sf1 HS9
     generalize W4.heap.size = gs at HV ⊢)
 all_goals
  have hl1 := HL1.out
  have hl2 := HL2.out
  have n1 : ¬ w.heap.size = w.heap.size + 1 := by omega
  have n2 : ¬ w.heap.size + 1 = w.heap.size := by omega
  have n3 : ¬ gt = w.heap.size := by omega
  have n4 : ¬ w.heap.size = gt := by omega
  have n5' : ¬ gt = w.heap.size + 1 := by omega
  have n6' : ¬ w.heap.size + 1 = gt := by omega
  have n7' : ¬ gn = w.heap.size := by omega
  have n8 : ¬ w.heap.size = gn := by omega
  have n9 : ¬ gn = w.heap.size + 1 := by omega
  have n10 : ¬ w.heap.size + 1 = gn := by omega
  go_wp2_with fail
  have HX0 := Lib.hid (HX.out.keep ((Below.refl W5.heap.size W5).drew))
  have HN0 := Lib.hid (HN.out.keep ((Below.refl W5.heap.size W5).drew))
  have HT0 := Lib.hid (HT.out.keep ((Below.refl W5.heap.size W5).drew))
  obtain ⟨m0, m1, m2, m3, m4, m5, m6⟩ := HN0.out.c
  obtain ⟨p0, p1, p2, p3, p4⟩ := HT0.out.all
  dsimp only at p0 p1 p2 p3 p4
  go_region_with (go_at_call 31; refine (badR x tp _).mono ?_; rintro e w7 ⟨rfl, hb⟩; have HX5 := Lib.hid (HX0.out.keep hb); have HN5 := Lib.hid (HN0.out.keep hb); obtain ⟨b0, b1, b2, b3, b4, b5, b6⟩ := HN5.out.c; obtain ⟨d0, d1, d2, d3, d4, d5, d6⟩ := HX5.out.o.c; obtain ⟨f0, f1, f2, f3, f4, f5, f6⟩ := HX5.out.o.f; obtain ⟨ef0, ef1⟩ := HX5.out.e.frs; have ec0 := HX5.out.e.c0; have ec1 := HX5.out.e.c1; clear hb)
  all_goals
   go_wp2_with fail
   exact ((HX5.out.setO (.int .i64 0) (.string ⟨#[]⟩) (.string ⟨#[]⟩) (.string ⟨#[]⟩) (.string ⟨#[]⟩) (.string ⟨#[]⟩) (.slice none 0 0)).setE (.int .i64 x) (.int .i64 tp)).retBad rfl rfl rfl
set_option maxHeartbeats 8000000 in
set_option maxRecDepth 100000 in
theorem objQuoteR (W0 w : World) (g : Nat) (l : List Sy.Pg) (lv : Value) (cur : ByteArray) (d : Int) (tk tp : Int) (tq tt td : List UInt8) (r : List Tk) (h : PsR W0 w g l lv cur (⟨tk, tp, tq, tt, td⟩ :: r)) (k0' : tk ≠ 0) (n5 : tk ≠ 5) (n6 : tk ≠ 6) (n7 : tk ≠ 7) (n2 : tk ≠ 2) (n3 : tk ≠ 3) (n4 : tk = 4) (hd : ¬ 200 < d) (hd0 : 0 ≤ d) (ob : Ob) (r' : List Tk) (hO : ∀ w, PsR W0 w g l lv cur r → Calls Tryz.prog 37 #[.pointer (some ⟨g, 0, none⟩), .int .i64 (d + 1)] w (OutER W0 w g l lv cur (.ok ob r'))) : Calls Tryz.prog 37 #[.pointer (some ⟨g, 0, none⟩), .int .i64 d] w (OutER W0 w g l lv cur (.ok (.cons quoteO (.cons ob .nil)) r')) := by
 have k0 : (tk == 0) = false := by rw [beq_eq_false_iff_ne]; omega
 have k2 : (tk == 2) = false := by rw [beq_eq_false_iff_ne]; omega
 have k3 : (tk == 3) = false := by rw [beq_eq_false_iff_ne]; omega
 have k5 : (tk == 5) = false := by rw [beq_eq_false_iff_ne]; omega
 have k7 : (tk == 7) = false := by rw [beq_eq_false_iff_ne]; omega
 have k6 : (tk == 6) = false := by rw [beq_eq_false_iff_ne]; omega
 have k4 : (tk == 4) = true := by rw [beq_iff_eq]; omega
 have KO := Lib.hid hO
 have hw1 : IntKind.i64.wrap (d + 1) = d + 1 := IntWalk.i64_in _ (by omega)
 have HX := Lib.hid (RX.new h)
 clear h k0' n5 n6 n7 n2 n3 n4 hO
 go_enter Tryz.func37, Tryz.ntmps37
 go_upto_region 1 with fail
 generalize ((w.alloc (.cells #[.int .i64 0, .string ⟨#[]⟩, .string ⟨#[]⟩, .string ⟨#[]⟩, .string ⟨#[]⟩, .string ⟨#[]⟩, .slice none 0 0] 47)).alloc (.cells #[.int .i64 0, .int .i64 0] 26)) = W1 at HX ⊢
 obtain ⟨b, o, n, c, j, HC0⟩ := HX.out.ps.open
 have c0 := HC0.c0
 have c1 := HC0.c1
 have c2 := HC0.c2
 have c3 := HC0.c3
 have t0 := HC0.t0
 have t1 := HC0.t1
 have t2 := HC0.t2
 have t3 := HC0.t3
 have t4 := HC0.t4
 have hj := HC0.hj
 have hn := HC0.hn
 have hj0 : (0 : Int) ≤ (j : Int) := by omega
 have hj1 : (j : Int) < (n : Int) := by omega
 have HC1 := HC0.more ((Below.refl W1.heap.size W1).drew) HX.out.ps.lt HX.out.ps.bel
 have dc2 := HC1.c2
 have dc3 := HC1.c3
 have dt0 := HC1.t0
 have dt1 := HC1.t1
 have dt2 := HC1.t2
 have dt3 := HC1.t3
 have dt4 := HC1.t4
 have HC2 := HC0.more ((Below.alloc (Below.refl W1.heap.size W1) (Nat.le_refl _) (.cells #[.int .i64 0, .int .i64 0, .string ⟨#[]⟩, .string ⟨#[]⟩, .string ⟨#[]⟩] 65)).drew) HX.out.ps.lt HX.out.ps.bel
 have ac2 := HC2.c2
 have ac3 := HC2.c3
 have at0 := HC2.t0
 have at1 := HC2.t1
 have at2 := HC2.t2
 have at3 := HC2.t3
 have at4 := HC2.t4
 clear HC0 HC1 HC2
 go_wp2_with fail
 apply mergeG
 case h =>
  intro hG
  go_region_with (fail)
  all_goals exact hG
 clear c0 c1 c2 c3 t0 t1 t2 t3 t4 dc2 dc3 dt0 dt1 dt2 dt3 dt4 ac2 ac3 at0 at1 at2 at3 at4 hj hj0 hj1 hn
 have HT : Hid (TR (W1.alloc (.cells #[.int .i64 tk, .int .i64 tp, .string (BA tq), .string (BA tt), .string (BA td)] 65)).drew W1.heap.size (tkC ⟨tk, tp, tq, tt, td⟩)) := (TR.new W1 _).keep ((Below.refl _ _).drew)
 have HL1 : Hid (w.heap.size + 1 < W1.heap.size) := HX.out.e.lt
 replace HX : Hid (RX W0 w (W1.alloc (.cells #[.int .i64 tk, .int .i64 tp, .string (BA tq), .string (BA tt), .string (BA td)] 65)).drew g l lv cur (⟨tk, tp, tq, tt, td⟩ :: r) #[.int .i64 0, .string ⟨#[]⟩, .string ⟨#[]⟩, .string ⟨#[]⟩, .string ⟨#[]⟩, .string ⟨#[]⟩, .slice none 0 0] (.int .i64 0) (.int .i64 0)) := HX.out.keep ((Below.alloc (Below.refl _ _) (Nat.le_refl _) _).drew)
 generalize (W1.alloc (.cells #[.int .i64 tk, .int .i64 tp, .string (BA tq), .string (BA tt), .string (BA td)] 65)).drew = W2 at HX HT ⊢
 generalize W1.heap.size = gt at HT HL1 ⊢
 go_upto_region 3 with fail
 have HN : Hid (ObB (W2.alloc (.cells #[.int .i64 0, .string ⟨#[]⟩, .string ⟨#[]⟩, .string ⟨#[]⟩, .string ⟨#[]⟩, .string ⟨#[]⟩, .slice none 0 0] 47)) W2.heap.size #[.int .i64 0, .string ⟨#[]⟩, .string ⟨#[]⟩, .string ⟨#[]⟩, .string ⟨#[]⟩, .string ⟨#[]⟩, .slice none 0 0]) := heap_alloc_new _ _
 have hal := Below.alloc (Below.refl W2.heap.size W2) (Nat.le_refl _) (.cells #[.int .i64 0, .string ⟨#[]⟩, .string ⟨#[]⟩, .string ⟨#[]⟩, .string ⟨#[]⟩, .string ⟨#[]⟩, .slice none 0 0] 47)
 have HL2 : Hid (gt < W2.heap.size) := HT.out.lt
 replace HT := Lib.hid (HT.out.keep hal)
 replace HX := Lib.hid (HX.out.keep hal)
 clear hal
 generalize (W2.alloc (.cells #[.int .i64 0, .string ⟨#[]⟩, .string ⟨#[]⟩, .string ⟨#[]⟩, .string ⟨#[]⟩, .string ⟨#[]⟩, .slice none 0 0] 47)) = W3 at HX HT HN ⊢
 generalize W2.heap.size = gn at HN HL2 ⊢
 obtain ⟨q0, q1, q2, q3, q4⟩ := HT.out.all
 dsimp only at q0 q1 q2 q3 q4
 obtain ⟨b', o', n', c', j', HO0⟩ := HX.out.ps.open
 have HO := Lib.hid HO0
 have pc3 := HO0.c3
 have pcf := HO0.cf
 have hjb := HO0.hj
 have hnb := HO0.hn
 have hw0 : IntKind.i64.wrap ((j' : Int) + 1) = (j' : Int) + 1 := IntWalk.i64_in _ (by omega)
 clear HO0
 go_upto_region 27 with fail
 have HGG := HX.out.hg
 replace HX := Lib.hid (HX.out.tick HO.out)
 have hl1' := HL1.out
 have hl2' := HL2.out
 replace HT := Lib.hid (HT.out.ocell (k := 3) (b := g) (by omega) (.int .i64 ((j' : Int) + 1)))
 replace HN := Lib.hid (HN.out.ocell (k := 3) (b := g) (y := .int .i64 ((j' : Int) + 1)) (by omega))
 clear q0 q1 q2 q3 q4 pc3 pcf hjb hnb hw0 HO hl1' hl2' HGG
 generalize W3.setCell ⟨g, 3, none⟩ (.int .i64 ((j' : Int) + 1)) = W4 at HX HT HN ⊢
 obtain ⟨q0, q1, q2, q3, q4⟩ := HT.out.all
 dsimp only at q0 q1 q2 q3 q4
 go_wp2_with fail
 refine (KO.out _ HX.out.ps).mono ?_
 rintro e w5 ⟨p, rfl, hp, hps, hb⟩
 obtain ⟨x0, x1, x2, x3, x4, x5, hz⟩ := cells7 ob p
 have HZ : Hid (Val7 ob p x0 x1 x2 x3 x4 x5) := hz
 have hA := boxes2_spec w5 ob p (.int .i64 0) (.int .i64 0)
 have hsz := HX.out.e.lt
 have hlt := hb.size
 have HX2 : Hid (RX W0 w (boxes2 w5 ob p (.int .i64 0) (.int .i64 0)) g l lv cur r' #[.int .i64 0, .string ⟨#[]⟩, .string ⟨#[]⟩, .string ⟨#[]⟩, .string ⟨#[]⟩, .string ⟨#[]⟩, .slice none 0 0] (.int .i64 0) (.int .i64 0)) := (HX.out.next hb hps).keep hA.1
 have HP : Hid (Pair (boxes2 w5 ob p (.int .i64 0) (.int .i64 0)) (fun b => w.heap.size + 1 < b ∧ b < (boxes2 w5 ob p (.int .i64 0) (.int .i64 0)).heap.size) ob p) := hp.keep (fun b hb => ⟨by omega, by have := hA.1.size; omega⟩) (fun b hb => hA.1.block b hb.2)
 have HE := Lib.hid hA.2.2
 have HQ : Hid (ObB (boxes2 w5 ob p (.int .i64 0) (.int .i64 0)) w5.heap.size #[x0, x1, x2, x3, x4, x5, p]) := by have := hA.2.1; rw [hz] at this; exact this
 have HP5 := Lib.hid hp
 have HX5 : Hid (w.heap.size + 1 < w5.heap.size) := by show _ < _; omega
 clear hsz hlt hA hz hp hps hb HX HT HN q0 q1 q2 q3 q4 HL1 HL2
 go_upto_region 29 with (first | (refine storeV rfl (.tmp 11) (.tmp 125) rfl w5.heap.size ob p rfl rfl HP5.out 47 _ (heap_old1 _ _ _) rfl ?_) | (refine EB.store (.tmp 12) (.tmp 126) rfl rfl (w5.heap.size + 1) 0 0 _ _ rfl rfl ((newE w5 _ _ _).row (by omega) _) ?_))
 have HX := HX2
 clear HX2 HP5
 unfold boxes2 at HX HP HE HQ
 generalize (((w5.alloc (.cells #[.int .i64 0, .string ⟨#[]⟩, .string ⟨#[]⟩, .string ⟨#[]⟩, .string ⟨#[]⟩, .string ⟨#[]⟩, .slice none 0 0] 47)).alloc (.cells #[.int .i64 0, .int .i64 0] 26)).setRow w5.heap.size (cellsO ob p).toArray).setRow (w5.heap.size + 1) #[.int .i64 0, .int .i64 0] = W5 at HX HP HE HQ ⊢
 obtain ⟨ge, hge⟩ : ∃ ge, w5.heap.size + 1 = ge := ⟨_, rfl⟩
 rw [hge] at HE ⊢
 have hge2 : w.heap.size + 1 < ge := by have := HX5.out; omega
 have hge3 : w.heap.size + 1 < w5.heap.size := HX5.out
 clear hge HX5
 generalize w5.heap.size = gq at HQ hge3 ⊢
 have ec0 := HE.out.c0
 have ec1 := HE.out.c1
 have n1 : ¬ w.heap.size = w.heap.size + 1 := by omega
 have n2 : ¬ w.heap.size + 1 = w.heap.size := by omega
 have n11 : ¬ ge = w.heap.size := by omega
 have n12 : ¬ w.heap.size = ge := by omega
 have n13 : ¬ ge = w.heap.size + 1 := by omega
 have n14 : ¬ w.heap.size + 1 = ge := by omega
 have n15 : ¬ gq = w.heap.size := by omega
 have n16 : ¬ w.heap.size = gq := by omega
 have n17 : ¬ gq = w.heap.size + 1 := by omega
 have n18 : ¬ w.heap.size + 1 = gq := by omega
 go_upto_region 31 with fail
 have HX0 := Lib.hid (HX.out.keep ((Below.refl W5.heap.size W5).drew))
 have HQ0 := Lib.hid (HQ.out.keep ((Below.refl W5.heap.size W5).drew))
 have HE0 := Lib.hid (HE.out.keep ((Below.refl W5.heap.size W5).drew))
 have HP0 : Hid (Pair W5.drew (fun b => w.heap.size + 1 < b ∧ b < W5.drew.heap.size) ob p) := Pair.keep (w := W5) (w' := W5.drew) (fun b hb => hb) (fun b hb => rfl) HP.out
 obtain ⟨c0, c1, c2, c3, c4, c5, c6⟩ := HQ.out.c
 obtain ⟨d0, d1, d2, d3, d4, d5, d6⟩ := HQ0.out.c
 have e0 := HE0.out.c0
 have e1 := HE0.out.c1
 go_wp2_with fail
 go_region_held3 (fun W' => W'.cell? ⟨gq, 0, none⟩ = some x0 ∧ W'.cell? ⟨gq, 1, none⟩ = some x1 ∧ W'.cell? ⟨gq, 2, none⟩ = some x2 ∧ W'.cell? ⟨gq, 3, none⟩ = some x3 ∧ W'.cell? ⟨gq, 4, none⟩ = some x4 ∧ W'.cell? ⟨gq, 5, none⟩ = some x5 ∧ W'.cell? ⟨gq, 6, none⟩ = some p ∧ W'.cell? ⟨ge, 0, none⟩ = some (.int .i64 0) ∧ W'.cell? ⟨ge, 1, none⟩ = some (.int .i64 0)) (go_keep) ((first | (go_at_call 26; refine (lispO _ _).mono ?_; rintro e w6 ⟨rfl, hb⟩; have HX6 := Lib.hid (HX0.out.keep hb); have HQ6 := Lib.hid (HQ0.out.keep hb); have HE6 := Lib.hid (HE0.out.keep hb); have HP6 : Hid (Pair w6 (fun b => w.heap.size + 1 < b ∧ b < w6.heap.size) ob p) := HP0.out.keep (fun b hb' => ⟨hb'.1, by have := hb.size; omega⟩) (fun b hb' => hb.block b hb'.2); obtain ⟨u06, u16, u26, u36, u46, u56, u66⟩ := HQ6.out.c; have v06 := HE6.out.c0; have v16 := HE6.out.c1; clear hb) | (go_at_call 25; refine (symF _ _).mono ?_; rintro e w7 ⟨rfl, hb⟩; have HX7 := Lib.hid (HX6.out.keep hb); have HQ7 := Lib.hid (HQ6.out.keep hb); have HE7 := Lib.hid (HE6.out.keep hb); have HP7 : Hid (Pair w7 (fun b => w.heap.size + 1 < b ∧ b < w7.heap.size) ob p) := HP6.out.keep (fun b hb' => ⟨hb'.1, by have := hb.size; omega⟩) (fun b hb' => hb.block b hb'.2); obtain ⟨u07, u17, u27, u37, u47, u57, u67⟩ := HQ7.out.c; have v07 := HE7.out.c0; have v17 := HE7.out.c1; clear hb) | (go_at_call 24; refine (listQR ob p x0 x1 x2 x3 x4 x5 HZ.out _ w7.heap.size (fun b => w.heap.size + 1 < b ∧ b < (w7.alloc (.cells #[.int .i64 2, .string ⟨#[]⟩, .string ⟨#[]⟩, .string (BA lispB), .string ⟨#[113, 117, 111, 116, 101]⟩, .string ⟨#[]⟩, .slice none 0 0, x0, x1, x2, x3, x4, x5, p] 47)).heap.size) (fun b hb => hb.2) ⟨HX7.out.e.lt, by simp⟩ (heap_alloc_new _ _) ?_).mono ?_; exact (HP7.out.keep (fun b hb => ⟨hb.1, by have := hb.2; simp; omega⟩) (fun b hb => (Below.alloc (Below.refl w7.heap.size w7) (Nat.le_refl _) _).block b hb.2)); rintro e w8 ⟨b', o', c', rfl, hp8, hb8⟩; have hb := chain5 (Below.alloc (Below.refl w7.heap.size w7) (Nat.le_refl _) (.cells #[.int .i64 2, .string ⟨#[]⟩, .string ⟨#[]⟩, .string (BA lispB), .string ⟨#[113, 117, 111, 116, 101]⟩, .string ⟨#[]⟩, .slice none 0 0, x0, x1, x2, x3, x4, x5, p] 47)) hb8; have HX8 := Lib.hid (HX7.out.keep hb); have HQ8 := Lib.hid (HQ7.out.keep hb); have HE8 := Lib.hid (HE7.out.keep hb); obtain ⟨u08, u18, u28, u38, u48, u58, u68⟩ := HQ8.out.c; have v08 := HE8.out.c0; have v18 := HE8.out.c1; have HP8 := Lib.hid hp8; have HB8 := Lib.hid hb; have HW8 : Hid ((w7.alloc (.cells #[.int .i64 2, .string ⟨#[]⟩, .string ⟨#[]⟩, .string (BA lispB), .string ⟨#[113, 117, 111, 116, 101]⟩, .string ⟨#[]⟩, .slice none 0 0, x0, x1, x2, x3, x4, x5, p] 47)).heap.size ≤ w8.heap.size) := hb8.size; obtain ⟨k0, k1, k2, k3, k4, k5, k6⟩ := HX8.out.o.c; obtain ⟨f0, f1, f2, f3, f4, f5, f6⟩ := HX8.out.o.f; obtain ⟨ef0, ef1⟩ := HX8.out.e.frs; have oc0 := HX8.out.e.c0; have oc1 := HX8.out.e.c1; clear hb hp8 hb8)))
 go_wp2_with fail
 refine HX8.out.fin7 (o := .cons quoteO (.cons ob .nil)) rfl HP8.out (fun b hb => ?_) rfl rfl rfl
 have h1 := HX7.out.e.lt
 have h2 := HB8.out.size
 have h3 : (w7.alloc (.cells #[.int .i64 2, .string ⟨#[]⟩, .string ⟨#[]⟩, .string (BA lispB), .string ⟨#[113, 117, 111, 116, 101]⟩, .string ⟨#[]⟩, .slice none 0 0, x0, x1, x2, x3, x4, x5, p] 47)).heap.size = w7.heap.size + 1 := by simp
 have h4 := HX8.out.e.lt
 have h5 := HW8.out
 rcases hb with hb | hb
 · exact ⟨hb.1, by have := hb.2; omega⟩
 · exact ⟨by have := hb.1; omega, hb.2⟩
theorem obStepR5 (f : Nat) (HO : ObR2 f) (HL : LiR2 f) : ObR2 (f + 1) := by
 intro W0 w g l lv cur d ts h hw hk hkn hpb hd0 hd3 hout
 cases ts with
 | nil => exact absurd rfl hw.ne
 | cons t r =>
  have hks : TkS r := hk.suf (List.suffix_cons _ _)
  have hkns : TkN r := hkn.suf (List.suffix_cons _ _)
  have hnum := hkn t List.mem_cons_self
  obtain ⟨tk, tp, tq, tt, td⟩ := t
  rw [parF_tk] at hout ⊢
  by_cases k0 : tk = 0
  · rw [if_pos k0]; exact objEndR W0 w g l lv cur d tk tp tq tt td r h k0
  rw [if_neg k0] at hout ⊢
  by_cases k5 : tk = 5
  · rw [if_pos k5]; exact objNumR W0 w g l lv cur d tk tp tq tt td r h k5 (hnum k5).1 (hnum k5).2
  rw [if_neg k5] at hout ⊢
  by_cases k6 : tk = 6
  · rw [if_pos k6]
    by_cases hq : tq = []
    · rcases hm : Sy.internM l cur (BA tt) with ⟨⟨s1, s2⟩, x⟩
      have hS : symL l cur ⟨tk, tp, tq, tt, td⟩ = ((LA s1, LA s2), x) := by
       unfold symL homeB
       rw [show (if (⟨tk, tp, tq, tt, td⟩ : Tk).pkg = [] then cur else BA (⟨tk, tp, tq, tt, td⟩ : Tk).pkg) = cur from if_pos hq]
       show ((LA (Sy.internM l cur (BA tt)).1.1, LA (Sy.internM l cur (BA tt)).1.2), (Sy.internM l cur (BA tt)).2) = _
       rw [hm]
      rw [hS]
      by_cases hx : x = 0
      · rw [if_pos hx]; exact objSymER W0 w g l lv cur d tk tp tq tt td r h k6 hq hpb s1 s2 x hx hm
      · rw [if_neg hx]; exact objSymBadER W0 w g l lv cur d tk tp tq tt td r h k6 hq hpb s1 s2 x hx hm
    · rcases hm : Sy.internM l (BA tq) (BA tt) with ⟨⟨s1, s2⟩, x⟩
      have hS : symL l cur ⟨tk, tp, tq, tt, td⟩ = ((LA s1, LA s2), x) := by
       unfold symL homeB
       rw [show (if (⟨tk, tp, tq, tt, td⟩ : Tk).pkg = [] then cur else BA (⟨tk, tp, tq, tt, td⟩ : Tk).pkg) = BA tq from if_neg hq]
       show ((LA (Sy.internM l (BA tq) (BA tt)).1.1, LA (Sy.internM l (BA tq) (BA tt)).1.2), (Sy.internM l (BA tq) (BA tt)).2) = _
       rw [hm]
      rw [hS]
      by_cases hx : x = 0
      · rw [if_pos hx]; exact objSymQR W0 w g l lv cur d tk tp tq tt td r h k6 hq hpb s1 s2 x hx hm
      · rw [if_neg hx]; exact objSymBadQR W0 w g l lv cur d tk tp tq tt td r h k6 hq hpb s1 s2 x hx hm
  rw [if_neg k6] at hout ⊢
  by_cases k7 : tk = 7
  · rw [if_pos k7]; exact objStrR W0 w g l lv cur d tk tp tq tt td r h k7
  rw [if_neg k7] at hout ⊢
  by_cases k2 : tk = 2
  · rw [if_pos (Or.inl k2)]; exact objCloseR W0 w g l lv cur d tk tp tq tt td r h k2
  by_cases k3 : tk = 3
  · rw [if_pos (Or.inr k3)]; exact objDotR W0 w g l lv cur d tk tp tq tt td r h k3
  have k23 : ¬ (tk = 2 ∨ tk = 3) := fun h => h.elim k2 k3
  rw [if_neg k23] at hout ⊢
  by_cases hd : 200 < d
  · rw [if_pos hd]; exact objDeepR W0 w g l lv cur d tk tp tq tt td r h k0 k5 k6 k7 k2 k3 hd
  rw [if_neg hd] at hout ⊢
  have hw' : WfT r := hw.tail k0
  by_cases k4 : tk = 4
  · rw [if_pos k4] at hout ⊢
    have hO : ∀ w, PsR W0 w g l lv cur r → parF (symL l cur) numK f (d + 1) r ≠ .out → _ := fun w h ho => HO W0 w g l lv cur (d + 1) r h hw' hks hkns hpb (by omega) (by omega) ho
    cases hp : parF (symL l cur) numK f (d + 1) r with
    | out => rw [hp] at hout; exact absurd rfl hout
    | ok ob r' =>
     rw [hp] at hO
     exact objQuoteR W0 w g l lv cur d tk tp tq tt td r h k0 k5 k6 k7 k2 k3 k4 hd hd0 ob r' fun w h => hO w h (by intro e; cases e)
    | bad x q =>
     have hx := par_code hp
     rw [hp] at hO
     exact objQuoteBadR W0 w g l lv cur d tk tp tq tt td r h k0 k5 k6 k7 k2 k3 k4 hd hd0 x q hx fun w h => hO w h (by intro e; cases e)
  · rw [if_neg k4] at hout ⊢
    have hL : ∀ w, PsR W0 w g l lv cur r → lisF (symL l cur) numK f (d + 1) [] r ≠ .out → _ := fun w h ho => HL W0 w g l lv cur (d + 1) r h hw' hks hkns hpb (by omega) (by omega) ho
    cases hp : lisF (symL l cur) numK f (d + 1) [] r with
    | out => rw [hp] at hout; exact absurd rfl hout
    | ok ob r' =>
     rw [hp] at hL
     exact objListR W0 w g l lv cur d tk tp tq tt td r h k0 k5 k6 k7 k2 k3 k4 hd hd0 ob r' fun w h => hL w h (by intro e; cases e)
    | bad x q =>
     rw [hp] at hL
     exact objListBadR W0 w g l lv cur d tk tp tq tt td r h k0 k5 k6 k7 k2 k3 k4 hd hd0 x q fun w h => hL w h (by intro e; cases e)
theorem obAllR5 (f : Nat) : ObR2 f := by
 induction f using Nat.strongRecOn with
 | _ f ih =>
  cases f with
  | zero => intro W0 w g l lv cur d ts h hw hk hkn hpb hd0 hd3 hout; exact absurd (by rw [parF]) hout
  | succ k => exact obStepR5 k (ih k (by omega)) (listR5 k fun f' hf => ih f' (by omega))
set_option maxHeartbeats 8000000
set_option maxRecDepth 100000

theorem At.seven {w : World} {S : Nat → Prop} {o : Ob} {b k : Nat} {p x0 x1 x2 x3 x4 x5 : Value} (h : At w S o b k p) (hz : Val7 o p x0 x1 x2 x3 x4 x5) :
 w.cell? ⟨b, k, none⟩ = some x0 ∧ w.cell? ⟨b, k + 1, none⟩ = some x1 ∧ w.cell? ⟨b, k + 2, none⟩ = some x2 ∧ w.cell? ⟨b, k + 3, none⟩ = some x3 ∧ w.cell? ⟨b, k + 4, none⟩ = some x4 ∧ w.cell? ⟨b, k + 5, none⟩ = some x5 ∧ w.cell? ⟨b, k + 6, none⟩ = some p := by
 have hc := h.2.1
 rw [hz] at hc
 exact ⟨hc 0 _ rfl, hc 1 _ rfl, hc 2 _ rfl, hc 3 _ rfl, hc 4 _ rfl, hc 5 _ rfl, hc 6 _ rfl⟩
theorem countR5 : ∀ (N : Nat) (a : Ob) (p : Value) (m : Int) (w : World) (S : Nat → Prop), a.nodes ≤ N → In S w → Pair w S a p → (a.nodes : Int) < m → m ≤ 3001 →
 Calls Tryz.prog 67 #[vO a p, .int .i64 m] w (fun e w' => e = .returned (.int .i64 a.nodes) ∧ Below w.heap.size w w') := by
 intro N
 induction N with
 | zero => intro a p m w S hN; have := a.nodes_pos; omega
 | succ N IH =>
  intro a p m w S hN hS h hm hm2
  have pos := a.nodes_pos
  have IH' := Lib.hid IH
  clear IH
  obtain ⟨x0, x1, x2, x3, x4, x5, e⟩ := cells7 a p
  have HB : Hid (Below w.heap.size w (w.alloc (.cells #[x0, x1, x2, x3, x4, x5, p] 47))) := Below.alloc (Below.refl _ _) (Nat.le_refl _) _
  have HO : Hid (ObB (w.alloc (.cells #[x0, x1, x2, x3, x4, x5, p] 47)) w.heap.size #[x0, x1, x2, x3, x4, x5, p]) := heap_alloc_new w _
  unfold vO
  rw [e]
  cases ha : a.isCons with
  | false =>
   obtain rfl := h.flat ha
   have hx1 : a.nodes = 1 := by cases a <;> first | rfl | simp [Ob.isCons] at ha
   rw [hx1]
   clear e h ha hN hm pos
   go_enter Tryz.func67, Tryz.ntmps67
   go_upto_region 1 with fail
   generalize w.alloc (.cells #[x0, x1, x2, x3, x4, x5, .slice none 0 0] 47) = W1 at HB HO ⊢
   obtain ⟨c0, c1, c2, c3, c4, c5, c6⟩ := HO.out.c
   go_wp2
   go_ret
   exact ⟨rfl, HB.out⟩
  | true =>
   cases a with
   | cons a d =>
    obtain ⟨b', o', c', pa, pd, rfl, hc, hA, hD⟩ := h.parts
    have hnn : (Ob.cons a d).nodes = 1 + a.nodes + d.nodes := rfl
    rw [hnn] at hm hN ⊢
    have pa1 := a.nodes_pos
    have pd1 := d.nodes_pos
    obtain ⟨u0, u1, u2, u3, u4, u5, eu⟩ := cells7 a pa
    obtain ⟨v0, v1, v2, v3, v4, v5, ev⟩ := cells7 d pd
    have hb2 : b' < w.heap.size := hS _ hA.1.1
    have CA : Hid (∀ W, Below w.heap.size w W → Calls Tryz.prog 67 #[.agg #[u0, u1, u2, u3, u4, u5, pa], .int .i64 (m - 1)] W (fun e w' => e = .returned (.int .i64 a.nodes) ∧ Below W.heap.size W w')) := fun W hb => by
     have := IH'.out a pa (m - 1) W S (by omega) (hS.later hb.size) (hA.2.2.below hS hb) (by omega) (by omega)
     unfold vO at this
     rw [eu] at this
     exact this
    have CD : Hid (∀ W, Below w.heap.size w W → Calls Tryz.prog 67 #[.agg #[v0, v1, v2, v3, v4, v5, pd], .int .i64 (m - (1 + a.nodes))] W (fun e w' => e = .returned (.int .i64 d.nodes) ∧ Below W.heap.size W w')) := fun W hb => by
     have := IH'.out d pd (m - (1 + a.nodes)) W S (by omega) (hS.later hb.size) (hD.2.2.below hS hb) (by omega) (by omega)
     unfold vO at this
     rw [ev] at this
     exact this
    have HA := Lib.hid hA
    have HD := Lib.hid hD
    have EU : Hid (Val7 a pa u0 u1 u2 u3 u4 u5) := eu
    have EV : Hid (Val7 d pd v0 v1 v2 v3 v4 v5) := ev
    have hp1 : 1 < m := by omega
    have hp2 : ¬ m ≤ 1 := by omega
    have hp3 : ¬ m ≤ 1 + (a.nodes : Int) := by omega
    have hw1 : IntKind.i64.wrap (m - 1) = m - 1 := IntWalk.i64_in _ (by omega)
    have hw2 : IntKind.i64.wrap (1 + (a.nodes : Int)) = 1 + (a.nodes : Int) := IntWalk.i64_in _ (by omega)
    have hw3 : IntKind.i64.wrap (m - (1 + (a.nodes : Int))) = m - (1 + (a.nodes : Int)) := IntWalk.i64_in _ (by omega)
    have hw4 : IntKind.i64.wrap (1 + (a.nodes : Int) + (d.nodes : Int)) = 1 + (a.nodes : Int) + (d.nodes : Int) := IntWalk.i64_in _ (by omega)
    have hcast : Hid (((1 + a.nodes + d.nodes : Nat) : Int) = 1 + (a.nodes : Int) + (d.nodes : Int)) := by show _ = _; omega
    clear h ha e hnn eu ev hA hD hN hm hS
    generalize (a.nodes : Int) = na at CA CD hp3 hw2 hw3 hw4 hcast
    generalize (d.nodes : Int) = nd at CD hw4 hcast
    go_enter Tryz.func67, Tryz.ntmps67
    go_upto_region 1 with fail
    generalize w.alloc (.cells #[x0, x1, x2, x3, x4, x5, .slice (some ⟨b', o', none⟩) 2 c'] 47) = W1 at HB HO ⊢
    obtain ⟨c0, c1, c2, c3, c4, c5, c6⟩ := HO.out.c
    have cellW : ∀ k, W1.cell? ⟨b', k, none⟩ = w.cell? ⟨b', k, none⟩ := fun k => HB.out.cell (p := ⟨b', k, none⟩) hb2
    obtain ⟨l0, l1, l2, l3, l4, l5, l6⟩ := At.seven HA.out EU.out
    replace l0 := (cellW _).trans l0
    replace l1 := (cellW _).trans l1
    replace l2 := (cellW _).trans l2
    replace l3 := (cellW _).trans l3
    replace l4 := (cellW _).trans l4
    replace l5 := (cellW _).trans l5
    replace l6 := (cellW _).trans l6
    clear cellW
    go_wp2_with fail
    refine (CA.out _ HB.out).mono ?_
    rintro e w2 ⟨rfl, hb⟩
    replace HO := Lib.hid (HO.out.keep hb)
    replace HB := Lib.hid (chain5 HB.out hb)
    clear hb l0 l1 l2 l3 l4 l5 l6 c0 c1 c2 c3 c4 c5 c6
    obtain ⟨c0, c1, c2, c3, c4, c5, c6⟩ := HO.out.c
    have cellW : ∀ k, w2.cell? ⟨b', k, none⟩ = w.cell? ⟨b', k, none⟩ := fun k => HB.out.cell (p := ⟨b', k, none⟩) hb2
    obtain ⟨l0, l1, l2, l3, l4, l5, l6⟩ := At.seven HD.out EV.out
    replace l0 := (cellW _).trans l0
    replace l1 := (cellW _).trans l1
    replace l2 := (cellW _).trans l2
    replace l3 := (cellW _).trans l3
    replace l4 := (cellW _).trans l4
    replace l5 := (cellW _).trans l5
    replace l6 := (cellW _).trans l6
    clear cellW
    go_wp2_with fail
    refine (CD.out _ HB.out).mono ?_
    rintro e w3 ⟨rfl, hb⟩
    replace HB := Lib.hid (chain5 HB.out hb)
    clear hb l0 l1 l2 l3 l4 l5 l6 c0 c1 c2 c3 c4 c5 c6
    go_wp2
    go_ret
    rw [hcast.out]
    exact ⟨rfl, HB.out⟩
   | _ => simp [Ob.isCons] at ha
theorem nodesR5 (a : Ob) (p : Value) (w : World) (S : Nat → Prop) (hS : In S w) (h : Pair w S a p) (hn : a.nodes ≤ 3000) :
 Calls Tryz.prog 38 #[vO a p] w (fun e w' => e = .returned (.int .i64 a.nodes) ∧ Below w.heap.size w w') := by
 obtain ⟨x0, x1, x2, x3, x4, x5, e⟩ := cells7 a p
 have hb : Below w.heap.size w (w.alloc (.cells #[x0, x1, x2, x3, x4, x5, p] 47)) := Below.alloc (Below.refl _ _) (Nat.le_refl _) _
 have call := countR5 a.nodes a p 3001 (w.alloc (.cells #[x0, x1, x2, x3, x4, x5, p] 47)) S (Nat.le_refl _) (hS.later hb.size) (h.below hS hb) (by omega) (by omega)
 have HO : Hid (ObB (w.alloc (.cells #[x0, x1, x2, x3, x4, x5, p] 47)) w.heap.size #[x0, x1, x2, x3, x4, x5, p]) := heap_alloc_new w _
 unfold vO at call ⊢
 rw [e] at call ⊢
 have CALL := Lib.hid call
 have HB := Lib.hid hb
 clear e hb call h
 go_enter Tryz.func38, Tryz.ntmps38
 go_upto_region 1 with fail
 generalize w.alloc (.cells #[x0, x1, x2, x3, x4, x5, p] 47) = W1 at HB HO CALL ⊢
 obtain ⟨c0, c1, c2, c3, c4, c5, c6⟩ := HO.out.c
 go_wp2_with fail
 refine CALL.out.mono ?_
 rintro e w2 ⟨rfl, hb⟩
 replace HB := Lib.hid (chain5 HB.out hb)
 clear hb c0 c1 c2 c3 c4 c5 c6
 go_wp2
 go_ret
 exact ⟨rfl, HB.out⟩
end Go.Proofs.YtflnffgohbbhiaaGreatDoor
