/- The text of an integer, which texts are decimals, and what a text stands for. No program is named here. -/
import Derived.Test.YtinjhnnpbejccaaGreatDoorG0
namespace Go.Proofs.YtinjhnnpbejccaaGreatDoor

def isDig (c : UInt8) : Bool := decide (48 ≤ c.toNat) && decide (c.toNat ≤ 57)
def isMinus (l : List UInt8) : Bool := l.head? == some 45
def strip (l : List UInt8) : List UInt8 := if isMinus l then l.tail else l
def goodDigits : List UInt8 → Bool
 | [] => false
 | c :: r => (c != 48) && isDig c && r.all isDig
def valid (l : List UInt8) : Bool := l == [48] || goodDigits (strip l)

def toDigs (l : List UInt8) : List Nat := l.reverse.map fun c => c.toNat - 48
def neg (l : List UInt8) : Bool := valid l && isMinus l
def body (l : List UInt8) : List UInt8 := if valid l then strip l else [48]
def mag (l : List UInt8) : Nat := ofD (toDigs (body l))
def val (l : List UInt8) : Int := if neg l then -(mag l : Int) else (mag l : Int)

def byteOf (d : Nat) : UInt8 := UInt8.ofNat (d + 48)
def magText (n : Nat) : List UInt8 := if n = 0 then [48] else ((digs n).map byteOf).reverse
def signText (s : Bool) (n : Nat) : List UInt8 := if s && n != 0 then 45 :: magText n else magText n
def text (x : Int) : List UInt8 := signText (decide (x < 0)) x.natAbs

theorem byteOf_toNat {d : Nat} (h : d < 10) : (byteOf d).toNat = d + 48 := by
 unfold byteOf
 rw [UInt8.toNat_ofNat']
 omega

theorem toDigs_magText {n : Nat} (h : n ≠ 0) : toDigs (magText n) = digs n := by
 unfold toDigs magText
 rw [if_neg h, List.reverse_reverse, List.map_map]
 have : ∀ l : List Nat, AllDig l → l.map ((fun c : UInt8 => c.toNat - 48) ∘ byteOf) = l := by
  intro l
  induction l with
  | nil => intro _; rfl
  | cons d l ih =>
   intro hl
   rw [List.map_cons, ih (fun x hx => hl x (by simp [hx]))]
   simp only [Function.comp_apply]
   rw [byteOf_toNat (hl d (by simp))]
   simp
 exact this _ (allDig_digs n)

theorem ofD_toDigs_magText (n : Nat) : ofD (toDigs (magText n)) = n := by
 by_cases h : n = 0
 · subst h; decide
 · rw [toDigs_magText h, ofD_digs]

theorem isDig_byteOf {d : Nat} (h : d < 10) : isDig (byteOf d) = true := by
 unfold isDig
 rw [byteOf_toNat h]
 simp
 omega

theorem goodDigits_magText {n : Nat} (h : n ≠ 0) : goodDigits (magText n) = true := by
 unfold magText
 rw [if_neg h]
 have hne := digs_ne_nil h
 have ht := trimmed_digs n hne
 have ha := allDig_digs n
 obtain ⟨c, e⟩ : ∃ c, digs n = c ++ [(digs n).getLast hne] := ⟨_, (List.dropLast_concat_getLast hne).symm⟩
 generalize (digs n).getLast hne = d at e ht
 rw [e] at ha ⊢
 have hd : d < 10 := ha d (by simp)
 rw [List.map_append, List.reverse_append]
 simp only [List.map_cons, List.map_nil, List.reverse_cons, List.reverse_nil, List.nil_append, List.singleton_append, goodDigits, Bool.and_eq_true, isDig_byteOf hd, and_true]
 constructor
 · rw [bne_iff_ne]
   intro h48
   have := congrArg UInt8.toNat h48
   rw [byteOf_toNat hd] at this
   simp at this
   omega
 · rw [List.all_eq_true]
   intro x hx
   rw [List.mem_reverse, List.mem_map] at hx
   obtain ⟨y, hy, rfl⟩ := hx
   exact isDig_byteOf (ha y (by simp [hy]))

theorem isMinus_of_good {l : List UInt8} (h : goodDigits l = true) : isMinus l = false := by
 cases l with
 | nil => rfl
 | cons c r =>
  simp only [goodDigits, Bool.and_eq_true] at h
  unfold isMinus
  simp only [List.head?_cons]
  rw [beq_eq_false_iff_ne]
  intro e
  injection e with e
  subst e
  exact absurd h.1.2 (by decide)

theorem strip_minus (l : List UInt8) : strip (45 :: l) = l := rfl
theorem strip_good {l : List UInt8} (h : goodDigits l = true) : strip l = l := by unfold strip; rw [isMinus_of_good h]; rfl

theorem valid_signText (s : Bool) (n : Nat) : valid (signText s n) = true := by
 unfold signText
 by_cases h : n = 0
 · subst h; cases s <;> decide
 · have hg := goodDigits_magText h
   have hb : (n != 0) = true := by simpa using h
   cases s
   · simp only [Bool.false_and, Bool.false_eq_true, if_false]
     unfold valid
     rw [strip_good hg, hg, Bool.or_true]
   · simp only [Bool.true_and, hb, if_true]
     unfold valid
     rw [strip_minus, hg, Bool.or_true]

theorem valid_text (x : Int) : valid (text x) = true := valid_signText _ _

theorem mag_signText (s : Bool) (n : Nat) : mag (signText s n) = n := by
 unfold mag body
 rw [if_pos (valid_signText s n)]
 unfold signText
 by_cases h : n = 0
 · subst h; cases s <;> decide
 · have hg := goodDigits_magText h
   have hb : (n != 0) = true := by simpa using h
   cases s
   · simp only [Bool.false_and, Bool.false_eq_true, if_false]
     rw [strip_good hg, ofD_toDigs_magText]
   · simp only [Bool.true_and, hb, if_true]
     rw [strip_minus, ofD_toDigs_magText]

theorem neg_signText (s : Bool) (n : Nat) : neg (signText s n) = (s && n != 0) := by
 unfold neg
 rw [valid_signText, Bool.true_and]
 unfold signText
 by_cases h : n = 0
 · subst h; cases s <;> decide
 · have hg := goodDigits_magText h
   have hb : (n != 0) = true := by simpa using h
   cases s
   · simp only [Bool.false_and, Bool.false_eq_true, if_false]
     exact isMinus_of_good hg
   · simp only [Bool.true_and, hb, if_true]
     rfl

theorem val_text (x : Int) : val (text x) = x := by
 unfold val text
 rw [neg_signText, mag_signText]
 by_cases h : x < 0
 · have : (x.natAbs != 0) = true := by rw [bne_iff_ne]; omega
   simp only [h, decide_true, this, Bool.and_self, if_true]
   omega
 · simp only [h, decide_false, Bool.false_and, Bool.false_eq_true, if_false]
   omega

theorem signText_eq (s : Bool) (n : Nat) : signText s n = text (if s then -(n : Int) else n) := by
 unfold text signText
 by_cases h : n = 0
 · subst h; cases s <;> rfl
 · cases s
   · have e : ¬ ((n : Int) < 0) := by omega
     simp [e]
   · have e : 0 < n := by omega
     simp [e]

theorem allDig_toDigs {l : List UInt8} (h : l.all isDig = true) : AllDig (toDigs l) := by
 intro d hd
 unfold toDigs at hd
 rw [List.mem_map] at hd
 obtain ⟨c, hc, rfl⟩ := hd
 have := List.all_eq_true.1 h c (List.mem_reverse.1 hc)
 simp only [isDig, Bool.and_eq_true, decide_eq_true_eq] at this
 omega

theorem good_all {l : List UInt8} (h : goodDigits l = true) : l.all isDig = true := by
 cases l with
 | nil => rfl
 | cons c r =>
  simp only [goodDigits, Bool.and_eq_true] at h
  simp [h.1.2, h.2]

theorem body_all (l : List UInt8) : (body l).all isDig = true := by
 unfold body
 by_cases h : valid l = true
 · rw [if_pos h]
   unfold valid at h
   rw [Bool.or_eq_true] at h
   rcases h with h | h
   · rw [eq_of_beq h]; decide
   · exact good_all h
 · rw [if_neg h]; decide

theorem allDig_body (l : List UInt8) : AllDig (toDigs (body l)) := allDig_toDigs (body_all l)
theorem body_cases (l : List UInt8) : body l = [48] ∨ goodDigits (body l) = true := by
 unfold body
 by_cases h : valid l = true
 · rw [if_pos h]
   unfold valid at h
   rw [Bool.or_eq_true] at h
   rcases h with h | h
   · left; rw [eq_of_beq h]; rfl
   · exact .inr h
 · rw [if_neg h]; exact .inl rfl

theorem trimmed_toDigs {l : List UInt8} (h : goodDigits l = true) : Trimmed (toDigs l) := by
 cases l with
 | nil => simp [goodDigits] at h
 | cons c r =>
  simp only [goodDigits, Bool.and_eq_true] at h
  unfold toDigs
  rw [List.reverse_cons, List.map_append]
  apply trimmed_snoc
  have h1 : c ≠ 48 := by simpa using h.1.1
  have h2 := h.1.2
  simp only [isDig, Bool.and_eq_true, decide_eq_true_eq] at h2
  intro h0
  apply h1
  simp only at h0
  have : c.toNat = 48 := by omega
  exact UInt8.toNat_inj.1 (by simpa using this)

theorem digs_mag (l : List UInt8) : digs (mag l) = if body l = [48] then [] else toDigs (body l) := by
 by_cases h : body l = [48]
 · rw [if_pos h]; unfold mag; rw [h]; decide
 · rw [if_neg h]
   rcases body_cases l with h' | h'
   · exact absurd h' h
   · exact digs_ofD (allDig_body l) (trimmed_toDigs h')

theorem byteOf_sub {c : UInt8} (h : isDig c = true) : byteOf (c.toNat - 48) = c := by
 simp only [isDig, Bool.and_eq_true, decide_eq_true_eq] at h
 unfold byteOf
 rw [Nat.sub_add_cancel h.1]
 exact UInt8.ofNat_toNat

theorem magText_mag (l : List UInt8) : magText (mag l) = body l := by
 by_cases h : body l = [48]
 · unfold mag; rw [h]; decide
 · have hd := digs_mag l
   rw [if_neg h] at hd
   rcases body_cases l with h' | h'
   · exact absurd h' h
   · have hn : mag l ≠ 0 := by
      intro h0
      rw [h0, digs_zero] at hd
      have : body l = [] := by
       unfold toDigs at hd
       simpa using hd.symm
      rw [this] at h'
      simp [goodDigits] at h'
     unfold magText
     rw [if_neg hn, hd]
     unfold toDigs
     rw [List.map_map, ← List.map_reverse, List.reverse_reverse]
     have : ∀ m : List UInt8, m.all isDig = true → m.map (byteOf ∘ fun c => c.toNat - 48) = m := by
      intro m
      induction m with
      | nil => intro _; rfl
      | cons c r ih =>
       intro hm
       rw [List.all_cons, Bool.and_eq_true] at hm
       rw [List.map_cons, ih hm.2]
       simp only [Function.comp_apply]
       rw [byteOf_sub hm.1]
     exact this _ (good_all h')

theorem isMinus_strip {l : List UInt8} (h : isMinus l = true) : l = 45 :: strip l := by
 cases l with
 | nil => simp [isMinus] at h
 | cons c r =>
  have : c = 45 := by simpa [isMinus] using h
  subst this
  rfl
theorem text_val {l : List UInt8} (h : valid l = true) : text (val l) = l := by
 have hm := magText_mag l
 have hs : ∀ s : Bool, text (if s then -(mag l : Int) else (mag l : Int)) = signText s (mag l) := fun s => (signText_eq s _).symm
 unfold val
 rw [hs]
 unfold signText
 rw [hm]
 unfold neg body
 rw [h]
 simp only [Bool.true_and, if_true]
 by_cases hi : isMinus l = true
 · have hl := isMinus_strip hi
   have hne : mag l ≠ 0 := by
    intro h0
    rw [h0] at hm
    have hb : body l = strip l := by unfold body; rw [if_pos h]
    have h48 : strip l = [48] := by rw [← hb, ← hm]; rfl
    unfold valid at h
    rw [h48] at h
    rw [Bool.or_eq_true] at h
    rcases h with h | h
    · have := eq_of_beq h
      rw [this] at hi
      exact absurd hi (by decide)
    · exact absurd h (by decide)
   have hb : (mag l != 0) = true := by simpa using hne
   rw [hi, hb]
   simp only [Bool.and_self, if_true]
   exact hl.symm
 · have hi' : isMinus l = false := by simpa using hi
   rw [hi']
   simp only [Bool.false_and, Bool.false_eq_true, if_false]
   unfold strip
   rw [hi']
   rfl

theorem magText_length {n k : Nat} (h : n < 10 ^ k) : (magText n).length ≤ k + 1 := by
 unfold magText
 by_cases h0 : n = 0
 · rw [if_pos h0]; simp
 · rw [if_neg h0, List.length_reverse, List.length_map]
   have := digs_length_le h
   omega
theorem signText_length (s : Bool) {n k : Nat} (h : n < 10 ^ k) : (signText s n).length ≤ k + 2 := by
 have := magText_length h
 unfold signText
 split
 · simp only [List.length_cons]; omega
 · omega
theorem text_length {x : Int} {k : Nat} (h : x.natAbs < 10 ^ k) : (text x).length ≤ k + 2 := signText_length _ h

theorem strip_length (l : List UInt8) : (strip l).length ≤ l.length := by
 unfold strip
 split
 · simp
 · exact Nat.le_refl _
theorem body_length (l : List UInt8) : (body l).length ≤ max 1 l.length := by
 unfold body
 split
 · have := strip_length l; omega
 · simp; omega
theorem mag_lt (l : List UInt8) : mag l < 10 ^ (max 1 l.length) := by
 have h := ofD_lt (allDig_body l)
 have h2 : (toDigs (body l)).length = (body l).length := by unfold toDigs; simp
 rw [h2] at h
 exact Nat.lt_of_lt_of_le h (Nat.pow_le_pow_right (by decide) (body_length l))
theorem val_natAbs (l : List UInt8) : (val l).natAbs = mag l := by
 unfold val
 split <;> omega

end Go.Proofs.YtinjhnnpbejccaaGreatDoor
