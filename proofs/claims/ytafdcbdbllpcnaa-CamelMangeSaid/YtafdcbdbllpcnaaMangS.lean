/- Mange, plain: who is sick on a day, and two ways to reckon it. No program is named here. -/
import Derived.Test.YtafdcbdbllpcnaaSpec
namespace Go.Proofs.Ytafdcbdbllpcnaa

/-- A meeting. -/
structure Mt where
  a : Int
  b : Int
  day : Int
  close : Bool
/-- i may have it from j, or j from i. -/
def Mt.links (x : Mt) (i j : Int) : Prop := (x.a = i ∧ x.b = j) ∨ (x.b = i ∧ x.a = j)
def okMt (n : Int) (x : Mt) : Prop := 0 ≤ x.a ∧ x.a < n ∧ 0 ≤ x.b ∧ x.b < n ∧ x.a ≠ x.b ∧ 0 ≤ x.day ∧ x.day ≤ 100000
/-- i is sick from day t on, if it is passed on at the meetings E, w days behind each. -/
inductive Sk (first : List Int) (E : Mt → Prop) (w : Int) : Int → Int → Prop
  | start {i : Int} : i ∈ first → Sk first E w i 0
  | caught {i j s : Int} {x : Mt} : Sk first E w i s → E x → x.links i j → s ≤ x.day → Sk first E w j (x.day + w)
/-- It is sick on day d. -/
def SkBy (first : List Int) (E : Mt → Prop) (w d i : Int) : Prop := ∃ t, Sk first E w i t ∧ t ≤ d

theorem Sk.early {first : List Int} {E F : Mt → Prop} {w v i t : Int} (hE : ∀ x, F x → E x) (hw : w ≤ v) (h : Sk first F v i t) : ∃ s, Sk first E w i s ∧ s ≤ t := by
  induction h with
  | start h => exact ⟨0, .start h, Int.le_refl _⟩
  | caught h hx hl hs ih =>
    obtain ⟨s, h1, h2⟩ := ih
    exact ⟨_, .caught h1 (hE _ hx) hl (by omega), by omega⟩
theorem SkBy.early {first : List Int} {E F : Mt → Prop} {w v d i : Int} (hE : ∀ x, F x → E x) (hw : w ≤ v) (h : SkBy first F v d i) : SkBy first E w d i := by
  obtain ⟨t, h1, h2⟩ := h
  obtain ⟨s, h3, h4⟩ := h1.early hE hw
  exact ⟨s, h3, by omega⟩
theorem Sk.pos {first : List Int} {E : Mt → Prop} {w i t : Int} (hd : ∀ x, E x → 0 ≤ x.day) (hw : 1 ≤ w) (h : Sk first E w i t) : 0 ≤ t := by
  induction h with
  | start h => exact Int.le_refl _
  | caught h hx hl hs ih => have := hd _ hx; omega
theorem Sk.rng {first : List Int} {E : Mt → Prop} {n w i t : Int} (hf : ∀ i ∈ first, 0 ≤ i ∧ i < n) (ho : ∀ x, E x → okMt n x) (h : Sk first E w i t) : 0 ≤ i ∧ i < n := by
  cases h with
  | start h => exact hf _ h
  | caught h hx hl hs =>
    obtain ⟨h1, h2, h3, h4, -⟩ := ho _ hx
    rcases hl with ⟨-, rfl⟩ | ⟨-, rfl⟩
    · exact ⟨h3, h4⟩
    · exact ⟨h1, h2⟩

/-- What is reckoned is true: nobody is told to be sick who is not. -/
def Snd (first : List Int) (E : Mt → Prop) (w n N : Int) (f : Int → Int) : Prop := ∀ i, 0 ≤ i → i < n → f i = N ∨ Sk first E w i (f i)
/-- Each of the meetings P is reckoned. -/
def Reck (E P : Mt → Prop) (w : Int) (f : Int → Int) : Prop := ∀ x, P x → E x → (f x.a ≤ x.day → f x.b ≤ x.day + w) ∧ (f x.b ≤ x.day → f x.a ≤ x.day + w)

theorem Reck.low {E P : Mt → Prop} {w D : Int} {f g : Int → Int} (h : Reck E P w f) (hg : ∀ j, g j = f j ∨ (g j ≤ f j ∧ g j = D + w)) (hd : ∀ x, P x → x.day ≤ D) (hw : 1 ≤ w) : Reck E P w g := by
  intro x hx hE
  obtain ⟨h1, h2⟩ := h x hx hE
  have hD := hd x hx
  have ga := hg x.a
  have gb := hg x.b
  constructor
  · intro h3
    have : f x.a ≤ x.day := by rcases ga with h | ⟨h, h'⟩ <;> omega
    have := h1 this
    rcases gb with h | ⟨h, h'⟩ <;> omega
  · intro h3
    have : f x.b ≤ x.day := by rcases gb with h | ⟨h, h'⟩ <;> omega
    have := h2 this
    rcases ga with h | ⟨h, h'⟩ <;> omega
theorem Snd.caught {first : List Int} {E : Mt → Prop} {w n N : Int} {f : Int → Int} (h : Snd first E w n N f) {i j : Int} {x : Mt} (hx : E x) (ho : okMt n x) (hN : 100000 < N) (hl : x.links i j) (hf : f i ≤ x.day) : Sk first E w j (x.day + w) := by
  obtain ⟨h1, h2, h3, h4, -, h6, h7⟩ := ho
  have hi : 0 ≤ i ∧ i < n := by
    rcases hl with ⟨rfl, -⟩ | ⟨rfl, -⟩
    · exact ⟨h1, h2⟩
    · exact ⟨h3, h4⟩
  rcases h i hi.1 hi.2 with h | h
  · omega
  · exact .caught h hx hl hf
/-- Where all is reckoned that matters by day d, who is told to be sick on day d is. -/
theorem reckoned {first : List Int} {E P : Mt → Prop} {w n N d : Int} {f : Int → Int} (hs : Snd first E w n N f) (hb : ∀ i ∈ first, f i ≤ 0) (hr : Reck E P w f) (hf : ∀ i ∈ first, 0 ≤ i ∧ i < n) (ho : ∀ x, E x → okMt n x)
    (hp : ∀ x, E x → P x ∨ d < x.day + w) (hw : 1 ≤ w) (hd : d < N) {i : Int} (hi : 0 ≤ i ∧ i < n) : f i ≤ d ↔ SkBy first E w d i := by
  constructor
  · intro h
    rcases hs i hi.1 hi.2 with h' | h'
    · omega
    · exact ⟨_, h', h⟩
  · rintro ⟨t, ht, htd⟩
    suffices h : ∀ i t, Sk first E w i t → t ≤ d → f i ≤ t by have := h i t ht htd; omega
    intro i t ht
    induction ht with
    | start h => intro _; exact hb _ h
    | @caught i j s x h hx hl hs' ih =>
      intro hle
      have h1 : f i ≤ s := ih (by omega)
      rcases hp x hx with hP | hP
      · obtain ⟨r1, r2⟩ := hr x hP hx
        rcases hl with ⟨rfl, rfl⟩ | ⟨rfl, rfl⟩
        · exact r1 (by omega)
        · exact r2 (by omega)
      · omega

/-- One direction of a meeting. -/
def upd (f : Int → Int) (i v : Int) : Int → Int := fun j => if j = i then v else f j
def passOn (b : Bool) (D w : Int) (i j : Int) (f : Int → Int) : Int → Int := if b = true ∧ f i ≤ D then upd f j (mn (f j) (D + w)) else f
theorem passOn_low (b : Bool) (D w : Int) (i j : Int) (f : Int → Int) : ∀ k, passOn b D w i j f k = f k ∨ (passOn b D w i j f k ≤ f k ∧ passOn b D w i j f k = D + w) := by
  intro k
  unfold passOn
  by_cases h : b = true ∧ f i ≤ D
  · rw [if_pos h]
    unfold upd
    by_cases hk : k = j
    · subst hk
      simp only [if_true, mn]
      split <;> omega
    · rw [if_neg hk]; exact .inl rfl
  · rw [if_neg h]; exact .inl rfl
theorem passOn_to {b : Bool} {D w : Int} {i j : Int} {f : Int → Int} (hb : b = true) (h : f i ≤ D) : passOn b D w i j f j ≤ D + w := by
  unfold passOn
  rw [if_pos ⟨hb, h⟩]
  simp only [upd, if_true, mn]
  split <;> omega
theorem passOn_same {b : Bool} {D w : Int} {i j k : Int} {f : Int → Int} (h : k ≠ j) : passOn b D w i j f k = f k := by
  unfold passOn
  split
  · simp [upd, h]
  · rfl
theorem passOn_le (b : Bool) (D w : Int) (i j : Int) (f : Int → Int) (k : Int) : passOn b D w i j f k ≤ f k := by
  rcases passOn_low b D w i j f k with h | ⟨h, -⟩ <;> omega
theorem Snd.pass {first : List Int} {E : Mt → Prop} {w n N : Int} {f : Int → Int} (h : Snd first E w n N f) {b : Bool} {i j : Int} {x : Mt} (hx : b = true → E x) (ho : okMt n x) (hN : 100000 < N) (hl : x.links i j) : Snd first E w n N (passOn b x.day w i j f) := by
  intro k h1 h2
  unfold passOn
  by_cases hc : b = true ∧ f i ≤ x.day
  · rw [if_pos hc]
    unfold upd
    by_cases hk : k = j
    · subst hk
      simp only [if_true, mn]
      split
      · exact .inr (h.caught (hx hc.1) ho hN hl hc.2)
      · exact h k h1 h2
    · rw [if_neg hk]; exact h k h1 h2
  · rw [if_neg hc]; exact h k h1 h2
/-- Both directions of a meeting, behind all of earlier days. -/
def both (b : Bool) (x : Mt) (w : Int) (f : Int → Int) : Int → Int := passOn b x.day w x.b x.a (passOn b x.day w x.a x.b f)
theorem Snd.passes {first : List Int} {E : Mt → Prop} {w n N : Int} {f : Int → Int} (h : Snd first E w n N f) {b : Bool} {x : Mt} (hx : b = true → E x) (ho : okMt n x) (hN : 100000 < N) : Snd first E w n N (both b x w f) :=
  (h.pass hx ho hN (.inl ⟨rfl, rfl⟩)).pass hx ho hN (.inr ⟨rfl, rfl⟩)
theorem both_le (b : Bool) (x : Mt) (w : Int) (f : Int → Int) (k : Int) : both b x w f k ≤ f k := Int.le_trans (passOn_le ..) (passOn_le ..)
theorem Reck.passes {E P : Mt → Prop} {w n : Int} {f : Int → Int} (h : Reck E P w f) {b : Bool} {x : Mt} (hx : E x → b = true) (ho : okMt n x) (hd : ∀ y, P y → y.day ≤ x.day) (hw : 1 ≤ w) : Reck E (fun y => P y ∨ y = x) w (both b x w f) := by
  have hne := ho.2.2.2.2.1
  have h1 : Reck E P w (both b x w f) := (h.low (passOn_low b x.day w x.a x.b f) hd hw).low (passOn_low b x.day w x.b x.a _) hd hw
  rintro y (hy | rfl) hE
  · exact h1 y hy hE
  · have hb := hx hE
    unfold both
    have e1 : passOn b y.day w y.b y.a (passOn b y.day w y.a y.b f) y.b = passOn b y.day w y.a y.b f y.b := passOn_same (fun e => hne e.symm)
    constructor
    · intro h2
      rw [e1]
      have h3 : f y.a ≤ y.day := by
        rcases passOn_low b y.day w y.b y.a (passOn b y.day w y.a y.b f) y.a with h | ⟨h, h'⟩
        · rw [h, passOn_same hne] at h2; exact h2
        · omega
      exact passOn_to hb h3
    · intro h2
      rw [e1] at h2
      exact passOn_to hb h2

/-- What is known of an animal. -/
def Knw (first : List Int) (ms : List Mt) (w : Int × Int) (d i v : Int) : Prop :=
  (SkBy first (fun x => x ∈ ms ∧ x.close = true) w.2 d i ∧ v = 2) ∨ (¬ SkBy first (fun x => x ∈ ms ∧ x.close = true) w.2 d i ∧ SkBy first (fun x => x ∈ ms) w.1 d i ∧ v = 1) ∨ (¬ SkBy first (fun x => x ∈ ms) w.1 d i ∧ v = 0)
theorem Knw.unique {first : List Int} {ms : List Mt} {w : Int × Int} {d i u v : Int} (hw : w.1 ≤ w.2) (h1 : Knw first ms w d i u) (h2 : Knw first ms w d i v) : u = v := by
  have hs : SkBy first (fun x => x ∈ ms ∧ x.close = true) w.2 d i → SkBy first (fun x => x ∈ ms) w.1 d i := fun h => h.early (fun _ hx => hx.1) hw
  rcases h1 with ⟨a, rfl⟩ | ⟨a, b, rfl⟩ | ⟨a, rfl⟩ <;> rcases h2 with ⟨c, rfl⟩ | ⟨c, d, rfl⟩ | ⟨c, rfl⟩ <;> first | rfl | exact absurd c a | exact absurd a c | exact absurd (hs c) a | exact absurd (hs a) c | exact absurd d a | exact absurd b c
theorem Knw.range {first : List Int} {ms : List Mt} {w : Int × Int} {d i v : Int} (h : Knw first ms w d i v) : 0 ≤ v ∧ v ≤ 2 := by
  rcases h with ⟨-, rfl⟩ | ⟨-, -, rfl⟩ | ⟨-, rfl⟩ <;> decide
/-- By its days. -/
theorem Knw.told {first : List Int} {ms : List Mt} {w : Int × Int} {d i lo hi : Int} (hw : w.1 ≤ w.2) (h1 : lo ≤ d ↔ SkBy first (fun x => x ∈ ms) w.1 d i) (h2 : hi ≤ d ↔ SkBy first (fun x => x ∈ ms ∧ x.close = true) w.2 d i) :
    Knw first ms w d i (if hi ≤ d then 2 else if lo ≤ d then 1 else 0) := by
  by_cases h : hi ≤ d
  · rw [if_pos h]; exact .inl ⟨h2.1 h, rfl⟩
  · rw [if_neg h]
    by_cases h' : lo ≤ d
    · rw [if_pos h']; exact .inr (.inl ⟨fun hh => h (h2.2 hh), h1.1 h', rfl⟩)
    · rw [if_neg h']; exact .inr (.inr ⟨fun hh => h' (h1.2 hh), rfl⟩)
end Go.Proofs.Ytafdcbdbllpcnaa
/- The reckoning of mange until nothing changes, plain. -/
namespace Go.Proofs.Ytafdcbdbllpcnaa

/-- A list of days as a function of the animal. -/
def fI (xs : List Int) (i : Int) : Int := xs.getD i.toNat 0
theorem fI_nat (xs : List Int) (k : Nat) : fI xs (k : Int) = xs.getD k 0 := by simp [fI]
theorem fI_set {xs : List Int} {k : Nat} {v : Int} (hk : k < xs.length) {j : Int} (hj : 0 ≤ j) : fI (xs.set k v) j = if j = (k : Int) then v else fI xs j := by
  unfold fI
  by_cases h : j = (k : Int)
  · subst h
    simp [hk]
  · rw [if_neg h]
    have : k ≠ j.toNat := by omega
    simp [List.getD, List.getElem?_set_ne this]
def sumN (xs : List Int) : Nat := (xs.map Int.toNat).sum
theorem sumN_set : ∀ {xs : List Int} {k : Nat} {v : Int}, k < xs.length → 0 ≤ v → v < xs.getD k 0 → sumN (xs.set k v) < sumN xs
  | [], k, v, h, _, _ => by simp at h
  | x :: xs, 0, v, h, h1, h2 => by
    simp [sumN] at h2 ⊢
    omega
  | x :: xs, k + 1, v, h, h1, h2 => by
    have := sumN_set (xs := xs) (k := k) (v := v) (by simpa using h) h1 (by simpa using h2)
    simp [sumN] at this ⊢
    omega

/-- One direction of a meeting, as the document's reckoning goes. -/
def half (D w : Int) (i j : Nat) (xs : List Int) : List Int := if xs.getD i 0 ≤ D ∧ D + w < xs.getD j 0 then xs.set j (D + w) else xs
theorem half_len (D w : Int) (i j : Nat) (xs : List Int) : (half D w i j xs).length = xs.length := by
  unfold half; split <;> simp
/-- What stands at any time. -/
structure Fine (first : List Int) (E : Mt → Prop) (w n N : Int) (xs : List Int) : Prop where
  len : (xs.length : Int) = n
  snd : Snd first E w n N (fI xs)
structure Inn (first : List Int) (ms : List Mt) (E : Mt → Prop) (w n N : Int) (xs0 xs : List Int) (cb : Bool) (j : Nat) : Prop where
  good : Fine first E w n N xs
  base : ∀ i ∈ first, fI xs i ≤ 0
  calm : cb = false → xs = xs0 ∧ Reck E (fun x => x ∈ ms.take j) w (fI xs)
  less : cb = true → sumN xs < sumN xs0
theorem Fine.half {first : List Int} {E : Mt → Prop} {w n N : Int} {xs : List Int} (h : Fine first E w n N xs) {x : Mt} (hx : E x) (ho : okMt n x) (hN : 100000 < N) {i j : Nat} (hl : x.links i j) (hj : j < xs.length) : Fine first E w n N (half x.day w i j xs) := by
  refine ⟨by rw [half_len]; exact h.len, ?_⟩
  unfold Proofs.Ytafdcbdbllpcnaa.half
  split
  · rename_i hc
    intro k h1 h2
    rw [fI_set hj h1]
    split
    · rename_i hk
      subst hk
      exact .inr (h.snd.caught hx ho hN hl (by rw [fI_nat]; exact hc.1))
    · exact h.snd k h1 h2
  · exact h.snd
theorem half_base {D w : Int} {i j : Nat} {xs : List Int} {k : Int} (hk : 0 ≤ k) (hj : j < xs.length) (h : fI xs k ≤ 0) : fI (half D w i j xs) k ≤ 0 := by
  unfold half
  split
  · rename_i hc
    rw [fI_set hj hk]
    split
    · rename_i e
      subst e
      rw [fI_nat] at h
      omega
    · exact h
  · exact h
def moved (D w : Int) (i j : Nat) (xs : List Int) : Bool := decide (xs.getD i 0 ≤ D) && decide (D + w < xs.getD j 0)
theorem half_moved {D w : Int} {i j : Nat} {xs : List Int} (h : moved D w i j xs = true) : half D w i j xs = xs.set j (D + w) := by
  simp only [moved, Bool.and_eq_true, decide_eq_true_eq] at h
  exact if_pos h
theorem half_still {D w : Int} {i j : Nat} {xs : List Int} (h : moved D w i j xs = false) : half D w i j xs = xs := by
  refine if_neg fun h' => ?_
  simp only [moved, Bool.and_eq_false_iff, decide_eq_false_iff_not] at h
  rcases h with h | h
  · exact h h'.1
  · exact h h'.2
theorem half_sum {D w : Int} {i j : Nat} {xs : List Int} (hj : j < xs.length) (hD : 0 ≤ D + w) : sumN (half D w i j xs) ≤ sumN xs ∧ (moved D w i j xs = true → sumN (half D w i j xs) < sumN xs) := by
  cases h : moved D w i j xs with
  | false => rw [half_still h]; exact ⟨Nat.le_refl _, fun h => by cases h⟩
  | true =>
    have hs : sumN (half D w i j xs) < sumN xs := by
      rw [half_moved h]
      simp only [moved, Bool.and_eq_true, decide_eq_true_eq] at h
      exact sumN_set hj hD h.2
    exact ⟨Nat.le_of_lt hs, fun _ => hs⟩
/-- A meeting, reckoned. -/
theorem Inn.step {first : List Int} {ms : List Mt} {E : Mt → Prop} {w n N : Int} {xs0 xs : List Int} {cb : Bool} {k : Nat} (h : Inn first ms E w n N xs0 xs cb k) (hk : k < ms.length) (hx : E ms[k]) (ho : okMt n ms[k]) (hN : 100000 < N) (hw : 1 ≤ w) (hf : ∀ i ∈ first, 0 ≤ i) {i j : Nat} (hi : ms[k].a = (i : Int)) (hj : ms[k].b = (j : Int)) :
    Inn first ms E w n N xs0 (half ms[k].day w j i (half ms[k].day w i j xs)) (cb || moved ms[k].day w i j xs || moved ms[k].day w j i (half ms[k].day w i j xs)) (k + 1) := by
  obtain ⟨o1, o2, o3, o4, o5, o6, o7⟩ := id ho
  have hlen := h.good.len
  have li : i < xs.length := by omega
  have lj : j < xs.length := by omega
  have g1 := h.good.half (x := ms[k]) (i := i) (j := j) hx ho hN (.inl ⟨hi, hj⟩) lj
  have li' : i < (Proofs.Ytafdcbdbllpcnaa.half ms[k].day w i j xs).length := by rw [half_len]; exact li
  have g2 := g1.half (x := ms[k]) (i := j) (j := i) hx ho hN (.inr ⟨hj, hi⟩) li'
  have s1 := half_sum (D := ms[k].day) (w := w) (i := i) (j := j) (xs := xs) lj (by omega)
  have s2 := half_sum (D := ms[k].day) (w := w) (i := j) (j := i) (xs := Proofs.Ytafdcbdbllpcnaa.half ms[k].day w i j xs) li' (by omega)
  refine ⟨g2, fun q hq => half_base (hf q hq) li' (half_base (hf q hq) lj (h.base q hq)), ?_, ?_⟩
  · intro hc
    simp only [Bool.or_eq_false_iff] at hc
    obtain ⟨⟨c1, c2⟩, c3⟩ := hc
    rw [half_still c2] at c3 ⊢
    rw [half_still c3]
    obtain ⟨e, hr⟩ := h.calm c1
    refine ⟨e, fun y hy hE => ?_⟩
    rw [List.take_succ_eq_append_getElem hk, List.mem_append] at hy
    rcases hy with hy | hy
    · exact hr y hy hE
    · obtain rfl : y = ms[k] := by simpa using hy
      rw [hi, hj, fI_nat, fI_nat]
      simp only [moved, Bool.and_eq_false_iff, decide_eq_false_iff_not] at c2 c3
      constructor <;> intro hh <;> omega
  · intro hc
    simp only [Bool.or_eq_true] at hc
    rcases hc with (hc | hc) | hc
    · have := h.less hc; omega
    · have := s1.2 hc
      cases hcb : cb with
      | true => have := h.less hcb; omega
      | false => obtain ⟨e, -⟩ := h.calm hcb; rw [← e]; omega
    · have := s2.2 hc
      cases hcb : cb with
      | true => have := h.less hcb; omega
      | false => obtain ⟨e, -⟩ := h.calm hcb; rw [← e]; omega
theorem Inn.skip {first : List Int} {ms : List Mt} {E : Mt → Prop} {w n N : Int} {xs0 xs : List Int} {cb : Bool} {k : Nat} (h : Inn first ms E w n N xs0 xs cb k) (hk : k < ms.length) (hx : ¬ E ms[k]) : Inn first ms E w n N xs0 xs cb (k + 1) := by
  refine ⟨h.good, h.base, fun hc => ⟨(h.calm hc).1, fun y hy hE => ?_⟩, h.less⟩
  rw [List.take_succ_eq_append_getElem hk, List.mem_append] at hy
  rcases hy with hy | hy
  · exact (h.calm hc).2 y hy hE
  · obtain rfl : y = ms[k] := by simpa using hy
    exact absurd hE hx
theorem Inn.start {first : List Int} {ms : List Mt} {E : Mt → Prop} {w n N : Int} {xs : List Int} (g : Fine first E w n N xs) (hb : ∀ i ∈ first, fI xs i ≤ 0) : Inn first ms E w n N xs xs false 0 :=
  ⟨g, hb, fun _ => ⟨rfl, fun y hy => by simp at hy⟩, fun h => by cases h⟩
theorem Inn.calms {first : List Int} {ms : List Mt} {E : Mt → Prop} {w n N : Int} {xs0 xs : List Int} (h : Inn first ms E w n N xs0 xs false ms.length) : Reck E (fun x => x ∈ ms) w (fI xs) := by
  have := (h.calm rfl).2
  rwa [List.take_length] at this
theorem good_start {first : List Int} {E : Mt → Prop} {w n N : Int} {k : Nat} (hk : (k : Int) = n) : Fine first E w n N (List.replicate k N) :=
  ⟨by simpa using hk, fun i h1 h2 => .inl (by
    unfold fI
    have : i.toNat < k := by omega
    simp [this])⟩
theorem good_first {first : List Int} {E : Mt → Prop} {w n N : Int} {xs : List Int} (h : Fine first E w n N xs) {j : Nat} (hj : j < xs.length) (hm : (j : Int) ∈ first) : Fine first E w n N (xs.set j 0) := by
  refine ⟨by simpa using h.len, fun i h1 h2 => ?_⟩
  rw [fI_set hj h1]
  split
  · rename_i e
    subst e
    exact .inr (.start hm)
  · exact h.snd i h1 h2
theorem base_first {xs : List Int} {j : Nat} (hj : j < xs.length) {L : List Int} (hL : ∀ i ∈ L, 0 ≤ i) (h : ∀ i ∈ L, fI xs i ≤ 0) : ∀ i ∈ L ++ [(j : Int)], fI (xs.set j 0) i ≤ 0 := by
  intro i hi
  rw [List.mem_append] at hi
  have h0 : 0 ≤ i := by
    rcases hi with hi | hi
    · exact hL i hi
    · simp at hi; omega
  rw [fI_set hj h0]
  split
  · exact Int.le_refl _
  · rename_i hne
    rcases hi with hi | hi
    · exact h i hi
    · simp at hi; exact absurd hi hne
end Go.Proofs.Ytafdcbdbllpcnaa
/- The sweep of the meetings by their days, plain. -/
namespace Go.Proofs.Ytafdcbdbllpcnaa

/-- Lists of spans of days as functions of the animal. -/
def fL (ss : List (Int × Int)) (i : Int) : Int := if 0 ≤ i then (ss.getD i.toNat (0, 0)).1 else 0
def fH (ss : List (Int × Int)) (i : Int) : Int := if 0 ≤ i then (ss.getD i.toNat (0, 0)).2 else 0
theorem fL_nat (ss : List (Int × Int)) (k : Nat) : fL ss (k : Int) = (ss.getD k (0, 0)).1 := by simp [fL]
theorem fH_nat (ss : List (Int × Int)) (k : Nat) : fH ss (k : Int) = (ss.getD k (0, 0)).2 := by simp [fH]
theorem getD_set_ne {ss : List (Int × Int)} {j k : Nat} {v : Int × Int} (h : k ≠ j) : (ss.set j v).getD k (0, 0) = ss.getD k (0, 0) := by
  simp [List.getD, List.getElem?_set_ne (fun e => h e.symm)]
theorem getD_set_eq {ss : List (Int × Int)} {j : Nat} {v : Int × Int} (h : j < ss.length) : (ss.set j v).getD j (0, 0) = v := by simp [h]
theorem fL_set {ss : List (Int × Int)} {j : Nat} {v : Int × Int} (h : j < ss.length) : fL (ss.set j v) = upd (fL ss) (j : Int) v.1 := by
  funext i
  unfold fL upd
  by_cases e : i = (j : Int)
  · subst e
    simp [h]
  · rw [if_neg e]
    by_cases hi : 0 ≤ i
    · simp only [hi, if_true, getD_set_ne (show i.toNat ≠ j by omega)]
    · simp only [hi, if_false]
theorem fH_set {ss : List (Int × Int)} {j : Nat} {v : Int × Int} (h : j < ss.length) : fH (ss.set j v) = upd (fH ss) (j : Int) v.2 := by
  funext i
  unfold fH upd
  by_cases e : i = (j : Int)
  · subst e
    simp [h]
  · rw [if_neg e]
    by_cases hi : 0 ≤ i
    · simp only [hi, if_true, getD_set_ne (show i.toNat ≠ j by omega)]
    · simp only [hi, if_false]

/-- One direction of a meeting, early and late. -/
def dir (D : Int) (wt : Int × Int) (c : Bool) (i j : Nat) (ss : List (Int × Int)) : List (Int × Int) :=
  ss.set j (if (ss.getD i (0, 0)).1 ≤ D then mn (ss.getD j (0, 0)).1 (D + wt.1) else (ss.getD j (0, 0)).1, if c = true ∧ (ss.getD i (0, 0)).2 ≤ D then mn (ss.getD j (0, 0)).2 (D + wt.2) else (ss.getD j (0, 0)).2)
theorem dir_len (D : Int) (wt : Int × Int) (c : Bool) (i j : Nat) (ss : List (Int × Int)) : (dir D wt c i j ss).length = ss.length := by simp [dir]
theorem dir_L {D : Int} {wt : Int × Int} {c : Bool} {i j : Nat} {ss : List (Int × Int)} (hj : j < ss.length) : fL (dir D wt c i j ss) = passOn true D wt.1 (i : Int) (j : Int) (fL ss) := by
  unfold dir
  rw [fL_set hj]
  unfold passOn
  rw [fL_nat, fL_nat]
  by_cases h : (ss.getD i (0, 0)).1 ≤ D
  · rw [if_pos (show true = true ∧ (ss.getD i (0, 0)).1 ≤ D from ⟨rfl, h⟩)]; simp only [h, if_true]
  · rw [if_neg (show ¬ (true = true ∧ (ss.getD i (0, 0)).1 ≤ D) from fun hh => h hh.2)]
    simp only [h, if_false]
    funext k
    unfold upd
    by_cases e : k = (j : Int)
    · subst e; rw [if_pos rfl, fL_nat]
    · rw [if_neg e]
theorem dir_H {D : Int} {wt : Int × Int} {c : Bool} {i j : Nat} {ss : List (Int × Int)} (hj : j < ss.length) : fH (dir D wt c i j ss) = passOn c D wt.2 (i : Int) (j : Int) (fH ss) := by
  unfold dir
  rw [fH_set hj]
  unfold passOn
  rw [fH_nat, fH_nat]
  by_cases h : c = true ∧ (ss.getD i (0, 0)).2 ≤ D
  · simp only [if_pos h]
  · simp only [if_neg h]
    funext k
    unfold upd
    by_cases e : k = (j : Int)
    · subst e; rw [if_pos rfl, fH_nat]
    · rw [if_neg e]

/-- The same in two steps. -/
def dirL (D : Int) (wt : Int × Int) (i j : Nat) (ss : List (Int × Int)) : List (Int × Int) := ss.set j (if (ss.getD i (0, 0)).1 ≤ D then mn (ss.getD j (0, 0)).1 (D + wt.1) else (ss.getD j (0, 0)).1, (ss.getD j (0, 0)).2)
def dirH (D : Int) (wt : Int × Int) (c : Bool) (i j : Nat) (ss : List (Int × Int)) : List (Int × Int) := ss.set j ((ss.getD j (0, 0)).1, if c = true ∧ (ss.getD i (0, 0)).2 ≤ D then mn (ss.getD j (0, 0)).2 (D + wt.2) else (ss.getD j (0, 0)).2)
theorem dirL_len (D : Int) (wt : Int × Int) (i j : Nat) (ss : List (Int × Int)) : (dirL D wt i j ss).length = ss.length := by simp [dirL]
theorem dirH_len (D : Int) (wt : Int × Int) (c : Bool) (i j : Nat) (ss : List (Int × Int)) : (dirH D wt c i j ss).length = ss.length := by simp [dirH]
theorem dir_split {D : Int} {wt : Int × Int} {c : Bool} {i j : Nat} {ss : List (Int × Int)} (hj : j < ss.length) (hne : i ≠ j) : dir D wt c i j ss = dirH D wt c i j (dirL D wt i j ss) := by
  unfold dir dirH dirL
  rw [getD_set_eq hj, getD_set_ne hne, List.set_set]
theorem set_same {ss : List (Int × Int)} {j : Nat} (hj : j < ss.length) : ss.set j ((ss.getD j (0, 0)).1, (ss.getD j (0, 0)).2) = ss := by
  apply List.ext_getElem
  · simp
  · intro k h1 h2
    by_cases e : k = j
    · subst e
      simp [h2]
    · simp [List.getElem_set_ne (fun h => e h.symm)]
theorem dirL_yes {D : Int} {wt : Int × Int} {i j : Nat} {ss : List (Int × Int)} (h : (ss.getD i (0, 0)).1 ≤ D) : dirL D wt i j ss = ss.set j (mn (ss.getD j (0, 0)).1 (D + wt.1), (ss.getD j (0, 0)).2) := by unfold dirL; rw [if_pos h]
theorem dirL_no {D : Int} {wt : Int × Int} {i j : Nat} {ss : List (Int × Int)} (hj : j < ss.length) (h : ¬ (ss.getD i (0, 0)).1 ≤ D) : dirL D wt i j ss = ss := by unfold dirL; rw [if_neg h, set_same hj]
theorem dirH_yes {D : Int} {wt : Int × Int} {c : Bool} {i j : Nat} {ss : List (Int × Int)} (hc : c = true) (h : (ss.getD i (0, 0)).2 ≤ D) : dirH D wt c i j ss = ss.set j ((ss.getD j (0, 0)).1, mn (ss.getD j (0, 0)).2 (D + wt.2)) := by unfold dirH; rw [if_pos ⟨hc, h⟩]
theorem dirH_no {D : Int} {wt : Int × Int} {c : Bool} {i j : Nat} {ss : List (Int × Int)} (hj : j < ss.length) (h : ¬ (c = true ∧ (ss.getD i (0, 0)).2 ≤ D)) : dirH D wt c i j ss = ss := by unfold dirH; rw [if_neg h, set_same hj]

/-- What stands behind the meetings P. -/
structure Swp (first : List Int) (ms : List Mt) (wt : Int × Int) (n : Int) (P : List Mt) (ss : List (Int × Int)) : Prop where
  len : (ss.length : Int) = n
  sl : Snd first (fun x => x ∈ ms) wt.1 n 100001 (fL ss)
  bl : ∀ i ∈ first, fL ss i ≤ 0
  rl : Reck (fun x => x ∈ ms) (fun x => x ∈ P) wt.1 (fL ss)
  sh : Snd first (fun x => x ∈ ms ∧ x.close = true) wt.2 n 100001 (fH ss)
  bh : ∀ i ∈ first, fH ss i ≤ 0
  rh : Reck (fun x => x ∈ ms ∧ x.close = true) (fun x => x ∈ P) wt.2 (fH ss)
theorem Swp.step {first : List Int} {ms : List Mt} {wt : Int × Int} {n : Int} {P : List Mt} {ss : List (Int × Int)} (h : Swp first ms wt n P ss) {x : Mt} (hx : x ∈ ms) (ho : okMt n x) (hd : ∀ y ∈ P, y.day ≤ x.day) (hw : 1 ≤ wt.1) (hw2 : 1 ≤ wt.2) {i j : Nat} (hi : x.a = (i : Int)) (hj : x.b = (j : Int)) :
    Swp first ms wt n (P ++ [x]) (dir x.day wt x.close j i (dir x.day wt x.close i j ss)) := by
  obtain ⟨o1, o2, o3, o4, -⟩ := id ho
  have hlen := h.len
  have li : i < ss.length := by omega
  have lj : j < ss.length := by omega
  have eL : fL (dir x.day wt x.close j i (dir x.day wt x.close i j ss)) = both true x wt.1 (fL ss) := by
    rw [dir_L (by rw [dir_len]; exact li), dir_L lj, both, hi, hj]
  have eH : fH (dir x.day wt x.close j i (dir x.day wt x.close i j ss)) = both x.close x wt.2 (fH ss) := by
    rw [dir_H (by rw [dir_len]; exact li), dir_H lj, both, hi, hj]
  have hP : (fun y => y ∈ P ++ [x]) = fun y => y ∈ P ∨ y = x := by funext y; simp
  refine ⟨by rw [dir_len, dir_len]; exact hlen, ?_, ?_, ?_, ?_, ?_, ?_⟩
  · rw [eL]; exact h.sl.passes (fun _ => hx) ho (by omega)
  · rw [eL]; exact fun q hq => Int.le_trans (both_le ..) (h.bl q hq)
  · rw [eL, hP]; exact h.rl.passes (n := n) (fun _ => rfl) ho hd hw
  · rw [eH]; exact h.sh.passes (fun hc => ⟨hx, hc⟩) ho (by omega)
  · rw [eH]; exact fun q hq => Int.le_trans (both_le ..) (h.bh q hq)
  · rw [eH, hP]; exact h.rh.passes (n := n) (fun hx => hx.2) ho hd hw2
/-- At the end, or where the rest is too late. -/
theorem Swp.known {first : List Int} {ms : List Mt} {wt : Int × Int} {n d : Int} {P : List Mt} {ss : List (Int × Int)} (h : Swp first ms wt n P ss) (hf : ∀ i ∈ first, 0 ≤ i ∧ i < n) (ho : ∀ x ∈ ms, okMt n x) (hp : ∀ x ∈ ms, x ∈ P ∨ d < x.day + wt.1) (hw : 1 ≤ wt.1) (hw2 : wt.1 ≤ wt.2) (hd : d ≤ 100000) {k : Nat} (hk : (k : Int) < n) :
    Knw first ms wt d (k : Int) (if (ss.getD k (0, 0)).2 ≤ d then 2 else if (ss.getD k (0, 0)).1 ≤ d then 1 else 0) := by
  have e1 := reckoned (d := d) h.sl h.bl h.rl hf ho hp hw (by omega) (i := (k : Int)) ⟨by omega, hk⟩
  have e2 := reckoned (d := d) h.sh h.bh h.rh hf (fun x hx => ho x hx.1) (fun x hx => (hp x hx.1).imp id (fun h => by omega)) (by omega) (by omega) (i := (k : Int)) ⟨by omega, hk⟩
  rw [fL_nat] at e1
  rw [fH_nat] at e2
  exact Knw.told hw2 e1 e2
/-- At the beginning. -/
structure Sw0 (first L : List Int) (n : Int) (ss : List (Int × Int)) : Prop where
  len : (ss.length : Int) = n
  all : ∀ k, k < ss.length → ss.getD k (0, 0) = (100001, 100001) ∨ ((k : Int) ∈ first ∧ ss.getD k (0, 0) = (0, 0))
  fst : ∀ i ∈ L, fL ss i ≤ 0 ∧ fH ss i ≤ 0
theorem Sw0.start {first : List Int} {n : Nat} : Sw0 first [] (n : Int) (List.replicate n (100001, 100001)) :=
  ⟨by simp, fun k hk => .inl (by have : k < n := by simpa using hk
                                 simp [this]), fun i hi => by simp at hi⟩
theorem Sw0.step {first L : List Int} {n : Int} {ss : List (Int × Int)} (h : Sw0 first L n ss) {q : Nat} (hq : q < ss.length) (hm : (q : Int) ∈ first) : Sw0 first (L ++ [(q : Int)]) n (ss.set q (0, 0)) := by
  refine ⟨by simpa using h.len, fun k hk => ?_, fun i hi => ?_⟩
  · by_cases e : k = q
    · subst e
      exact .inr ⟨hm, getD_set_eq hq⟩
    · rw [getD_set_ne e]
      exact h.all k (by simpa using hk)
  · rw [fL_set hq, fH_set hq]
    unfold upd
    by_cases e : i = (q : Int)
    · simp [e]
    · rw [if_neg e, if_neg e]
      rw [List.mem_append] at hi
      rcases hi with hi | hi
      · exact h.fst i hi
      · simp at hi; exact absurd hi e
theorem Sw0.swp {first : List Int} {ms : List Mt} {wt : Int × Int} {n : Int} {ss : List (Int × Int)} (h : Sw0 first first n ss) : Swp first ms wt n [] ss := by
  have key : ∀ i, 0 ≤ i → i < n → (fL ss i = 100001 ∧ fH ss i = 100001) ∨ (i ∈ first ∧ fL ss i = 0 ∧ fH ss i = 0) := by
    intro i h1 h2
    have hl := h.len
    have hk := h.all i.toNat (by omega)
    rw [show ((i.toNat : Nat) : Int) = i by omega] at hk
    unfold fL fH
    rw [if_pos h1, if_pos h1]
    rcases hk with hk | ⟨hm, hk⟩
    · left; rw [hk]; exact ⟨rfl, rfl⟩
    · right; rw [hk]; exact ⟨hm, rfl, rfl⟩
  refine ⟨h.len, fun i h1 h2 => ?_, fun i hi => (h.fst i hi).1, fun x hx => by simp at hx, fun i h1 h2 => ?_, fun i hi => (h.fst i hi).2, fun x hx => by simp at hx⟩
  · rcases key i h1 h2 with hk | ⟨hm, hk, -⟩
    · exact .inl hk.1
    · rw [hk]; exact .inr (.start hm)
  · rcases key i h1 h2 with hk | ⟨hm, -, hk⟩
    · exact .inl hk.2
    · rw [hk]; exact .inr (.start hm)
end Go.Proofs.Ytafdcbdbllpcnaa
