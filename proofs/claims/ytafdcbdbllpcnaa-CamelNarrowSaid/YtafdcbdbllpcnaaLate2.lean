/- Mange, plain: who is sick on a day, and two ways to reckon it. No program is named here. -/
import Derived.Test.YtafdcbdbllpcnaaSpec3
import Derived.Test.YtafdcbdbllpcnaaDayT
import Derived.Test.YtafdcbdbllpcnaaLeafN
import Derived.Laws.OwnMore
import Derived.Test.YtafdcbdbllpcnaaLate
import Derived.Test.YtafdcbdbllpcnaaDraws3
import Derived.Test.YtafdcbdbllpcnaaLeafL
namespace Go.Proofs.Ytafdcbdbllpcnaa

/-- A meeting. -/
structure Mt where
  a : Int
  b : Int
  day : Int
  close : Bool
/-- i may have it from j, or j from i. -/
def Mt.links (x : Mt) (i j : Int) : Prop := (x.a = i ∧ x.b = j) ∨ (x.b = i ∧ x.a = j)
def okMt (n : Int) (x : Mt) : Prop := 0 ≤ x.a ∧ x.a < n ∧ 0 ≤ x.b ∧ x.b < n ∧ x.a ≠ x.b ∧ 0 ≤ x.day ∧ x.day ≤ 100000
/-- i is sick from day t on, if it is passed on at the meetings E, w days behind each. -/
inductive Sk (first : List Int) (E : Mt → Prop) (w : Int) : Int → Int → Prop
  | start {i : Int} : i ∈ first → Sk first E w i 0
  | caught {i j s : Int} {x : Mt} : Sk first E w i s → E x → x.links i j → s ≤ x.day → Sk first E w j (x.day + w)
/-- It is sick on day d. -/
def SkBy (first : List Int) (E : Mt → Prop) (w d i : Int) : Prop := ∃ t, Sk first E w i t ∧ t ≤ d

theorem Sk.early {first : List Int} {E F : Mt → Prop} {w v i t : Int} (hE : ∀ x, F x → E x) (hw : w ≤ v) (h : Sk first F v i t) : ∃ s, Sk first E w i s ∧ s ≤ t := by
  induction h with
  | start h => exact ⟨0, .start h, Int.le_refl _⟩
  | caught h hx hl hs ih =>
    obtain ⟨s, h1, h2⟩ := ih
    exact ⟨_, .caught h1 (hE _ hx) hl (by omega), by omega⟩
theorem SkBy.early {first : List Int} {E F : Mt → Prop} {w v d i : Int} (hE : ∀ x, F x → E x) (hw : w ≤ v) (h : SkBy first F v d i) : SkBy first E w d i := by
  obtain ⟨t, h1, h2⟩ := h
  obtain ⟨s, h3, h4⟩ := h1.early hE hw
  exact ⟨s, h3, by omega⟩
theorem Sk.pos {first : List Int} {E : Mt → Prop} {w i t : Int} (hd : ∀ x, E x → 0 ≤ x.day) (hw : 1 ≤ w) (h : Sk first E w i t) : 0 ≤ t := by
  induction h with
  | start h => exact Int.le_refl _
  | caught h hx hl hs ih => have := hd _ hx; omega
theorem Sk.rng {first : List Int} {E : Mt → Prop} {n w i t : Int} (hf : ∀ i ∈ first, 0 ≤ i ∧ i < n) (ho : ∀ x, E x → okMt n x) (h : Sk first E w i t) : 0 ≤ i ∧ i < n := by
  cases h with
  | start h => exact hf _ h
  | caught h hx hl hs =>
    obtain ⟨h1, h2, h3, h4, -⟩ := ho _ hx
    rcases hl with ⟨-, rfl⟩ | ⟨-, rfl⟩
    · exact ⟨h3, h4⟩
    · exact ⟨h1, h2⟩

/-- What is reckoned is true: nobody is told to be sick who is not. -/
def Snd (first : List Int) (E : Mt → Prop) (w n N : Int) (f : Int → Int) : Prop := ∀ i, 0 ≤ i → i < n → f i = N ∨ Sk first E w i (f i)
/-- Each of the meetings P is reckoned. -/
def Reck (E P : Mt → Prop) (w : Int) (f : Int → Int) : Prop := ∀ x, P x → E x → (f x.a ≤ x.day → f x.b ≤ x.day + w) ∧ (f x.b ≤ x.day → f x.a ≤ x.day + w)

theorem Reck.low {E P : Mt → Prop} {w D : Int} {f g : Int → Int} (h : Reck E P w f) (hg : ∀ j, g j = f j ∨ (g j ≤ f j ∧ g j = D + w)) (hd : ∀ x, P x → x.day ≤ D) (hw : 1 ≤ w) : Reck E P w g := by
  intro x hx hE
  obtain ⟨h1, h2⟩ := h x hx hE
  have hD := hd x hx
  have ga := hg x.a
  have gb := hg x.b
  constructor
  · intro h3
    have : f x.a ≤ x.day := by rcases ga with h | ⟨h, h'⟩ <;> omega
    have := h1 this
    rcases gb with h | ⟨h, h'⟩ <;> omega
  · intro h3
    have : f x.b ≤ x.day := by rcases gb with h | ⟨h, h'⟩ <;> omega
    have := h2 this
    rcases ga with h | ⟨h, h'⟩ <;> omega
theorem Snd.caught {first : List Int} {E : Mt → Prop} {w n N : Int} {f : Int → Int} (h : Snd first E w n N f) {i j : Int} {x : Mt} (hx : E x) (ho : okMt n x) (hN : 100000 < N) (hl : x.links i j) (hf : f i ≤ x.day) : Sk first E w j (x.day + w) := by
  obtain ⟨h1, h2, h3, h4, -, h6, h7⟩ := ho
  have hi : 0 ≤ i ∧ i < n := by
    rcases hl with ⟨rfl, -⟩ | ⟨rfl, -⟩
    · exact ⟨h1, h2⟩
    · exact ⟨h3, h4⟩
  rcases h i hi.1 hi.2 with h | h
  · omega
  · exact .caught h hx hl hf
/-- Where all is reckoned that matters by day d, who is told to be sick on day d is. -/
theorem reckoned {first : List Int} {E P : Mt → Prop} {w n N d : Int} {f : Int → Int} (hs : Snd first E w n N f) (hb : ∀ i ∈ first, f i ≤ 0) (hr : Reck E P w f) (hf : ∀ i ∈ first, 0 ≤ i ∧ i < n) (ho : ∀ x, E x → okMt n x)
    (hp : ∀ x, E x → P x ∨ d < x.day + w) (hw : 1 ≤ w) (hd : d < N) {i : Int} (hi : 0 ≤ i ∧ i < n) : f i ≤ d ↔ SkBy first E w d i := by
  constructor
  · intro h
    rcases hs i hi.1 hi.2 with h' | h'
    · omega
    · exact ⟨_, h', h⟩
  · rintro ⟨t, ht, htd⟩
    suffices h : ∀ i t, Sk first E w i t → t ≤ d → f i ≤ t by have := h i t ht htd; omega
    intro i t ht
    induction ht with
    | start h => intro _; exact hb _ h
    | @caught i j s x h hx hl hs' ih =>
      intro hle
      have h1 : f i ≤ s := ih (by omega)
      rcases hp x hx with hP | hP
      · obtain ⟨r1, r2⟩ := hr x hP hx
        rcases hl with ⟨rfl, rfl⟩ | ⟨rfl, rfl⟩
        · exact r1 (by omega)
        · exact r2 (by omega)
      · omega

/-- One direction of a meeting. -/
def upd (f : Int → Int) (i v : Int) : Int → Int := fun j => if j = i then v else f j
def passOn (b : Bool) (D w : Int) (i j : Int) (f : Int → Int) : Int → Int := if b = true ∧ f i ≤ D then upd f j (mn (f j) (D + w)) else f
theorem passOn_low (b : Bool) (D w : Int) (i j : Int) (f : Int → Int) : ∀ k, passOn b D w i j f k = f k ∨ (passOn b D w i j f k ≤ f k ∧ passOn b D w i j f k = D + w) := by
  intro k
  unfold passOn
  by_cases h : b = true ∧ f i ≤ D
  · rw [if_pos h]
    unfold upd
    by_cases hk : k = j
    · subst hk
      simp only [if_true, mn]
      split <;> omega
    · rw [if_neg hk]; exact .inl rfl
  · rw [if_neg h]; exact .inl rfl
theorem passOn_to {b : Bool} {D w : Int} {i j : Int} {f : Int → Int} (hb : b = true) (h : f i ≤ D) : passOn b D w i j f j ≤ D + w := by
  unfold passOn
  rw [if_pos ⟨hb, h⟩]
  simp only [upd, if_true, mn]
  split <;> omega
theorem passOn_same {b : Bool} {D w : Int} {i j k : Int} {f : Int → Int} (h : k ≠ j) : passOn b D w i j f k = f k := by
  unfold passOn
  split
  · simp [upd, h]
  · rfl
theorem passOn_le (b : Bool) (D w : Int) (i j : Int) (f : Int → Int) (k : Int) : passOn b D w i j f k ≤ f k := by
  rcases passOn_low b D w i j f k with h | ⟨h, -⟩ <;> omega
theorem Snd.pass {first : List Int} {E : Mt → Prop} {w n N : Int} {f : Int → Int} (h : Snd first E w n N f) {b : Bool} {i j : Int} {x : Mt} (hx : b = true → E x) (ho : okMt n x) (hN : 100000 < N) (hl : x.links i j) : Snd first E w n N (passOn b x.day w i j f) := by
  intro k h1 h2
  unfold passOn
  by_cases hc : b = true ∧ f i ≤ x.day
  · rw [if_pos hc]
    unfold upd
    by_cases hk : k = j
    · subst hk
      simp only [if_true, mn]
      split
      · exact .inr (h.caught (hx hc.1) ho hN hl hc.2)
      · exact h k h1 h2
    · rw [if_neg hk]; exact h k h1 h2
  · rw [if_neg hc]; exact h k h1 h2
/-- Both directions of a meeting, behind all of earlier days. -/
def both (b : Bool) (x : Mt) (w : Int) (f : Int → Int) : Int → Int := passOn b x.day w x.b x.a (passOn b x.day w x.a x.b f)
theorem Snd.passes {first : List Int} {E : Mt → Prop} {w n N : Int} {f : Int → Int} (h : Snd first E w n N f) {b : Bool} {x : Mt} (hx : b = true → E x) (ho : okMt n x) (hN : 100000 < N) : Snd first E w n N (both b x w f) :=
  (h.pass hx ho hN (.inl ⟨rfl, rfl⟩)).pass hx ho hN (.inr ⟨rfl, rfl⟩)
theorem both_le (b : Bool) (x : Mt) (w : Int) (f : Int → Int) (k : Int) : both b x w f k ≤ f k := Int.le_trans (passOn_le ..) (passOn_le ..)
theorem Reck.passes {E P : Mt → Prop} {w n : Int} {f : Int → Int} (h : Reck E P w f) {b : Bool} {x : Mt} (hx : E x → b = true) (ho : okMt n x) (hd : ∀ y, P y → y.day ≤ x.day) (hw : 1 ≤ w) : Reck E (fun y => P y ∨ y = x) w (both b x w f) := by
  have hne := ho.2.2.2.2.1
  have h1 : Reck E P w (both b x w f) := (h.low (passOn_low b x.day w x.a x.b f) hd hw).low (passOn_low b x.day w x.b x.a _) hd hw
  rintro y (hy | rfl) hE
  · exact h1 y hy hE
  · have hb := hx hE
    unfold both
    have e1 : passOn b y.day w y.b y.a (passOn b y.day w y.a y.b f) y.b = passOn b y.day w y.a y.b f y.b := passOn_same (fun e => hne e.symm)
    constructor
    · intro h2
      rw [e1]
      have h3 : f y.a ≤ y.day := by
        rcases passOn_low b y.day w y.b y.a (passOn b y.day w y.a y.b f) y.a with h | ⟨h, h'⟩
        · rw [h, passOn_same hne] at h2; exact h2
        · omega
      exact passOn_to hb h3
    · intro h2
      rw [e1] at h2
      exact passOn_to hb h2

/-- What is known of an animal. -/
def Knw (first : List Int) (ms : List Mt) (w : Int × Int) (d i v : Int) : Prop :=
  (SkBy first (fun x => x ∈ ms ∧ x.close = true) w.2 d i ∧ v = 2) ∨ (¬ SkBy first (fun x => x ∈ ms ∧ x.close = true) w.2 d i ∧ SkBy first (fun x => x ∈ ms) w.1 d i ∧ v = 1) ∨ (¬ SkBy first (fun x => x ∈ ms) w.1 d i ∧ v = 0)
theorem Knw.unique {first : List Int} {ms : List Mt} {w : Int × Int} {d i u v : Int} (hw : w.1 ≤ w.2) (h1 : Knw first ms w d i u) (h2 : Knw first ms w d i v) : u = v := by
  have hs : SkBy first (fun x => x ∈ ms ∧ x.close = true) w.2 d i → SkBy first (fun x => x ∈ ms) w.1 d i := fun h => h.early (fun _ hx => hx.1) hw
  rcases h1 with ⟨a, rfl⟩ | ⟨a, b, rfl⟩ | ⟨a, rfl⟩ <;> rcases h2 with ⟨c, rfl⟩ | ⟨c, d, rfl⟩ | ⟨c, rfl⟩ <;> first | rfl | exact absurd c a | exact absurd a c | exact absurd (hs c) a | exact absurd (hs a) c | exact absurd d a | exact absurd b c
theorem Knw.range {first : List Int} {ms : List Mt} {w : Int × Int} {d i v : Int} (h : Knw first ms w d i v) : 0 ≤ v ∧ v ≤ 2 := by
  rcases h with ⟨-, rfl⟩ | ⟨-, -, rfl⟩ | ⟨-, rfl⟩ <;> decide
/-- By its days. -/
theorem Knw.told {first : List Int} {ms : List Mt} {w : Int × Int} {d i lo hi : Int} (hw : w.1 ≤ w.2) (h1 : lo ≤ d ↔ SkBy first (fun x => x ∈ ms) w.1 d i) (h2 : hi ≤ d ↔ SkBy first (fun x => x ∈ ms ∧ x.close = true) w.2 d i) :
    Knw first ms w d i (if hi ≤ d then 2 else if lo ≤ d then 1 else 0) := by
  by_cases h : hi ≤ d
  · rw [if_pos h]; exact .inl ⟨h2.1 h, rfl⟩
  · rw [if_neg h]
    by_cases h' : lo ≤ d
    · rw [if_pos h']; exact .inr (.inl ⟨fun hh => h (h2.2 hh), h1.1 h', rfl⟩)
    · rw [if_neg h']; exact .inr (.inr ⟨fun hh => h' (h1.2 hh), rfl⟩)
end Go.Proofs.Ytafdcbdbllpcnaa
/- Lists of numbers and of meetings in memory. -/
namespace Go.Proofs.Ytafdcbdbllpcnaa
open Go.RowKit
open Go.Proofs

def IntsAt (w : World) (b off : Nat) (xs : List Int) : Prop := ∀ k (h : k < xs.length), w.cell? ⟨b, off + k, none⟩ = some (.int .i64 xs[k])
def IntsIn (w : World) (a : Option Addr) (cap : Nat) (xs : List Int) : Prop := (a = none ∧ cap = 0 ∧ xs = []) ∨ ∃ g off, a = some ⟨g, off, none⟩ ∧ IntsAt w g off xs ∧ g < w.heap.size
def MeetAt (w : World) (b o : Nat) (x : Mt) : Prop :=
  w.cell? ⟨b, o, none⟩ = some (.int .i64 x.a) ∧ w.cell? ⟨b, o + 1, none⟩ = some (.int .i64 x.b) ∧ w.cell? ⟨b, o + 2, none⟩ = some (.int .i64 x.day) ∧ w.cell? ⟨b, o + 3, none⟩ = some (.bool x.close)
def MeetsAt (w : World) (b off : Nat) (ms : List Mt) : Prop := ∀ k (h : k < ms.length), MeetAt w b (off + k * 4) ms[k]
def MeetsIn (w : World) (a : Option Addr) (cap : Nat) (ms : List Mt) : Prop := (a = none ∧ cap = 0 ∧ ms = []) ∨ ∃ g off, a = some ⟨g, off, none⟩ ∧ MeetsAt w g off ms ∧ g < w.heap.size
theorem MeetAt.below {B : Nat} {w w' : World} {b o : Nat} {x : Mt} (hB : Below B w w') (hb : b < B) (h : MeetAt w b o x) : MeetAt w' b o x := by
  obtain ⟨c0, c1, c2, c3⟩ := h
  exact ⟨at_belowb hB hb c0, at_belowb hB hb c1, at_belowb hB hb c2, at_belowb hB hb c3⟩
theorem IntsIn.below {B : Nat} {W W' : World} {a : Option Addr} {cap : Nat} {xs : List Int} (h : IntsIn W a cap xs) (hE : Below B W W') (hs : W.heap.size ≤ B) : IntsIn W' a cap xs := by
  rcases h with h | ⟨g, off, h1, h2, h3⟩
  · exact .inl h
  · exact .inr ⟨g, off, h1, fun k hk => at_belowb hE (by omega) (h2 k hk), Nat.lt_of_lt_of_le h3 hE.size⟩
theorem MeetsIn.below {B : Nat} {W W' : World} {a : Option Addr} {cap : Nat} {xs : List Mt} (h : MeetsIn W a cap xs) (hE : Below B W W') (hs : W.heap.size ≤ B) : MeetsIn W' a cap xs := by
  rcases h with h | ⟨g, off, h1, h2, h3⟩
  · exact .inl h
  · exact .inr ⟨g, off, h1, fun k hk => (h2 k hk).below hE (by omega), Nat.lt_of_lt_of_le h3 hE.size⟩
theorem IntsIn.ext {W W' : World} {a : Option Addr} {cap : Nat} {xs : List Int} (h : IntsIn W a cap xs) (hE : Ext W W') : IntsIn W' a cap xs := h.below hE (Nat.le_refl _)
theorem MeetsIn.ext {W W' : World} {a : Option Addr} {cap : Nat} {xs : List Mt} (h : MeetsIn W a cap xs) (hE : Ext W W') : MeetsIn W' a cap xs := h.below hE (Nat.le_refl _)
theorem IntsIn.get {W : World} {a : Option Addr} {cap : Nat} {xs : List Int} (h : IntsIn W a cap xs) {k : Nat} (hk : k < xs.length) : ∃ g off, a = some ⟨g, off, none⟩ ∧ W.cell? ⟨g, off + k, none⟩ = some (.int .i64 (xs.getD k 0)) ∧ g < W.heap.size := by
  rcases h with ⟨-, -, h⟩ | ⟨g, off, h1, h2, h3⟩
  · subst h; simp at hk
  · exact ⟨g, off, h1, by rw [h2 k hk]; simp [hk], h3⟩
def mt0 : Mt := ⟨0, 0, 0, false⟩
def mtS (ms : List Mt) (k : Nat) : Mt := ms.getD k mt0
theorem mtS_get {ms : List Mt} {k : Nat} (hk : k < ms.length) : ms[k] = mtS ms k := by simp [mtS, hk]
theorem mtS_mem {ms : List Mt} {k : Nat} (hk : k < ms.length) : mtS ms k ∈ ms := by rw [← mtS_get hk]; exact List.getElem_mem hk
theorem MeetsIn.get {W : World} {a : Option Addr} {cap : Nat} {ms : List Mt} (h : MeetsIn W a cap ms) {k : Nat} (hk : k < ms.length) : ∃ g off, a = some ⟨g, off, none⟩ ∧ MeetAt W g (off + k * 4) (mtS ms k) ∧ g < W.heap.size := by
  rcases h with ⟨-, -, h⟩ | ⟨g, off, h1, h2, h3⟩
  · subst h; simp at hk
  · exact ⟨g, off, h1, by rw [← mtS_get hk]; exact h2 k hk, h3⟩

/-- What is asked of a first one, of a meeting; the error. -/
def inR (n i : Int) : Bool := decide (0 ≤ i) && decide (i < n)
def okX (n : Int) (x : Mt) : Bool := inR n x.a && inR n x.b && decide (x.a ≠ x.b) && decide (0 ≤ x.day) && decide (x.day ≤ 100000)
def okA (n : Int) (wt : Int × Int) (day : Int) : Bool := decide (1 ≤ n) && decide (n ≤ 30) && decide (1 ≤ wt.1) && okSpan 60 wt && decide (0 ≤ day) && decide (day ≤ 100000)
def chkG (n : Int) (first : List Int) (ms : List Mt) (wt : Int × Int) (day : Int) : Int :=
  if okA n wt day = true then (if first.length ≤ 30 ∧ ms.length ≤ 200 then (if first.all (inR n) = true then (if ms.all (okX n) = true then 0 else 14) else 14) else 4) else 2
theorem okX_iff {n : Int} {x : Mt} : okX n x = true ↔ okMt n x := by
  simp only [okX, inR, okMt, Bool.and_eq_true, decide_eq_true_eq]
  constructor
  · rintro ⟨⟨⟨⟨⟨h1, h2⟩, h3, h4⟩, h5⟩, h6⟩, h7⟩; exact ⟨h1, h2, h3, h4, h5, h6, h7⟩
  · rintro ⟨h1, h2, h3, h4, h5, h6, h7⟩; exact ⟨⟨⟨⟨⟨h1, h2⟩, h3, h4⟩, h5⟩, h6⟩, h7⟩
theorem allI_step {α : Type} {p : α → Bool} {xs : List α} {k : Nat} (h : k < xs.length) (ha : (xs.take k).all p = true) (d : α) (hp : p (xs.getD k d) = true) : (xs.take (k + 1)).all p = true := by
  rw [List.take_succ_eq_append_getElem h, List.all_append, ha]
  simp [h] at hp
  simp [hp]
theorem allI_no {α : Type} {p : α → Bool} {xs : List α} {k : Nat} (h : k < xs.length) (d : α) (hp : p (xs.getD k d) = false) : ¬ xs.all p = true := by
  rw [Bool.not_eq_true, List.all_eq_false]
  simp [h] at hp
  exact ⟨xs[k], List.getElem_mem h, by rw [hp]; simp⟩
theorem chkG_fine {n : Int} {first : List Int} {ms : List Mt} {wt : Int × Int} {day : Int} (h : chkG n first ms wt day = 0) :
    (1 ≤ n ∧ n ≤ 30) ∧ (1 ≤ wt.1 ∧ wt.1 ≤ wt.2 ∧ wt.2 ≤ 60) ∧ (0 ≤ day ∧ day ≤ 100000) ∧ (first.length ≤ 30 ∧ ms.length ≤ 200) ∧ (∀ i ∈ first, 0 ≤ i ∧ i < n) ∧ ∀ x ∈ ms, okMt n x := by
  unfold chkG at h
  by_cases h1 : okA n wt day = true
  · rw [if_pos h1] at h
    by_cases h2 : first.length ≤ 30 ∧ ms.length ≤ 200
    · rw [if_pos h2] at h
      by_cases h3 : first.all (inR n) = true
      · rw [if_pos h3] at h
        by_cases h4 : ms.all (okX n) = true
        · simp only [okA, okSpan, Bool.and_eq_true, decide_eq_true_eq] at h1
          obtain ⟨⟨⟨⟨⟨a1, a2⟩, a3⟩, ⟨-, a4⟩, a5⟩, a6⟩, a7⟩ := h1
          rw [List.all_eq_true] at h3 h4
          refine ⟨⟨a1, a2⟩, ⟨a3, a4, a5⟩, ⟨a6, a7⟩, h2, fun i hi => ?_, fun x hx => okX_iff.1 (h4 x hx)⟩
          have := h3 i hi
          simpa [inR] using this
        · rw [if_neg h4] at h; omega
      · rw [if_neg h3] at h; omega
    · rw [if_neg h2] at h; omega
  · rw [if_neg h1] at h; omega
end Go.Proofs.Ytafdcbdbllpcnaa
/- The reckoning of mange until nothing changes, plain. -/
namespace Go.Proofs.Ytafdcbdbllpcnaa

/-- A list of days as a function of the animal. -/
def fI (xs : List Int) (i : Int) : Int := xs.getD i.toNat 0
theorem fI_nat (xs : List Int) (k : Nat) : fI xs (k : Int) = xs.getD k 0 := by simp [fI]
theorem fI_set {xs : List Int} {k : Nat} {v : Int} (hk : k < xs.length) {j : Int} (hj : 0 ≤ j) : fI (xs.set k v) j = if j = (k : Int) then v else fI xs j := by
  unfold fI
  by_cases h : j = (k : Int)
  · subst h
    simp [hk]
  · rw [if_neg h]
    have : k ≠ j.toNat := by omega
    simp [List.getD, List.getElem?_set_ne this]
def sumN (xs : List Int) : Nat := (xs.map Int.toNat).sum
theorem sumN_set : ∀ {xs : List Int} {k : Nat} {v : Int}, k < xs.length → 0 ≤ v → v < xs.getD k 0 → sumN (xs.set k v) < sumN xs
  | [], k, v, h, _, _ => by simp at h
  | x :: xs, 0, v, h, h1, h2 => by
    simp [sumN] at h2 ⊢
    omega
  | x :: xs, k + 1, v, h, h1, h2 => by
    have := sumN_set (xs := xs) (k := k) (v := v) (by simpa using h) h1 (by simpa using h2)
    simp [sumN] at this ⊢
    omega

/-- One direction of a meeting, as the document's reckoning goes. -/
def half (D w : Int) (i j : Nat) (xs : List Int) : List Int := if xs.getD i 0 ≤ D ∧ D + w < xs.getD j 0 then xs.set j (D + w) else xs
theorem half_len (D w : Int) (i j : Nat) (xs : List Int) : (half D w i j xs).length = xs.length := by
  unfold half; split <;> simp
/-- What stands at any time. -/
structure Fine (first : List Int) (E : Mt → Prop) (w n N : Int) (xs : List Int) : Prop where
  len : (xs.length : Int) = n
  snd : Snd first E w n N (fI xs)
structure Inn (first : List Int) (ms : List Mt) (E : Mt → Prop) (w n N : Int) (xs0 xs : List Int) (cb : Bool) (j : Nat) : Prop where
  good : Fine first E w n N xs
  base : ∀ i ∈ first, fI xs i ≤ 0
  calm : cb = false → xs = xs0 ∧ Reck E (fun x => x ∈ ms.take j) w (fI xs)
  less : cb = true → sumN xs < sumN xs0
theorem Fine.half {first : List Int} {E : Mt → Prop} {w n N : Int} {xs : List Int} (h : Fine first E w n N xs) {x : Mt} (hx : E x) (ho : okMt n x) (hN : 100000 < N) {i j : Nat} (hl : x.links i j) (hj : j < xs.length) : Fine first E w n N (half x.day w i j xs) := by
  refine ⟨by rw [half_len]; exact h.len, ?_⟩
  unfold Proofs.Ytafdcbdbllpcnaa.half
  split
  · rename_i hc
    intro k h1 h2
    rw [fI_set hj h1]
    split
    · rename_i hk
      subst hk
      exact .inr (h.snd.caught hx ho hN hl (by rw [fI_nat]; exact hc.1))
    · exact h.snd k h1 h2
  · exact h.snd
theorem half_base {D w : Int} {i j : Nat} {xs : List Int} {k : Int} (hk : 0 ≤ k) (hj : j < xs.length) (h : fI xs k ≤ 0) : fI (half D w i j xs) k ≤ 0 := by
  unfold half
  split
  · rename_i hc
    rw [fI_set hj hk]
    split
    · rename_i e
      subst e
      rw [fI_nat] at h
      omega
    · exact h
  · exact h
def moved (D w : Int) (i j : Nat) (xs : List Int) : Bool := decide (xs.getD i 0 ≤ D) && decide (D + w < xs.getD j 0)
theorem half_moved {D w : Int} {i j : Nat} {xs : List Int} (h : moved D w i j xs = true) : half D w i j xs = xs.set j (D + w) := by
  simp only [moved, Bool.and_eq_true, decide_eq_true_eq] at h
  exact if_pos h
theorem half_still {D w : Int} {i j : Nat} {xs : List Int} (h : moved D w i j xs = false) : half D w i j xs = xs := by
  refine if_neg fun h' => ?_
  simp only [moved, Bool.and_eq_false_iff, decide_eq_false_iff_not] at h
  rcases h with h | h
  · exact h h'.1
  · exact h h'.2
theorem half_sum {D w : Int} {i j : Nat} {xs : List Int} (hj : j < xs.length) (hD : 0 ≤ D + w) : sumN (half D w i j xs) ≤ sumN xs ∧ (moved D w i j xs = true → sumN (half D w i j xs) < sumN xs) := by
  cases h : moved D w i j xs with
  | false => rw [half_still h]; exact ⟨Nat.le_refl _, fun h => by cases h⟩
  | true =>
    have hs : sumN (half D w i j xs) < sumN xs := by
      rw [half_moved h]
      simp only [moved, Bool.and_eq_true, decide_eq_true_eq] at h
      exact sumN_set hj hD h.2
    exact ⟨Nat.le_of_lt hs, fun _ => hs⟩
/-- A meeting, reckoned. -/
theorem Inn.step {first : List Int} {ms : List Mt} {E : Mt → Prop} {w n N : Int} {xs0 xs : List Int} {cb : Bool} {k : Nat} (h : Inn first ms E w n N xs0 xs cb k) (hk : k < ms.length) (hx : E ms[k]) (ho : okMt n ms[k]) (hN : 100000 < N) (hw : 1 ≤ w) (hf : ∀ i ∈ first, 0 ≤ i) {i j : Nat} (hi : ms[k].a = (i : Int)) (hj : ms[k].b = (j : Int)) :
    Inn first ms E w n N xs0 (half ms[k].day w j i (half ms[k].day w i j xs)) (cb || moved ms[k].day w i j xs || moved ms[k].day w j i (half ms[k].day w i j xs)) (k + 1) := by
  obtain ⟨o1, o2, o3, o4, o5, o6, o7⟩ := id ho
  have hlen := h.good.len
  have li : i < xs.length := by omega
  have lj : j < xs.length := by omega
  have g1 := h.good.half (x := ms[k]) (i := i) (j := j) hx ho hN (.inl ⟨hi, hj⟩) lj
  have li' : i < (Proofs.Ytafdcbdbllpcnaa.half ms[k].day w i j xs).length := by rw [half_len]; exact li
  have g2 := g1.half (x := ms[k]) (i := j) (j := i) hx ho hN (.inr ⟨hj, hi⟩) li'
  have s1 := half_sum (D := ms[k].day) (w := w) (i := i) (j := j) (xs := xs) lj (by omega)
  have s2 := half_sum (D := ms[k].day) (w := w) (i := j) (j := i) (xs := Proofs.Ytafdcbdbllpcnaa.half ms[k].day w i j xs) li' (by omega)
  refine ⟨g2, fun q hq => half_base (hf q hq) li' (half_base (hf q hq) lj (h.base q hq)), ?_, ?_⟩
  · intro hc
    simp only [Bool.or_eq_false_iff] at hc
    obtain ⟨⟨c1, c2⟩, c3⟩ := hc
    rw [half_still c2] at c3 ⊢
    rw [half_still c3]
    obtain ⟨e, hr⟩ := h.calm c1
    refine ⟨e, fun y hy hE => ?_⟩
    rw [List.take_succ_eq_append_getElem hk, List.mem_append] at hy
    rcases hy with hy | hy
    · exact hr y hy hE
    · obtain rfl : y = ms[k] := by simpa using hy
      rw [hi, hj, fI_nat, fI_nat]
      simp only [moved, Bool.and_eq_false_iff, decide_eq_false_iff_not] at c2 c3
      constructor <;> intro hh <;> omega
  · intro hc
    simp only [Bool.or_eq_true] at hc
    rcases hc with (hc | hc) | hc
    · have := h.less hc; omega
    · have := s1.2 hc
      cases hcb : cb with
      | true => have := h.less hcb; omega
      | false => obtain ⟨e, -⟩ := h.calm hcb; rw [← e]; omega
    · have := s2.2 hc
      cases hcb : cb with
      | true => have := h.less hcb; omega
      | false => obtain ⟨e, -⟩ := h.calm hcb; rw [← e]; omega
theorem Inn.skip {first : List Int} {ms : List Mt} {E : Mt → Prop} {w n N : Int} {xs0 xs : List Int} {cb : Bool} {k : Nat} (h : Inn first ms E w n N xs0 xs cb k) (hk : k < ms.length) (hx : ¬ E ms[k]) : Inn first ms E w n N xs0 xs cb (k + 1) := by
  refine ⟨h.good, h.base, fun hc => ⟨(h.calm hc).1, fun y hy hE => ?_⟩, h.less⟩
  rw [List.take_succ_eq_append_getElem hk, List.mem_append] at hy
  rcases hy with hy | hy
  · exact (h.calm hc).2 y hy hE
  · obtain rfl : y = ms[k] := by simpa using hy
    exact absurd hE hx
theorem Inn.start {first : List Int} {ms : List Mt} {E : Mt → Prop} {w n N : Int} {xs : List Int} (g : Fine first E w n N xs) (hb : ∀ i ∈ first, fI xs i ≤ 0) : Inn first ms E w n N xs xs false 0 :=
  ⟨g, hb, fun _ => ⟨rfl, fun y hy => by simp at hy⟩, fun h => by cases h⟩
theorem Inn.calms {first : List Int} {ms : List Mt} {E : Mt → Prop} {w n N : Int} {xs0 xs : List Int} (h : Inn first ms E w n N xs0 xs false ms.length) : Reck E (fun x => x ∈ ms) w (fI xs) := by
  have := (h.calm rfl).2
  rwa [List.take_length] at this
theorem good_start {first : List Int} {E : Mt → Prop} {w n N : Int} {k : Nat} (hk : (k : Int) = n) : Fine first E w n N (List.replicate k N) :=
  ⟨by simpa using hk, fun i h1 h2 => .inl (by
    unfold fI
    have : i.toNat < k := by omega
    simp [this])⟩
theorem good_first {first : List Int} {E : Mt → Prop} {w n N : Int} {xs : List Int} (h : Fine first E w n N xs) {j : Nat} (hj : j < xs.length) (hm : (j : Int) ∈ first) : Fine first E w n N (xs.set j 0) := by
  refine ⟨by simpa using h.len, fun i h1 h2 => ?_⟩
  rw [fI_set hj h1]
  split
  · rename_i e
    subst e
    exact .inr (.start hm)
  · exact h.snd i h1 h2
theorem base_first {xs : List Int} {j : Nat} (hj : j < xs.length) {L : List Int} (hL : ∀ i ∈ L, 0 ≤ i) (h : ∀ i ∈ L, fI xs i ≤ 0) : ∀ i ∈ L ++ [(j : Int)], fI (xs.set j 0) i ≤ 0 := by
  intro i hi
  rw [List.mem_append] at hi
  have h0 : 0 ≤ i := by
    rcases hi with hi | hi
    · exact hL i hi
    · simp at hi; omega
  rw [fI_set hj h0]
  split
  · exact Int.le_refl _
  · rename_i hne
    rcases hi with hi | hi
    · exact h i hi
    · simp at hi; exact absurd hi hne
end Go.Proofs.Ytafdcbdbllpcnaa
/- A list of numbers in a block of one's own that is written into. -/
namespace Go.Proofs.Ytafdcbdbllpcnaa
open Go.RowKit
open Go.Proofs

def OutAt (W : World) (g : Nat) (xs : List Int) : Prop := ∃ cur : Array Value, rowOf W g = some cur ∧ ∀ k, k < xs.length → cur[k]? = some (.int .i64 (xs.getD k 0))
theorem OutAt.get {W : World} {g : Nat} {xs : List Int} (h : OutAt W g xs) {k : Nat} (hk : k < xs.length) : W.cell? ⟨g, k, none⟩ = some (.int .i64 (xs.getD k 0)) ∧ W.frozen? ⟨g, k, none⟩ = false ∧ g < W.heap.size := by
  obtain ⟨cur, h1, h2⟩ := h
  obtain ⟨c, f, z⟩ := cell_of_rowOf h1
  exact ⟨by rw [c]; exact h2 k hk, f k, z⟩
theorem OutAt.lt {W : World} {g : Nat} {xs : List Int} (h : OutAt W g xs) : g < W.heap.size := by
  obtain ⟨cur, h1, -⟩ := h
  exact (cell_of_rowOf h1).2.2
theorem rowOf_setCell_o {w : World} {g off : Nat} {cs : Array Value} (h : rowOf w g = some cs) (v : Value) : rowOf (w.setCell ⟨g, off, none⟩ v) g = some (cs.setIfInBounds off v) := by
  obtain ⟨t, hg⟩ := rowOf_some h
  rw [setCell_eq_setRow w g off cs t (0, 0) v hg]
  exact (stored_setRow h _).row
theorem OutAt.set {W : World} {g : Nat} {xs : List Int} (h : OutAt W g xs) {k : Nat} (hk : k < xs.length) (v : Int) : OutAt (W.setCell ⟨g, k, none⟩ (.int .i64 v)) g (xs.set k v) := by
  obtain ⟨cur, h1, h2⟩ := h
  refine ⟨_, rowOf_setCell_o h1 _, fun j hj => ?_⟩
  have hj' : j < xs.length := by simpa using hj
  have hkc : k < cur.size := (Array.getElem?_eq_some_iff.1 (h2 k hk)).1
  rw [Array.getElem?_setIfInBounds]
  by_cases e : k = j
  · subst e
    simp [hkc, hk]
  · rw [if_neg e, h2 j hj']
    simp [List.getD, List.getElem?_set_ne e]
theorem OutAt.keep {B : Nat} {W W' : World} {g : Nat} {xs : List Int} (h : OutAt W g xs) (hB : Below B W W') (hg : g < B) : OutAt W' g xs := by
  obtain ⟨cur, h1, h2⟩ := h
  exact ⟨cur, by rw [← h1]; simp only [rowOf, hB.block g hg], h2⟩
theorem OutAt.alloc {W : World} {g : Nat} {xs : List Int} (h : OutAt W g xs) (o : Obj) : OutAt (W.alloc o) g xs := h.keep (ext_alloc _ _) h.lt
theorem OutAt.drewN {W : World} {g : Nat} {xs : List Int} (h : OutAt W g xs) (n : Nat) : OutAt (W.drewN n) g xs := h
theorem OutAt.ints {W : World} {g cap : Nat} {xs : List Int} (h : OutAt W g xs) : IntsIn W (some ⟨g, 0, none⟩) cap xs :=
  .inr ⟨g, 0, rfl, fun k hk => by rw [Nat.zero_add, (h.get hk).1]; simp [hk], h.lt⟩
theorem row_heap {W : World} {g : Nat} {cs : Array Value} {t : TypeId} (h : W.heap[g]? = some (.cells cs t (0, 0))) : rowOf W g = some cs := by unfold rowOf; rw [h]; rfl
theorem out_owns {W : World} {base n : Nat} {v : Value} {xs : List Int} (hn : n = xs.length) (h0 : 0 < n) (h : W.ownsRow base 3 1 v n (xs.map (.int .i64 ·))) : ∃ g cap, v = .slice (some ⟨g, 0, none⟩) n cap ∧ base ≤ g ∧ OutAt W g xs := by
  have hk := h
  obtain ⟨-, h⟩ := h
  rcases h with ⟨-, h⟩ | ⟨g, cap, cur, rfl, h2, h3, -⟩
  · omega
  · refine ⟨g, cap, rfl, h2, cur, row_heap h3, fun k hkl => ?_⟩
    have hc := hk.cellAt k (by omega)
    rw [(cell_of_rowOf (row_heap h3)).1] at hc
    rw [hc]
    simp [hkl]
def worldSum (W : World) (g n : Nat) : Nat := ((List.range n).map fun k => (intOf ((W.cell? ⟨g, k, none⟩).getD undef)).toNat).sum
theorem worldSum_out {W : World} {g n : Nat} {xs : List Int} (h : OutAt W g xs) (hn : n = xs.length) : worldSum W g n = sumN xs := by
  subst hn
  unfold worldSum sumN
  congr 1
  apply List.ext_getElem
  · simp
  · intro k h1 h2
    have hk : k < xs.length := by simpa using h1
    simp only [List.getElem_map, List.getElem_range]
    rw [(h.get hk).1]
    simp [intOf, hk]
end Go.Proofs.Ytafdcbdbllpcnaa
/- A relation of worlds over which several new blocks, of several rows, are stored into. Over every program. -/
namespace Go.Proofs.Ytafdcbdbllpcnaa
open Go.RowKit

/-- W' is W with more memory; a block from B on whose row is the first of a pair may have got the second. -/
structure XL (B : Nat) (L : List (Array Value × Array Value)) (W W' : World) : Prop where
  os : W'.os = W.os
  tape : W'.tape = W.tape
  output : W'.output = W.output
  size : W.heap.size ≤ W'.heap.size
  block : ∀ k, k < W.heap.size → (k < B ∨ ∀ p ∈ L, rowOf W k ≠ some p.1) → W'.heap[k]? = W.heap[k]?
  fresh : ∀ k p, p ∈ L → rowOf W k = some p.1 → rowOf W' k = some p.1 ∨ rowOf W' k = some p.2
/-- The pairs don't meet. -/
def LX (L : List (Array Value × Array Value)) : Prop := ∀ p ∈ L, ∀ q ∈ L, (q.1 = p.1 → q = p) ∧ (q.1 = p.2 → q.2 = p.2)
section
variable {B : Nat} {L : List (Array Value × Array Value)} {p : Array Value × Array Value}
theorem XL.refl (W : World) : XL B L W W := ⟨rfl, rfl, rfl, Nat.le_refl _, fun _ _ _ => rfl, fun _ _ _ h => .inl h⟩
theorem XL.last (hL : LX L) (hp : p ∈ L) {b c : World} (q : XL B L b c) {k : Nat} (h : rowOf b k = some p.2) : rowOf c k = some p.2 := by
  by_cases e : ∃ q ∈ L, q.1 = p.2
  · obtain ⟨s, hs, e⟩ := e
    rcases q.fresh k s hs (by rw [h, e]) with h1 | h1
    · rw [h1, e]
    · rw [h1, (hL p hp s hs).2 e]
  · rw [rowOf_heap (q.block k (XN.lt h) (.inr fun s hs he => e ⟨s, hs, by rw [h] at he; exact (Option.some.inj he).symm⟩))]; exact h
theorem XL.trans (hL : LX L) {a b c : World} (p : XL B L a b) (q : XL B L b c) : XL B L a c := by
  refine ⟨q.os.trans p.os, q.tape.trans p.tape, q.output.trans p.output, Nat.le_trans p.size q.size, fun k hk h => ?_, fun k s hs h => ?_⟩
  · have h1 := p.block k hk h
    rw [← h1]
    refine q.block k (Nat.lt_of_lt_of_le hk p.size) ?_
    rcases h with h | h
    · exact .inl h
    · exact .inr (by rw [rowOf_heap h1]; exact h)
  · rcases p.fresh k s hs h with h1 | h1
    · exact q.fresh k s hs h1
    · exact .inr (q.last hL hs h1)
theorem Ext.xl {W W' : World} (h : Ext W W') : XL B L W W' := ⟨h.os, h.tape, h.output, h.size, fun k hk _ => h.block k hk, fun k _ _ e => .inl (keep_row h e).1⟩
theorem XL.row {W W' : World} (h : XL B L W W') {g : Nat} {cs : Array Value} (hr : rowOf W g = some cs) (hg : g < B) : rowOf W' g = some cs := by
  rw [rowOf_heap (h.block g (XN.lt hr) (.inl hg))]; exact hr
theorem XL.below {B0 : Nat} {w W W' : World} (h : XL B L W W') (hw : Below B0 w W) (hB : B0 ≤ W.heap.size) (hf : B0 ≤ B) : Below B0 w W' :=
  hw.trans ⟨h.os, h.tape, h.output, h.size, fun k hk => h.block k (by omega) (.inl (by omega))⟩
theorem xl_setRow (hL : LX L) (hp : p ∈ L) {W : World} {g : Nat} (hr : rowOf W g = some p.1) (hg : B ≤ g) : XL B L W (W.setRow g p.2) := by
  have hS := stored_setRow hr p.2
  refine ⟨rfl, rfl, rfl, by simp, fun k _ hk => ?_, fun k s hs h => ?_⟩
  · refine setRow_other W g k p.2 ?_
    rintro rfl
    rcases hk with hk | hk
    · omega
    · exact hk p hp hr
  · by_cases e : k = g
    · subst e
      rw [hr] at h
      obtain rfl := (hL p hp s hs).1 (Option.some.inj h).symm
      exact .inr hS.row
    · exact .inl ((hS.other k e).trans h)
theorem xl_setRow_same {W : World} {g : Nat} {r : Array Value} (hr : rowOf W g = some r) : XL B L W (W.setRow g r) := by
  obtain ⟨t, hg⟩ := rowOf_some hr
  rw [setRow_same W g r t (0, 0) hg]
  exact XL.refl _
/-- A pointer to a new block, before the store or behind it. -/
structure NL (B : Nat) (p : Array Value × Array Value) (v : Value) (W : World) : Prop where
  eq : v = .pointer (some ⟨blk v, 0, none⟩)
  base : B ≤ blk v
  row : rowOf W (blk v) = some p.1 ∨ rowOf W (blk v) = some p.2
theorem nlR (hL : LX L) (hp : p ∈ L) {v : Value} {W : World} (h : ∃ Wj, XL B L Wj W ∧ NL B p v Wj) : NL B p v W := let ⟨_, e, h⟩ := h; ⟨h.1, h.2, h.3.elim (fun k => e.fresh _ _ hp k) fun k => .inr (e.last hL hp k)⟩
theorem sbL (hL : LX L) (hp : p ∈ L) {v : Value} {W : World} (h : ∃ Wj, XL B L Wj W ∧ SB p.2 v Wj) : SB p.2 v W := let ⟨_, e, h⟩ := h; ⟨h.1, e.last hL hp h.2⟩
theorem pureL {W : World} {q : Prop} (h : ∃ Wj, XL B L Wj W ∧ q) : q := let ⟨_, _, h⟩ := h; h
theorem wp_store_nl (hL : LX L) (hp : p ∈ L) {P : Program} {Q : Exit → Act → World → Prop} {o : Oper} {a : Act} {W : World} {K : Act → World → Prop} (ty : TypeId) (x : Tmp) (y : Operand) (ho : o.op = .store ty (.tmp x) y) (hd : o.dst = none) (hn : NL B p (a.tmps[x]?.getD undef) W) (hy : a.eval y = .agg p.2)
    (hi : (P.info? ty).map (·.size) = some p.2.size) (hz : p.1.size = p.2.size) (h1 : p.2.all (·.oneCell') = true)
    (hk : ∀ W', XL B L W W' → SB p.2 (a.tmps[x]?.getD undef) W' → K a W') : o.wp P a W K Q := by
  obtain ⟨e, hb, hr⟩ := hn
  have hx : a.eval (.tmp x) = .pointer (some ⟨blk (a.tmps[x]?.getD undef), 0, none⟩) := (eval_tmp a x).trans e
  rcases hr with hr | hr
  · obtain ⟨t, hg⟩ := rowOf_some hr
    refine wp_store_row ty (.tmp x) y ho _ p.2 hx hy t p.1 hg hi hz h1 ?_
    rw [hd]
    exact hk _ (xl_setRow hL hp hr hb) ⟨e, (stored_setRow hr p.2).row⟩
  · obtain ⟨t, hg⟩ := rowOf_some hr
    refine wp_store_row ty (.tmp x) y ho _ p.2 hx hy t p.2 hg hi rfl h1 ?_
    rw [hd]
    exact hk _ (xl_setRow_same hr) ⟨e, (stored_setRow hr p.2).row⟩
end
end Go.Proofs.Ytafdcbdbllpcnaa
