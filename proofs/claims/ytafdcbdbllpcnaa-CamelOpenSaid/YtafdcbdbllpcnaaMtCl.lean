/- Mange, plain: who is sick on a day, and two ways to reckon it. No program is named here. -/
import Derived.Test.YtafdcbdbllpcnaaSpec3
import Derived.Test.YtafdcbdbllpcnaaDayT
import Derived.Test.YtafdcbdbllpcnaaLeafN
import Derived.Test.YtafdcbdbllpcnaaLate
import Derived.Lib.SliceRun
import Derived.Shelf.GgSortFunc.RowK
namespace Go.Proofs.Ytafdcbdbllpcnaa

/-- A meeting. -/
structure Mt where
  a : Int
  b : Int
  day : Int
  close : Bool
/-- i may have it from j, or j from i. -/
def Mt.links (x : Mt) (i j : Int) : Prop := (x.a = i ∧ x.b = j) ∨ (x.b = i ∧ x.a = j)
def okMt (n : Int) (x : Mt) : Prop := 0 ≤ x.a ∧ x.a < n ∧ 0 ≤ x.b ∧ x.b < n ∧ x.a ≠ x.b ∧ 0 ≤ x.day ∧ x.day ≤ 100000
/-- i is sick from day t on, if it is passed on at the meetings E, w days behind each. -/
inductive Sk (first : List Int) (E : Mt → Prop) (w : Int) : Int → Int → Prop
  | start {i : Int} : i ∈ first → Sk first E w i 0
  | caught {i j s : Int} {x : Mt} : Sk first E w i s → E x → x.links i j → s ≤ x.day → Sk first E w j (x.day + w)
/-- It is sick on day d. -/
def SkBy (first : List Int) (E : Mt → Prop) (w d i : Int) : Prop := ∃ t, Sk first E w i t ∧ t ≤ d

theorem Sk.early {first : List Int} {E F : Mt → Prop} {w v i t : Int} (hE : ∀ x, F x → E x) (hw : w ≤ v) (h : Sk first F v i t) : ∃ s, Sk first E w i s ∧ s ≤ t := by
  induction h with
  | start h => exact ⟨0, .start h, Int.le_refl _⟩
  | caught h hx hl hs ih =>
    obtain ⟨s, h1, h2⟩ := ih
    exact ⟨_, .caught h1 (hE _ hx) hl (by omega), by omega⟩
theorem SkBy.early {first : List Int} {E F : Mt → Prop} {w v d i : Int} (hE : ∀ x, F x → E x) (hw : w ≤ v) (h : SkBy first F v d i) : SkBy first E w d i := by
  obtain ⟨t, h1, h2⟩ := h
  obtain ⟨s, h3, h4⟩ := h1.early hE hw
  exact ⟨s, h3, by omega⟩
theorem Sk.pos {first : List Int} {E : Mt → Prop} {w i t : Int} (hd : ∀ x, E x → 0 ≤ x.day) (hw : 1 ≤ w) (h : Sk first E w i t) : 0 ≤ t := by
  induction h with
  | start h => exact Int.le_refl _
  | caught h hx hl hs ih => have := hd _ hx; omega
theorem Sk.rng {first : List Int} {E : Mt → Prop} {n w i t : Int} (hf : ∀ i ∈ first, 0 ≤ i ∧ i < n) (ho : ∀ x, E x → okMt n x) (h : Sk first E w i t) : 0 ≤ i ∧ i < n := by
  cases h with
  | start h => exact hf _ h
  | caught h hx hl hs =>
    obtain ⟨h1, h2, h3, h4, -⟩ := ho _ hx
    rcases hl with ⟨-, rfl⟩ | ⟨-, rfl⟩
    · exact ⟨h3, h4⟩
    · exact ⟨h1, h2⟩

/-- What is reckoned is true: nobody is told to be sick who is not. -/
def Snd (first : List Int) (E : Mt → Prop) (w n N : Int) (f : Int → Int) : Prop := ∀ i, 0 ≤ i → i < n → f i = N ∨ Sk first E w i (f i)
/-- Each of the meetings P is reckoned. -/
def Reck (E P : Mt → Prop) (w : Int) (f : Int → Int) : Prop := ∀ x, P x → E x → (f x.a ≤ x.day → f x.b ≤ x.day + w) ∧ (f x.b ≤ x.day → f x.a ≤ x.day + w)

theorem Reck.low {E P : Mt → Prop} {w D : Int} {f g : Int → Int} (h : Reck E P w f) (hg : ∀ j, g j = f j ∨ (g j ≤ f j ∧ g j = D + w)) (hd : ∀ x, P x → x.day ≤ D) (hw : 1 ≤ w) : Reck E P w g := by
  intro x hx hE
  obtain ⟨h1, h2⟩ := h x hx hE
  have hD := hd x hx
  have ga := hg x.a
  have gb := hg x.b
  constructor
  · intro h3
    have : f x.a ≤ x.day := by rcases ga with h | ⟨h, h'⟩ <;> omega
    have := h1 this
    rcases gb with h | ⟨h, h'⟩ <;> omega
  · intro h3
    have : f x.b ≤ x.day := by rcases gb with h | ⟨h, h'⟩ <;> omega
    have := h2 this
    rcases ga with h | ⟨h, h'⟩ <;> omega
theorem Snd.caught {first : List Int} {E : Mt → Prop} {w n N : Int} {f : Int → Int} (h : Snd first E w n N f) {i j : Int} {x : Mt} (hx : E x) (ho : okMt n x) (hN : 100000 < N) (hl : x.links i j) (hf : f i ≤ x.day) : Sk first E w j (x.day + w) := by
  obtain ⟨h1, h2, h3, h4, -, h6, h7⟩ := ho
  have hi : 0 ≤ i ∧ i < n := by
    rcases hl with ⟨rfl, -⟩ | ⟨rfl, -⟩
    · exact ⟨h1, h2⟩
    · exact ⟨h3, h4⟩
  rcases h i hi.1 hi.2 with h | h
  · omega
  · exact .caught h hx hl hf
/-- Where all is reckoned that matters by day d, who is told to be sick on day d is. -/
theorem reckoned {first : List Int} {E P : Mt → Prop} {w n N d : Int} {f : Int → Int} (hs : Snd first E w n N f) (hb : ∀ i ∈ first, f i ≤ 0) (hr : Reck E P w f) (hf : ∀ i ∈ first, 0 ≤ i ∧ i < n) (ho : ∀ x, E x → okMt n x)
    (hp : ∀ x, E x → P x ∨ d < x.day + w) (hw : 1 ≤ w) (hd : d < N) {i : Int} (hi : 0 ≤ i ∧ i < n) : f i ≤ d ↔ SkBy first E w d i := by
  constructor
  · intro h
    rcases hs i hi.1 hi.2 with h' | h'
    · omega
    · exact ⟨_, h', h⟩
  · rintro ⟨t, ht, htd⟩
    suffices h : ∀ i t, Sk first E w i t → t ≤ d → f i ≤ t by have := h i t ht htd; omega
    intro i t ht
    induction ht with
    | start h => intro _; exact hb _ h
    | @caught i j s x h hx hl hs' ih =>
      intro hle
      have h1 : f i ≤ s := ih (by omega)
      rcases hp x hx with hP | hP
      · obtain ⟨r1, r2⟩ := hr x hP hx
        rcases hl with ⟨rfl, rfl⟩ | ⟨rfl, rfl⟩
        · exact r1 (by omega)
        · exact r2 (by omega)
      · omega

/-- One direction of a meeting. -/
def upd (f : Int → Int) (i v : Int) : Int → Int := fun j => if j = i then v else f j
def passOn (b : Bool) (D w : Int) (i j : Int) (f : Int → Int) : Int → Int := if b = true ∧ f i ≤ D then upd f j (mn (f j) (D + w)) else f
theorem passOn_low (b : Bool) (D w : Int) (i j : Int) (f : Int → Int) : ∀ k, passOn b D w i j f k = f k ∨ (passOn b D w i j f k ≤ f k ∧ passOn b D w i j f k = D + w) := by
  intro k
  unfold passOn
  by_cases h : b = true ∧ f i ≤ D
  · rw [if_pos h]
    unfold upd
    by_cases hk : k = j
    · subst hk
      simp only [if_true, mn]
      split <;> omega
    · rw [if_neg hk]; exact .inl rfl
  · rw [if_neg h]; exact .inl rfl
theorem passOn_to {b : Bool} {D w : Int} {i j : Int} {f : Int → Int} (hb : b = true) (h : f i ≤ D) : passOn b D w i j f j ≤ D + w := by
  unfold passOn
  rw [if_pos ⟨hb, h⟩]
  simp only [upd, if_true, mn]
  split <;> omega
theorem passOn_same {b : Bool} {D w : Int} {i j k : Int} {f : Int → Int} (h : k ≠ j) : passOn b D w i j f k = f k := by
  unfold passOn
  split
  · simp [upd, h]
  · rfl
theorem passOn_le (b : Bool) (D w : Int) (i j : Int) (f : Int → Int) (k : Int) : passOn b D w i j f k ≤ f k := by
  rcases passOn_low b D w i j f k with h | ⟨h, -⟩ <;> omega
theorem Snd.pass {first : List Int} {E : Mt → Prop} {w n N : Int} {f : Int → Int} (h : Snd first E w n N f) {b : Bool} {i j : Int} {x : Mt} (hx : b = true → E x) (ho : okMt n x) (hN : 100000 < N) (hl : x.links i j) : Snd first E w n N (passOn b x.day w i j f) := by
  intro k h1 h2
  unfold passOn
  by_cases hc : b = true ∧ f i ≤ x.day
  · rw [if_pos hc]
    unfold upd
    by_cases hk : k = j
    · subst hk
      simp only [if_true, mn]
      split
      · exact .inr (h.caught (hx hc.1) ho hN hl hc.2)
      · exact h k h1 h2
    · rw [if_neg hk]; exact h k h1 h2
  · rw [if_neg hc]; exact h k h1 h2
/-- Both directions of a meeting, behind all of earlier days. -/
def both (b : Bool) (x : Mt) (w : Int) (f : Int → Int) : Int → Int := passOn b x.day w x.b x.a (passOn b x.day w x.a x.b f)
theorem Snd.passes {first : List Int} {E : Mt → Prop} {w n N : Int} {f : Int → Int} (h : Snd first E w n N f) {b : Bool} {x : Mt} (hx : b = true → E x) (ho : okMt n x) (hN : 100000 < N) : Snd first E w n N (both b x w f) :=
  (h.pass hx ho hN (.inl ⟨rfl, rfl⟩)).pass hx ho hN (.inr ⟨rfl, rfl⟩)
theorem both_le (b : Bool) (x : Mt) (w : Int) (f : Int → Int) (k : Int) : both b x w f k ≤ f k := Int.le_trans (passOn_le ..) (passOn_le ..)
theorem Reck.passes {E P : Mt → Prop} {w n : Int} {f : Int → Int} (h : Reck E P w f) {b : Bool} {x : Mt} (hx : E x → b = true) (ho : okMt n x) (hd : ∀ y, P y → y.day ≤ x.day) (hw : 1 ≤ w) : Reck E (fun y => P y ∨ y = x) w (both b x w f) := by
  have hne := ho.2.2.2.2.1
  have h1 : Reck E P w (both b x w f) := (h.low (passOn_low b x.day w x.a x.b f) hd hw).low (passOn_low b x.day w x.b x.a _) hd hw
  rintro y (hy | rfl) hE
  · exact h1 y hy hE
  · have hb := hx hE
    unfold both
    have e1 : passOn b y.day w y.b y.a (passOn b y.day w y.a y.b f) y.b = passOn b y.day w y.a y.b f y.b := passOn_same (fun e => hne e.symm)
    constructor
    · intro h2
      rw [e1]
      have h3 : f y.a ≤ y.day := by
        rcases passOn_low b y.day w y.b y.a (passOn b y.day w y.a y.b f) y.a with h | ⟨h, h'⟩
        · rw [h, passOn_same hne] at h2; exact h2
        · omega
      exact passOn_to hb h3
    · intro h2
      rw [e1] at h2
      exact passOn_to hb h2

/-- What is known of an animal. -/
def Knw (first : List Int) (ms : List Mt) (w : Int × Int) (d i v : Int) : Prop :=
  (SkBy first (fun x => x ∈ ms ∧ x.close = true) w.2 d i ∧ v = 2) ∨ (¬ SkBy first (fun x => x ∈ ms ∧ x.close = true) w.2 d i ∧ SkBy first (fun x => x ∈ ms) w.1 d i ∧ v = 1) ∨ (¬ SkBy first (fun x => x ∈ ms) w.1 d i ∧ v = 0)
theorem Knw.unique {first : List Int} {ms : List Mt} {w : Int × Int} {d i u v : Int} (hw : w.1 ≤ w.2) (h1 : Knw first ms w d i u) (h2 : Knw first ms w d i v) : u = v := by
  have hs : SkBy first (fun x => x ∈ ms ∧ x.close = true) w.2 d i → SkBy first (fun x => x ∈ ms) w.1 d i := fun h => h.early (fun _ hx => hx.1) hw
  rcases h1 with ⟨a, rfl⟩ | ⟨a, b, rfl⟩ | ⟨a, rfl⟩ <;> rcases h2 with ⟨c, rfl⟩ | ⟨c, d, rfl⟩ | ⟨c, rfl⟩ <;> first | rfl | exact absurd c a | exact absurd a c | exact absurd (hs c) a | exact absurd (hs a) c | exact absurd d a | exact absurd b c
theorem Knw.range {first : List Int} {ms : List Mt} {w : Int × Int} {d i v : Int} (h : Knw first ms w d i v) : 0 ≤ v ∧ v ≤ 2 := by
  rcases h with ⟨-, rfl⟩ | ⟨-, -, rfl⟩ | ⟨-, rfl⟩ <;> decide
/-- By its days. -/
theorem Knw.told {first : List Int} {ms : List Mt} {w : Int × Int} {d i lo hi : Int} (hw : w.1 ≤ w.2) (h1 : lo ≤ d ↔ SkBy first (fun x => x ∈ ms) w.1 d i) (h2 : hi ≤ d ↔ SkBy first (fun x => x ∈ ms ∧ x.close = true) w.2 d i) :
    Knw first ms w d i (if hi ≤ d then 2 else if lo ≤ d then 1 else 0) := by
  by_cases h : hi ≤ d
  · rw [if_pos h]; exact .inl ⟨h2.1 h, rfl⟩
  · rw [if_neg h]
    by_cases h' : lo ≤ d
    · rw [if_pos h']; exact .inr (.inl ⟨fun hh => h (h2.2 hh), h1.1 h', rfl⟩)
    · rw [if_neg h']; exact .inr (.inr ⟨fun hh => h' (h1.2 hh), rfl⟩)
end Go.Proofs.Ytafdcbdbllpcnaa
/- Lists of numbers and of meetings in memory. -/
namespace Go.Proofs.Ytafdcbdbllpcnaa
open Go.RowKit
open Go.Proofs

def IntsAt (w : World) (b off : Nat) (xs : List Int) : Prop := ∀ k (h : k < xs.length), w.cell? ⟨b, off + k, none⟩ = some (.int .i64 xs[k])
def IntsIn (w : World) (a : Option Addr) (cap : Nat) (xs : List Int) : Prop := (a = none ∧ cap = 0 ∧ xs = []) ∨ ∃ g off, a = some ⟨g, off, none⟩ ∧ IntsAt w g off xs ∧ g < w.heap.size
def MeetAt (w : World) (b o : Nat) (x : Mt) : Prop :=
  w.cell? ⟨b, o, none⟩ = some (.int .i64 x.a) ∧ w.cell? ⟨b, o + 1, none⟩ = some (.int .i64 x.b) ∧ w.cell? ⟨b, o + 2, none⟩ = some (.int .i64 x.day) ∧ w.cell? ⟨b, o + 3, none⟩ = some (.bool x.close)
def MeetsAt (w : World) (b off : Nat) (ms : List Mt) : Prop := ∀ k (h : k < ms.length), MeetAt w b (off + k * 4) ms[k]
def MeetsIn (w : World) (a : Option Addr) (cap : Nat) (ms : List Mt) : Prop := (a = none ∧ cap = 0 ∧ ms = []) ∨ ∃ g off, a = some ⟨g, off, none⟩ ∧ MeetsAt w g off ms ∧ g < w.heap.size
theorem MeetAt.below {B : Nat} {w w' : World} {b o : Nat} {x : Mt} (hB : Below B w w') (hb : b < B) (h : MeetAt w b o x) : MeetAt w' b o x := by
  obtain ⟨c0, c1, c2, c3⟩ := h
  exact ⟨at_belowb hB hb c0, at_belowb hB hb c1, at_belowb hB hb c2, at_belowb hB hb c3⟩
theorem IntsIn.below {B : Nat} {W W' : World} {a : Option Addr} {cap : Nat} {xs : List Int} (h : IntsIn W a cap xs) (hE : Below B W W') (hs : W.heap.size ≤ B) : IntsIn W' a cap xs := by
  rcases h with h | ⟨g, off, h1, h2, h3⟩
  · exact .inl h
  · exact .inr ⟨g, off, h1, fun k hk => at_belowb hE (by omega) (h2 k hk), Nat.lt_of_lt_of_le h3 hE.size⟩
theorem MeetsIn.below {B : Nat} {W W' : World} {a : Option Addr} {cap : Nat} {xs : List Mt} (h : MeetsIn W a cap xs) (hE : Below B W W') (hs : W.heap.size ≤ B) : MeetsIn W' a cap xs := by
  rcases h with h | ⟨g, off, h1, h2, h3⟩
  · exact .inl h
  · exact .inr ⟨g, off, h1, fun k hk => (h2 k hk).below hE (by omega), Nat.lt_of_lt_of_le h3 hE.size⟩
theorem IntsIn.ext {W W' : World} {a : Option Addr} {cap : Nat} {xs : List Int} (h : IntsIn W a cap xs) (hE : Ext W W') : IntsIn W' a cap xs := h.below hE (Nat.le_refl _)
theorem MeetsIn.ext {W W' : World} {a : Option Addr} {cap : Nat} {xs : List Mt} (h : MeetsIn W a cap xs) (hE : Ext W W') : MeetsIn W' a cap xs := h.below hE (Nat.le_refl _)
theorem IntsIn.get {W : World} {a : Option Addr} {cap : Nat} {xs : List Int} (h : IntsIn W a cap xs) {k : Nat} (hk : k < xs.length) : ∃ g off, a = some ⟨g, off, none⟩ ∧ W.cell? ⟨g, off + k, none⟩ = some (.int .i64 (xs.getD k 0)) ∧ g < W.heap.size := by
  rcases h with ⟨-, -, h⟩ | ⟨g, off, h1, h2, h3⟩
  · subst h; simp at hk
  · exact ⟨g, off, h1, by rw [h2 k hk]; simp [hk], h3⟩
def mt0 : Mt := ⟨0, 0, 0, false⟩
def mtS (ms : List Mt) (k : Nat) : Mt := ms.getD k mt0
theorem mtS_get {ms : List Mt} {k : Nat} (hk : k < ms.length) : ms[k] = mtS ms k := by simp [mtS, hk]
theorem mtS_mem {ms : List Mt} {k : Nat} (hk : k < ms.length) : mtS ms k ∈ ms := by rw [← mtS_get hk]; exact List.getElem_mem hk
theorem MeetsIn.get {W : World} {a : Option Addr} {cap : Nat} {ms : List Mt} (h : MeetsIn W a cap ms) {k : Nat} (hk : k < ms.length) : ∃ g off, a = some ⟨g, off, none⟩ ∧ MeetAt W g (off + k * 4) (mtS ms k) ∧ g < W.heap.size := by
  rcases h with ⟨-, -, h⟩ | ⟨g, off, h1, h2, h3⟩
  · subst h; simp at hk
  · exact ⟨g, off, h1, by rw [← mtS_get hk]; exact h2 k hk, h3⟩

/-- What is asked of a first one, of a meeting; the error. -/
def inR (n i : Int) : Bool := decide (0 ≤ i) && decide (i < n)
def okX (n : Int) (x : Mt) : Bool := inR n x.a && inR n x.b && decide (x.a ≠ x.b) && decide (0 ≤ x.day) && decide (x.day ≤ 100000)
def okA (n : Int) (wt : Int × Int) (day : Int) : Bool := decide (1 ≤ n) && decide (n ≤ 30) && decide (1 ≤ wt.1) && okSpan 60 wt && decide (0 ≤ day) && decide (day ≤ 100000)
def chkG (n : Int) (first : List Int) (ms : List Mt) (wt : Int × Int) (day : Int) : Int :=
  if okA n wt day = true then (if first.length ≤ 30 ∧ ms.length ≤ 200 then (if first.all (inR n) = true then (if ms.all (okX n) = true then 0 else 14) else 14) else 4) else 2
theorem okX_iff {n : Int} {x : Mt} : okX n x = true ↔ okMt n x := by
  simp only [okX, inR, okMt, Bool.and_eq_true, decide_eq_true_eq]
  constructor
  · rintro ⟨⟨⟨⟨⟨h1, h2⟩, h3, h4⟩, h5⟩, h6⟩, h7⟩; exact ⟨h1, h2, h3, h4, h5, h6, h7⟩
  · rintro ⟨h1, h2, h3, h4, h5, h6, h7⟩; exact ⟨⟨⟨⟨⟨h1, h2⟩, h3, h4⟩, h5⟩, h6⟩, h7⟩
theorem allI_step {α : Type} {p : α → Bool} {xs : List α} {k : Nat} (h : k < xs.length) (ha : (xs.take k).all p = true) (d : α) (hp : p (xs.getD k d) = true) : (xs.take (k + 1)).all p = true := by
  rw [List.take_succ_eq_append_getElem h, List.all_append, ha]
  simp [h] at hp
  simp [hp]
theorem allI_no {α : Type} {p : α → Bool} {xs : List α} {k : Nat} (h : k < xs.length) (d : α) (hp : p (xs.getD k d) = false) : ¬ xs.all p = true := by
  rw [Bool.not_eq_true, List.all_eq_false]
  simp [h] at hp
  exact ⟨xs[k], List.getElem_mem h, by rw [hp]; simp⟩
theorem chkG_fine {n : Int} {first : List Int} {ms : List Mt} {wt : Int × Int} {day : Int} (h : chkG n first ms wt day = 0) :
    (1 ≤ n ∧ n ≤ 30) ∧ (1 ≤ wt.1 ∧ wt.1 ≤ wt.2 ∧ wt.2 ≤ 60) ∧ (0 ≤ day ∧ day ≤ 100000) ∧ (first.length ≤ 30 ∧ ms.length ≤ 200) ∧ (∀ i ∈ first, 0 ≤ i ∧ i < n) ∧ ∀ x ∈ ms, okMt n x := by
  unfold chkG at h
  by_cases h1 : okA n wt day = true
  · rw [if_pos h1] at h
    by_cases h2 : first.length ≤ 30 ∧ ms.length ≤ 200
    · rw [if_pos h2] at h
      by_cases h3 : first.all (inR n) = true
      · rw [if_pos h3] at h
        by_cases h4 : ms.all (okX n) = true
        · simp only [okA, okSpan, Bool.and_eq_true, decide_eq_true_eq] at h1
          obtain ⟨⟨⟨⟨⟨a1, a2⟩, a3⟩, ⟨-, a4⟩, a5⟩, a6⟩, a7⟩ := h1
          rw [List.all_eq_true] at h3 h4
          refine ⟨⟨a1, a2⟩, ⟨a3, a4, a5⟩, ⟨a6, a7⟩, h2, fun i hi => ?_, fun x hx => okX_iff.1 (h4 x hx)⟩
          have := h3 i hi
          simpa [inR] using this
        · rw [if_neg h4] at h; omega
      · rw [if_neg h3] at h; omega
    · rw [if_neg h2] at h; omega
  · rw [if_neg h1] at h; omega
end Go.Proofs.Ytafdcbdbllpcnaa
/- A copy of a list of meetings, and its cells as a row of a sort's. -/
namespace Go.Proofs.Ytafdcbdbllpcnaa
open Go.RowKit Go.Sort
open Go.Proofs

instance : Inhabited Mt := ⟨⟨0, 0, 0, false⟩⟩
def mtCells (x : Mt) : List Value := [.int .i64 x.a, .int .i64 x.b, .int .i64 x.day, .bool x.close]
theorem mt_len (x : Mt) : (mtCells x).length = 4 := rfl
theorem mt_one1 (x : Mt) : ∀ u ∈ mtCells x, u.oneCell' = true := by
  intro u hu
  simp only [mtCells, List.mem_cons, List.not_mem_nil, or_false] at hu
  rcases hu with rfl | rfl | rfl | rfl <;> rfl
theorem mt_one {ms : List Mt} : ∀ u ∈ ms.flatMap mtCells, u.oneCell' = true := by
  intro u hu
  obtain ⟨m, _, hu⟩ := List.mem_flatMap.1 hu
  exact mt_one1 m u hu
theorem meet_cell {w : World} {g o : Nat} {x : Mt} (h : MeetAt w g o x) : ∀ i u, (mtCells x)[i]? = some u → w.cell? ⟨g, o + i, none⟩ = some u := by
  obtain ⟨c0, c1, c2, c3⟩ := h
  intro i u hu
  match i with
  | 0 => simp [mtCells] at hu; subst hu; exact c0
  | 1 => simp [mtCells] at hu; subst hu; exact c1
  | 2 => simp [mtCells] at hu; subst hu; exact c2
  | 3 => simp [mtCells] at hu; subst hu; exact c3
  | n + 4 => simp [mtCells] at hu
theorem meets_src {w : World} {a : Option Addr} {cap n : Nat} {ms : List Mt} (hn : n = ms.length) (h : MeetsIn w a cap ms) : (a = none ∧ n = 0 ∧ cap = 0) ∨ ∃ ad, a = some ad ∧ ∀ j u, (ms.flatMap mtCells)[j]? = some u → w.cell? (ad.add j) = some u := by
  rcases h with ⟨h1, h2, h3⟩ | ⟨b, off, h1, h2, h3⟩
  · exact .inl ⟨h1, by rw [hn, h3]; rfl, h2⟩
  · refine .inr ⟨_, h1, ?_⟩
    refine flat_all mtCells 4 mt_len (by omega) (fun j u => w.cell? ((⟨b, off, none⟩ : Addr).add j) = some u) ms ?_
    intro k hk i u hu
    rw [add_none, ← Nat.add_assoc]
    exact meet_cell (h2 k hk) i u hu
theorem meets_own {w : World} {base g n cap : Nat} {ms : List Mt} (hn : n = ms.length) (h : w.ownsRow base 79 4 (.slice (some ⟨g, 0, none⟩) n cap) n (ms.flatMap mtCells)) : MeetsIn w (some ⟨g, 0, none⟩) cap ms ∧ base ≤ g ∧ g < w.heap.size ∧ HoldsK mtCells 4 w g 0 ms.toArray := by
  subst hn
  have hb : base ≤ g ∧ g < w.heap.size := h.lt g rfl
  have key : ∀ k (hk : k < ms.length) i u, (mtCells ms[k])[i]? = some u → w.cell? ⟨g, 0 + k * 4 + i, none⟩ = some u := by
    intro k hk i u hu
    have hi : i < 4 := (List.getElem?_eq_some_iff.1 hu).1
    have h2 := h.cellAt (0 + k * 4 + i) (by have : (k + 1) * 4 ≤ ms.length * 4 := Nat.mul_le_mul_right 4 hk; omega)
    rw [h2, Nat.zero_add, flat_at mtCells 4 mt_len ms k i hk hi]
    exact hu
  refine ⟨.inr ⟨g, 0, rfl, fun k hk => ⟨key k hk 0 _ rfl, key k hk 1 _ rfl, key k hk 2 _ rfl, key k hk 3 _ rfl⟩, hb.2⟩, hb.1, hb.2, ?_⟩
  intro j hj
  have hj' : j < ms.length * 4 := by simpa using hj
  refine ⟨?_, h.frozenAt _⟩
  rw [h.cellAt (0 + j) (by omega), Nat.zero_add]
  have hk : j / 4 < ms.length := by omega
  have h1 := flat_at mtCells 4 mt_len ms (j / 4) (j % 4) hk (by omega)
  rw [show j / 4 * 4 + j % 4 = j by omega] at h1
  rw [h1]
  rw [get_flatK mtCells 4 ms.toArray j (by simpa using hj')]
  have e1 : (ms.toArray)[j / 4]! = ms[j / 4] := by simp [hk]
  rw [e1]
  have hl : j % 4 < (mtCells ms[j / 4]).length := by rw [mt_len]; omega
  rw [List.getElem?_eq_getElem hl]
  simp [hl]
/-- What inOrder hands back. -/
def InOrder (ms : List Mt) (ys : List Mt) : Prop := ys.length = ms.length ∧ (∀ x, x ∈ ys ↔ x ∈ ms) ∧ ys.Pairwise (fun x y => x.day ≤ y.day)
/-- A row of a sort's, read again. -/
theorem holds_meets {w : World} {g : Nat} {d : Array Mt} (h : HoldsK mtCells 4 w g 0 d) (hg : g < w.heap.size) (cap : Nat) : MeetsIn w (some ⟨g, 0, none⟩) cap d.toList := by
  refine .inr ⟨g, 0, rfl, fun k hk => ?_, hg⟩
  have hk' : k < d.size := by simpa using hk
  have e : d[k]! = d.toList[k] := by simp [hk']
  have key : ∀ c, c < 4 → w.cell? ⟨g, 0 + k * 4 + c, none⟩ = some (mtCells d.toList[k])[c]! := fun c hc => by
    have := (h.cell hk' hc).1; rw [e] at this; exact this
  exact ⟨key 0 (by omega), key 1 (by omega), key 2 (by omega), key 3 (by omega)⟩

theorem info79y : (Try.prog.info? 79).map (fun i => (i.zero, i.size, i.bytes)) = some (some (.agg #[.int .i64 0, .int .i64 0, .int .i64 0, .bool false]), 4, 32) := by kernel_rfl
theorem owns_new79 {w : World} {g base e size : Nat} (hg : w.heap.size = g) (hb : base ≤ g) : (w.alloc (.cells #[] e)).ownsRow base e size (.slice (some ⟨g, 0, none⟩) 0 0) 0 [] := by
  subst hg; exact World.ownsRow_made _ #[] 0 hb (by decide) (by simp)

set_option maxRecDepth 100000 in
set_option maxHeartbeats 2000000 in
theorem Clone_ms (a : Option Addr) (cap n : Nat) (ms : List Mt) (w : World) (hn : n = ms.length) (h : MeetsIn w a cap ms) (h250 : n ≤ 250) :
    Calls Try.prog 92 #[.slice a n cap] w fun e w' => (∃ a' cap', e = .returned (.slice a' n cap') ∧ ((a' = none ∧ n = 0 ∧ cap' = 0) ∨ ∃ g, a' = some ⟨g, 0, none⟩ ∧ w.heap.size ≤ g ∧ g < w'.heap.size ∧ HoldsK mtCells 4 w' g 0 ms.toArray)) ∧ Below w.heap.size w w' := by
  have HN := Lib.hid hn
  have HM := Lib.hid h
  have hn250 : (n : Int) ≤ 250 := by omega
  obtain ⟨i0, hi0, hz0, hz1, hz2⟩ := info_parts info79y
  have hcase : (a = none ∧ n = 0 ∧ cap = 0) ∨ ∃ ad, a = some ad := by
    rcases meets_src hn h with h | ⟨ad, h, -⟩
    · exact .inl h
    · exact .inr ⟨ad, h⟩
  clear hn h
  rcases hcase with ⟨rfl, h0, rfl⟩ | ⟨ad, rfl⟩
  · subst h0
    clear hi0 hz0 hz1 hz2
    have hq := Lib.run_eql_slice_nil (P := Try.prog) w 28 79 none 0 0 0 0 Try.underlying28
    go_enter Try.func92, Try.ntmps92
    go_wp2
    go_returns
    exact ⟨⟨none, 0, rfl, by simp⟩, Below.refl _ _⟩
  · have hq := Lib.run_eql_slice_nil (P := Try.prog) w 28 79 (some ad) n cap 0 0 Try.underlying28
    go_enter Try.func92, Try.ntmps92
    go_wp2_with (first
      | (at_builtin; refine wpList_clone rfl _ _ 28 rfl w.heap.size 79 i0 (.agg #[.int .i64 0, .int .i64 0, .int .i64 0, .bool false]) 4 32 Try.underlying28 hi0 hz0 hz1 hz2 rfl (by decide) w.heap.size 0 rfl ?own (some ad) n cap (ms.flatMap mtCells) rfl ?len ?src mt_one (by unfold maxLen; omega) (by omega) (by simp) ?_)
      | fail)
    case own => exact owns_new79 rfl (Nat.le_refl _)
    case len => rw [flat_len mtCells 4 mt_len, HN.out]
    case src => exact meets_src HN.out (HM.out.ext (ext_alloc _ _))
    intro g cp w1 hown1 hgrow1
    have hWA : Below w.heap.size w w1 := Below.grown (by go_grown) hgrow1 (by simp) (fun i e => by cases e; exact Nat.le_refl _)
    obtain ⟨-, hO2, hO3, hO4⟩ := meets_own HN.out hown1
    have HO := Lib.hid hO4
    clear hown1 hgrow1 hO4 hi0 hz0 hz1 hz2
    go_wp2
    go_returns
    exact ⟨⟨some ⟨g, 0, none⟩, cp, rfl, .inr ⟨g, rfl, hO2, hO3, HO.out⟩⟩, hWA⟩
end Go.Proofs.Ytafdcbdbllpcnaa
