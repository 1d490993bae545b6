/- Mange as it may pass, day by day: plain. -/
import Derived.Test.YtafdcbdbllpcnaaRefA
set_option linter.unusedVariables false
set_option linter.unusedSimpArgs false
namespace Go.Proofs.Ytafdcbdbllpcnaa

theorem getD_setD {α : Type} {xs : List α} {j k : Nat} {v d : α} (hj : j < xs.length) : (xs.set j v).getD k d = if k = j then v else xs.getD k d := by
  by_cases h : k = j
  · subst h; simp [hj]
  · rw [if_neg h]
    simp [List.getD, List.getElem?_set_ne (show j ≠ k from fun e => h e.symm)]

theorem Sk.wider {A B : List Int} {E : Mt → Prop} {w i t : Int} (h : Sk A E w i t) (hs : ∀ i ∈ A, i ∈ B) : Sk B E w i t := by
  induction h with
  | start h => exact .start (hs _ h)
  | caught _ hx hl hd ih => exact .caught ih hx hl hd
/-- From when on each one is sick (xs), and who has caught it (cs), where the meetings P are behind, none later than D. -/
structure Sim (first : List Int) (ms : List Mt) (w : Int × Int) (n : Nat) (D : Int) (P : Mt → Prop) (xs : List Int) (cs : List Bool) : Prop where
  len : xs.length = n
  clen : cs.length = n
  free : ∀ i, i < n → cs.getD i false = false → xs.getD i 0 = 100061
  got : ∀ i, i < n → cs.getD i false = true → ∃ t, Sk first (fun x => x ∈ ms) w.1 (i : Int) t ∧ t ≤ xs.getD i 0
  top : ∀ i, i < n → cs.getD i false = true → xs.getD i 0 ≤ D + w.2
  base : ∀ i ∈ first, fI xs i ≤ 0
  reck : Reck (fun x => x ∈ ms ∧ x.close = true) P w.2 (fI xs)

/-- One way of a meeting. -/
def ovX (d v : Int) (i j : Nat) (xs : List Int) (cs : List Bool) : List Int := if xs.getD i 0 ≤ d ∧ cs.getD j false = false then xs.set j (d + v) else xs
def ovC (d : Int) (i j : Nat) (xs : List Int) (cs : List Bool) : List Bool := if xs.getD i 0 ≤ d ∧ cs.getD j false = false then cs.set j true else cs

section
variable {first : List Int} {ms : List Mt} {w : Int × Int} {n : Nat} {D : Int} {P : Mt → Prop} {xs : List Int} {cs : List Bool}
theorem Sim.over (h : Sim first ms w n D P xs cs) (hms : ∀ x ∈ ms, okMt (n : Int) x) (hf : ∀ i ∈ first, 0 ≤ i) (hw : 1 ≤ w.1) (hw2 : w.2 ≤ 60) (hP : ∀ y, P y → y.day ≤ D) {x : Mt} {i j : Nat} {v : Int} (hx : x ∈ ms) (hl : x.links (i : Int) (j : Int)) (hd : x.day = D) (hv1 : w.1 ≤ v) (hv2 : v ≤ w.2) :
    Sim first ms w n D P (ovX D v i j xs cs) (ovC D i j xs cs) ∧ (fI (ovX D v i j xs cs) i ≤ D → fI (ovX D v i j xs cs) j ≤ D + w.2) ∧
      (∀ q, 0 ≤ q → fI (ovX D v i j xs cs) q = fI xs q ∨ (D < fI (ovX D v i j xs cs) q ∧ q = (j : Int) ∧ fI xs q = 100061)) := by
  obtain ⟨o1, o2, o3, o4, o5, o6, o7⟩ := hms x hx
  obtain ⟨hi, hj, hij⟩ : i < n ∧ j < n ∧ i ≠ j := by
    rcases hl with ⟨e1, e2⟩ | ⟨e1, e2⟩ <;> rw [e1, e2] at o5 <;> refine ⟨by omega, by omega, fun e => ?_⟩ <;> subst e <;> exact o5 rfl
  have lj : j < xs.length := by rw [h.len]; exact hj
  have lc : j < cs.length := by rw [h.clen]; exact hj
  by_cases hc : xs.getD i 0 ≤ D ∧ cs.getD j false = false
  · rw [ovX, ovC, if_pos hc, if_pos hc]
    have hn := h.free j hj hc.2
    have hval : ∀ q, 0 ≤ q → fI (xs.set j (D + v)) q = if q = (j : Int) then D + v else fI xs q := fun q hq => fI_set lj hq
    have hall : ∀ q, 0 ≤ q → fI (xs.set j (D + v)) q = fI xs q ∨ (D < fI (xs.set j (D + v)) q ∧ q = (j : Int) ∧ fI xs q = 100061) := by
      intro q hq
      rw [hval q hq]
      by_cases e : q = (j : Int)
      · subst e
        rw [if_pos rfl]
        exact .inr ⟨by omega, rfl, by rw [fI_nat]; exact hn⟩
      · rw [if_neg e]; exact .inl rfl
    refine ⟨⟨by simpa using h.len, by simpa using h.clen, ?_, ?_, ?_, ?_, ?_⟩, ?_, hall⟩
    · intro q hq hqf
      rw [getD_setD lc] at hqf
      rw [getD_setD lj]
      split at hqf
      · cases hqf
      · rename_i e; rw [if_neg e]; exact h.free q hq hqf
    · intro q hq hqf
      rw [getD_setD lc] at hqf
      rw [getD_setD lj]
      split at hqf
      · rename_i e
        rw [if_pos e]
        subst e
        cases hci : cs.getD i false with
        | false => have := h.free i hi hci; omega
        | true =>
          obtain ⟨t, h1, h2⟩ := h.got i hi hci
          exact ⟨x.day + w.1, .caught h1 hx hl (by omega), by omega⟩
      · rename_i e; rw [if_neg e]; exact h.got q hq hqf
    · intro q hq hqf
      rw [getD_setD lc] at hqf
      rw [getD_setD lj]
      split at hqf
      · rename_i e; rw [if_pos e]; omega
      · rename_i e; rw [if_neg e]; exact h.top q hq hqf
    · intro q hq
      have hb := h.base q hq
      rw [hval q (hf q hq)]
      by_cases e : q = (j : Int)
      · subst e; rw [fI_nat] at hb; omega
      · rw [if_neg e]; exact hb
    · intro y hy hE
      obtain ⟨r1, r2⟩ := h.reck y hy hE
      obtain ⟨p1, p2, p3, p4, p5, p6, p7⟩ := hms y hE.1
      have hyd := hP y hy
      rcases hall y.a p1 with ea | ⟨ea1, ea2, ea3⟩ <;> rcases hall y.b p3 with eb | ⟨eb1, eb2, eb3⟩
      · rw [ea, eb]; exact ⟨r1, r2⟩
      · rw [ea]
        exact ⟨fun hh => by have := r1 hh; omega, fun hh => by omega⟩
      · rw [eb]
        exact ⟨fun hh => by omega, fun hh => by have := r2 hh; omega⟩
      · exact absurd (ea2.trans eb2.symm) p5
    · intro _
      rw [hval j (by omega), if_pos rfl]; omega
  · rw [ovX, ovC, if_neg hc, if_neg hc]
    refine ⟨h, ?_, fun q _ => .inl rfl⟩
    rw [fI_nat, fI_nat]
    intro h1
    cases hcj : cs.getD j false with
    | false => exact absurd ⟨h1, hcj⟩ hc
    | true => exact h.top j hj hcj
theorem Sim.skip (h : Sim first ms w n D P xs cs) {x : Mt} (hx : x.close = false) : Sim first ms w n D (fun y => P y ∨ y = x) xs cs :=
  ⟨h.len, h.clen, h.free, h.got, h.top, h.base, fun y hy hE => by
    rcases hy with hy | rfl
    · exact h.reck y hy hE
    · exact absurd hE.2 (by rw [hx]; decide)⟩
theorem Sim.mono (h : Sim first ms w n D P xs cs) {E : Int} {Q : Mt → Prop} (hD : D ≤ E) (hQ : ∀ x ∈ ms, Q x → P x) : Sim first ms w n E Q xs cs :=
  ⟨h.len, h.clen, h.free, h.got, fun i hi hc => by have := h.top i hi hc; omega, h.base, fun y hy hE => h.reck y (hQ y hE.1 hy) hE⟩
/-- What is told is so. -/
theorem Sim.said (h : Sim first ms w n D P xs cs) {day : Int} (hday : day ≤ 100000) (hms : ∀ x ∈ ms, okMt (n : Int) x) (hP : ∀ x ∈ ms, x.day ≤ day → P x) (hw : 1 ≤ w.1) (hww : w.1 ≤ w.2) {i : Nat} (hi : i < n) {v : Int} (hk : Knw first ms w day (i : Int) v) :
    ¬ 2 < v ∧ (v = 2 → xs.getD i 0 ≤ day) ∧ (v = 0 → ¬ xs.getD i 0 ≤ day) := by
  have key : ∀ q t, Sk first (fun x => x ∈ ms ∧ x.close = true) w.2 q t → t ≤ day → fI xs q ≤ t := by
    intro q t ht
    induction ht with
    | start hq => intro _; exact h.base _ hq
    | @caught p q s x hs hx hl hsd ih =>
      intro hle
      have h1 := ih (by omega)
      obtain ⟨r1, r2⟩ := h.reck x (hP x hx.1 (by omega)) hx
      rcases hl with ⟨rfl, rfl⟩ | ⟨rfl, rfl⟩
      · exact r1 (by omega)
      · exact r2 (by omega)
  rcases hk with ⟨⟨t, h1, h2⟩, rfl⟩ | ⟨-, -, rfl⟩ | ⟨hno, rfl⟩
  · refine ⟨by omega, fun _ => ?_, fun e => absurd e (by omega)⟩
    have := key _ t h1 h2
    rw [fI_nat] at this
    omega
  · exact ⟨by omega, fun e => absurd e (by omega), fun e => absurd e (by omega)⟩
  · refine ⟨by omega, fun e => absurd e (by omega), fun _ hle => hno ?_⟩
    cases hc : cs.getD i false with
    | false => have := h.free i hi hc; omega
    | true =>
      obtain ⟨t, h1, h2⟩ := h.got i hi hc
      exact ⟨t, h1, by omega⟩
/-- At first. -/
theorem Sim.start (k : Nat) (hf : ∀ i ∈ first, 0 ≤ i) (hw2 : 0 ≤ w.2) : Sim (first.take 0) ms w k 0 (fun _ => False) (List.replicate k 100061) (List.replicate k false) :=
  ⟨by simp, by simp, fun i hi _ => by simp [hi], fun i hi hc => by simp [hi] at hc, fun i hi hc => by simp [hi] at hc, fun i hi => by simp at hi, fun y hy => hy.elim⟩
theorem Sim.firstly {k : Nat} (h : Sim (first.take k) ms w n 0 (fun _ => False) xs cs) (hk : k < first.length) {j : Nat} (hj : first[k] = (j : Int)) (hjn : j < n) (hw2 : 0 ≤ w.2) (hf : ∀ i ∈ first, 0 ≤ i) : Sim (first.take (k + 1)) ms w n 0 (fun _ => False) (xs.set j 0) (cs.set j true) := by
  have lj : j < xs.length := by rw [h.len]; exact hjn
  have lc : j < cs.length := by rw [h.clen]; exact hjn
  have ht := List.take_succ_eq_append_getElem hk
  refine ⟨by simpa using h.len, by simpa using h.clen, ?_, ?_, ?_, ?_, fun y hy => hy.elim⟩
  · intro q hq hqf
    rw [getD_setD lc] at hqf
    rw [getD_setD lj]
    split at hqf
    · cases hqf
    · rename_i e; rw [if_neg e]; exact h.free q hq hqf
  · intro q hq hqf
    rw [getD_setD lc] at hqf
    rw [getD_setD lj]
    split at hqf
    · rename_i e
      rw [if_pos e]
      subst e
      exact ⟨0, .start (by rw [← hj, ht]; exact List.mem_append_right _ (List.mem_singleton.2 rfl)), Int.le_refl _⟩
    · rename_i e
      rw [if_neg e]
      obtain ⟨t, h1, h2⟩ := h.got q hq hqf
      exact ⟨t, h1.wider (fun i hi => by rw [ht]; exact List.mem_append_left _ hi), h2⟩
  · intro q hq hqf
    rw [getD_setD lc] at hqf
    rw [getD_setD lj]
    split at hqf
    · rename_i e; rw [if_pos e]; omega
    · rename_i e; rw [if_neg e]; exact h.top q hq hqf
  · intro q hq
    rw [ht, List.mem_append] at hq
    rcases hq with hq | hq
    · have hb := h.base q hq
      rw [fI_set lj (hf q (List.mem_of_mem_take hq))]
      split
      · exact Int.le_refl _
      · exact hb
    · obtain rfl : q = first[k] := by simpa using hq
      rw [hj, fI_set lj (by omega), if_pos rfl]
      exact Int.le_refl _
end

/-- The days, sorted by exchanging neighbours: behind place i all but the one at k stand in order. -/
def OrdTo (i k : Nat) (ds : List Int) : Prop := ∀ p q, p < q → q ≤ i → q ≠ k → ds.getD p 0 ≤ ds.getD q 0
theorem OrdTo.next {i : Nat} {ds : List Int} (h : ∀ p q, p < q → q < i → ds.getD p 0 ≤ ds.getD q 0) : OrdTo i i ds := fun p q hp hq hne => h p q hp (by omega)
theorem OrdTo.done {i k : Nat} {ds : List Int} (h : OrdTo i k ds) (hk : k ≤ i) (hd : k = 0 ∨ ds.getD (k - 1) 0 ≤ ds.getD k 0) : ∀ p q, p < q → q < i + 1 → ds.getD p 0 ≤ ds.getD q 0 := by
  intro p q hp hq
  by_cases e : q = k
  · subst e
    rcases hd with hd | hd
    · omega
    · by_cases e2 : p = q - 1
      · subst e2; exact hd
      · have := h p (q - 1) (by omega) (by omega) (by omega)
        omega
  · exact h p q hp (by omega) e
def swp (k : Nat) (ds : List Int) : List Int := (ds.set k (ds.getD (k - 1) 0)).set (k - 1) (ds.getD k 0)
theorem swp_getD {k : Nat} {ds : List Int} (h0 : 0 < k) (hk : k < ds.length) (q : Nat) : (swp k ds).getD q 0 = if q = k - 1 then ds.getD k 0 else if q = k then ds.getD (k - 1) 0 else ds.getD q 0 := by
  rw [swp, getD_setD (by simp; omega), getD_setD hk]
theorem OrdTo.swap {i k : Nat} {ds : List Int} (h : OrdTo i k ds) (h0 : 0 < k) (hk : k < ds.length) (hki : k ≤ i) (hlt : ds.getD k 0 < ds.getD (k - 1) 0) : OrdTo i (k - 1) (swp k ds) := by
  intro p q hp hq hne
  rw [swp_getD h0 hk, swp_getD h0 hk, if_neg hne]
  by_cases e : q = k
  · rw [if_pos e]
    by_cases e2 : p = k - 1
    · rw [if_pos e2]; omega
    · rw [if_neg e2, if_neg (by omega)]
      exact h p (k - 1) (by omega) (by omega) (by omega)
  · rw [if_neg e]
    by_cases e2 : p = k - 1
    · rw [if_pos e2]; exact h k q (by omega) hq e
    · rw [if_neg e2]
      by_cases e3 : p = k
      · rw [if_pos e3]; exact h (k - 1) q (by omega) hq e
      · rw [if_neg e3]; exact h p q hp hq e
theorem swp_len (k : Nat) (ds : List Int) : (swp k ds).length = ds.length := by simp [swp]
theorem mem_getD {ds : List Int} {e : Int} : e ∈ ds ↔ ∃ q, q < ds.length ∧ ds.getD q 0 = e := by
  rw [List.mem_iff_getElem]
  constructor
  · rintro ⟨q, h, rfl⟩; exact ⟨q, h, by simp [h]⟩
  · rintro ⟨q, h, rfl⟩; exact ⟨q, h, by simp [h]⟩
theorem swp_mem {k : Nat} {ds : List Int} (h0 : 0 < k) (hk : k < ds.length) (e : Int) : e ∈ swp k ds ↔ e ∈ ds := by
  rw [mem_getD, mem_getD, swp_len]
  constructor
  · rintro ⟨q, hq, rfl⟩
    rw [swp_getD h0 hk]
    split
    · exact ⟨k, hk, rfl⟩
    · split
      · exact ⟨k - 1, by omega, rfl⟩
      · exact ⟨q, hq, rfl⟩
  · rintro ⟨q, hq, rfl⟩
    by_cases e1 : q = k
    · subst e1; exact ⟨q - 1, by omega, by rw [swp_getD h0 hk, if_pos rfl]⟩
    · by_cases e2 : q = k - 1
      · subst e2; exact ⟨k, hk, by rw [swp_getD h0 hk, if_neg (by omega), if_pos rfl]⟩
      · exact ⟨q, hq, by rw [swp_getD h0 hk, if_neg e2, if_neg e1]⟩
/-- The days on which it may be passed on. -/
def daysOf (ms : List Mt) (day : Int) : List Int := (ms.filter (fun x => decide (x.day ≤ day))).map (·.day)
theorem daysOf_mem {ms : List Mt} {day e : Int} : e ∈ daysOf ms day ↔ e ≤ day ∧ ∃ x ∈ ms, x.day = e := by
  simp only [daysOf, List.mem_map, List.mem_filter, decide_eq_true_eq]
  constructor
  · rintro ⟨x, ⟨h1, h2⟩, rfl⟩; exact ⟨h2, x, h1, rfl⟩
  · rintro ⟨h1, x, h2, rfl⟩; exact ⟨x, ⟨h2, h1⟩, rfl⟩
theorem daysOf_succ {ms : List Mt} {day : Int} {k : Nat} (hk : k < ms.length) : daysOf (ms.take (k + 1)) day = daysOf (ms.take k) day ++ if ms[k].day ≤ day then [ms[k].day] else [] := by
  rw [List.take_succ_eq_append_getElem hk, daysOf, daysOf, List.filter_append, List.map_append]
  congr 1
  by_cases h : ms[k].day ≤ day <;> simp [h]
theorem daysOf_len (ms : List Mt) (day : Int) : (daysOf ms day).length ≤ ms.length := by
  simp only [daysOf, List.length_map]
  exact List.length_filter_le _ _
end Go.Proofs.Ytafdcbdbllpcnaa
