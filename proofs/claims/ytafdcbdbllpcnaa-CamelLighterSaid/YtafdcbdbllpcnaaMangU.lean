/- Both reckonings of mange tell the same bytes. -/
import Derived.Test.YtafdcbdbllpcnaaLate
import Derived.Test.YtafdcbdbllpcnaaLeafY
import Derived.Test.YtafdcbdbllpcnaaOrdS
import Derived.Laws.BytesArg
set_option linter.unusedVariables false
set_option linter.unusedSimpArgs false
namespace Go.Proofs.Ytafdcbdbllpcnaa
open Go.RowKit
open Go.Proofs

open Classical in
/-- What is known of animal i. -/
noncomputable def knO (first : List Int) (ms : List Mt) (w : Int × Int) (d i : Int) : Int :=
  if SkBy first (fun x => x ∈ ms ∧ x.close = true) w.2 d i then 2 else if SkBy first (fun x => x ∈ ms) w.1 d i then 1 else 0
theorem knO_knw {first : List Int} {ms : List Mt} {w : Int × Int} (hw : w.1 ≤ w.2) (d i : Int) : Knw first ms w d i (knO first ms w d i) := by
  by_cases h1 : SkBy first (fun x => x ∈ ms ∧ x.close = true) w.2 d i
  · rw [knO, if_pos h1]; exact .inl ⟨h1, rfl⟩
  · by_cases h2 : SkBy first (fun x => x ∈ ms) w.1 d i
    · rw [knO, if_neg h1, if_pos h2]; exact .inr (.inl ⟨h1, h2, rfl⟩)
    · rw [knO, if_neg h1, if_neg h2]; exact .inr (.inr ⟨h2, rfl⟩)
open Classical in
/-- The bytes that are told. -/
noncomputable def bsO (n : Int) (first : List Int) (ms : List Mt) (w : Int × Int) (d : Int) : ByteArray :=
  if chkG n first ms w d = 0 then strOfNums ((List.range n.toNat).map fun i => knO first ms w d (i : Nat)) else ByteArray.empty
theorem bsO_ok {n : Nat} {first : List Int} {ms : List Mt} {w : Int × Int} {d : Int} (hx : chkG (n : Int) first ms w d = 0) {vs : List Int} (hl : vs.length = n) (hk : ∀ i, i < n → Knw first ms w d (i : Int) (vs.getD i 0)) : bsO (n : Int) first ms w d = strOfNums vs := by
  obtain ⟨-, ⟨-, hw, -⟩, -⟩ := chkG_fine hx
  unfold bsO
  rw [if_pos hx, Int.toNat_natCast]
  congr 1
  apply List.ext_getElem
  · simp [hl]
  · intro i h1 h2
    have hi : i < n := by simpa using h1
    have := hk i hi
    rw [show vs.getD i 0 = vs[i] by simp [h2]] at this
    simp only [List.getElem_map, List.getElem_range]
    exact (knO_knw hw d i).unique hw this

/-- Bytes in memory that are a string's. -/
def Told9 (W : World) (v : Value) (bs : ByteArray) : Prop := (v = .slice none 0 0 ∧ bs = ByteArray.empty) ∨ ∃ g n cap vs, v = .slice (some ⟨g, 0, none⟩) n cap ∧ g < W.heap.size ∧ vs.length = n ∧ bs = strOfNums vs ∧ ∀ i, i < n → W.cell? ⟨g, 0 + i, none⟩ = some (.int .u8 (vs.getD i 0))
theorem Told9.ext {W W' : World} {v : Value} {bs : ByteArray} (h : Told9 W v bs) (hE : Ext W W') : Told9 W' v bs := by
  rcases h with h | ⟨g, n, cap, vs, h1, h2, h3, h4, h5⟩
  · exact .inl h
  · exact .inr ⟨g, n, cap, vs, h1, Nat.lt_of_lt_of_le h2 hE.size, h3, h4, fun i hi => at_belowb hE h2 (h5 i hi)⟩
theorem Told9.conv {W : World} {v : Value} {bs : ByteArray} (h : Told9 W v bs) : (convert 23 9 v).run Try.prog W = .ok (.string bs) W := by
  rcases h with ⟨rfl, rfl⟩ | ⟨g, n, cap, vs, rfl, h2, h3, rfl, h5⟩
  · exact run_convert_bytes_nil W 23 5 Try.underlying23 Try.underlying5 0 0 9 Try.underlying9
  · exact run_convert_bytes_arg W 23 5 Try.underlying23 Try.underlying5 g 0 n cap vs h3 h5 9 Try.underlying9

theorem Mange_x (n day : Int) (wt : Int × Int) (fa : Option Addr) (fcap nf : Nat) (first : List Int) (ma : Option Addr) (mcap nm : Nat) (ms : List Mt) (x : Int) (bs : ByteArray) (w : World) (hnf : nf = first.length) (hnm : nm = ms.length) (hf : IntsIn w fa fcap first) (hm : MeetsIn w ma mcap ms) (hx : chkG n first ms wt day = x) (hb : bsO n first ms wt day = bs) (h250 : nm ≤ 250) :
    Calls Try.prog 15 #[.int .i64 n, .slice fa nf fcap, .slice ma nm mcap, .agg #[.int .i64 wt.1, .int .i64 wt.2], .int .i64 day] w fun e w' => (∃ v, e = .returned (.tuple #[v, .int .i64 x]) ∧ Told9 w' v bs) ∧ Below w.heap.size w w' := by
  by_cases h0 : x = 0
  · subst h0
    obtain ⟨⟨n1, -⟩, -⟩ := chkG_fine hx
    obtain ⟨nn, rfl⟩ : ∃ nn : Nat, n = (nn : Int) := ⟨n.toNat, by omega⟩
    have hsick : ∀ W, Below w.heap.size w W → Calls Try.prog 56 #[.int .i64 (nn : Int), .slice fa nf fcap, .slice ma nm mcap, .agg #[.int .i64 wt.1, .int .i64 wt.2], .int .i64 day] W fun e W' => (∃ g cap ss, e = .returned (.slice (some ⟨g, 0, none⟩) nn cap) ∧ W.heap.size ≤ g ∧ SpOut W' g ss ∧ SickBy first ms wt day nn ss) ∧ Below W.heap.size W W' := fun W hW =>
      sickFrom_any nn day wt fa fcap nf first ma mcap nm ms W hnf hnm (hf.below hW (Nat.le_refl _)) (hm.below hW (Nat.le_refl _)) hx (fun W' hW' => inOrder_any ma mcap nm ms W' hnm ((hm.below hW (Nat.le_refl _)).below hW' (Nat.le_refl _)) h250)
    refine (Mange_ok nn day wt fa fcap nf first ma mcap nm ms w hnf hnm hf hm hx hsick).mono ?_
    rintro e w' ⟨⟨g, rfl, hg, vs, hl, ho, hk⟩, hB⟩
    refine ⟨⟨_, rfl, .inr ⟨g, nn, nn, vs, rfl, ho.lt, hl, ?_, fun i hi => ?_⟩⟩, hB⟩
    · rw [← hb]; exact bsO_ok hx hl hk
    · rw [Nat.zero_add]; exact (ho.get (by omega)).1
  · refine (Mange_bad n day wt fa fcap nf first ma mcap nm ms x w hnf hnm hf hm hx h0).mono ?_
    rintro e w' ⟨rfl, hB⟩
    refine ⟨⟨_, rfl, .inl ⟨rfl, ?_⟩⟩, hB⟩
    rw [← hb, bsO, if_neg (by rw [hx]; exact h0)]
end Go.Proofs.Ytafdcbdbllpcnaa
/- What is told of mange where the meetings lie by their days, reckoned. -/
namespace Go.Proofs.Ytafdcbdbllpcnaa
open Go.RowKit
open Go.Proofs

def sw0 (first : List Int) (n : Nat) : List (Int × Int) := first.foldl (fun ss i => ss.set i.toNat (0, 0)) (List.replicate n (100001, 100001))
def swm (wt : Int × Int) (ms : List Mt) (ss : List (Int × Int)) : List (Int × Int) :=
  ms.foldl (fun ss x => dir x.day wt x.close x.b.toNat x.a.toNat (dir x.day wt x.close x.a.toNat x.b.toNat ss)) ss
def mangL (n : Nat) (first : List Int) (ms : List Mt) (wt : Int × Int) (d : Int) : List Int :=
  (List.range n).map fun k => if ((swm wt ms (sw0 first n)).getD k (0, 0)).2 ≤ d then 2 else if ((swm wt ms (sw0 first n)).getD k (0, 0)).1 ≤ d then 1 else 0
theorem sw0_go {first : List Int} {n : Int} : ∀ (Q L : List Int) (ss : List (Int × Int)), Sw0 first L n ss → (∀ i ∈ Q, i ∈ first ∧ 0 ≤ i ∧ i < n) → Sw0 first (L ++ Q) n (Q.foldl (fun ss i => ss.set i.toNat (0, 0)) ss)
  | [], L, ss, h, _ => by simpa using h
  | q :: Q, L, ss, h, hq => by
    obtain ⟨h1, h2, h3⟩ := hq q (by simp)
    obtain ⟨j, rfl⟩ : ∃ j : Nat, q = (j : Int) := ⟨q.toNat, by omega⟩
    have hl := h.len
    have := sw0_go Q (L ++ [(j : Int)]) _ (h.step (q := j) (by omega) h1) (fun i hi => hq i (by simp [hi]))
    simpa using this
theorem swm_go {first : List Int} {ms : List Mt} {wt : Int × Int} {n : Int} (ho : ∀ x ∈ ms, okMt n x) (hw : 1 ≤ wt.1) (hw2 : 1 ≤ wt.2) : ∀ (Q P : List Mt) (ss : List (Int × Int)), Swp first ms wt n P ss → (∀ x ∈ Q, x ∈ ms) → (P ++ Q).Pairwise (fun x y => x.day ≤ y.day) → Swp first ms wt n (P ++ Q) (swm wt Q ss)
  | [], P, ss, h, _, _ => by simpa [swm] using h
  | q :: Q, P, ss, h, hq, hp => by
    have hm := hq q (by simp)
    obtain ⟨o1, o2, o3, o4, -⟩ := id (ho q hm)
    have hd : ∀ y ∈ P, y.day ≤ q.day := fun y hy => (List.pairwise_append.1 hp).2.2 y hy q (by simp)
    have h1 := h.step hm (ho q hm) hd hw hw2 (i := q.a.toNat) (j := q.b.toNat) (by omega) (by omega)
    have := swm_go ho hw hw2 Q (P ++ [q]) _ h1 (fun x hx => hq x (by simp [hx])) (by simpa using hp)
    simpa [swm] using this
theorem mangL_knw {n : Nat} {first : List Int} {ms : List Mt} {wt : Int × Int} {d : Int} (hx : chkG (n : Int) first ms wt d = 0) (hp : ms.Pairwise (fun x y => x.day ≤ y.day)) : (mangL n first ms wt d).length = n ∧ ∀ i, i < n → Knw first ms wt d (i : Int) ((mangL n first ms wt d).getD i 0) := by
  obtain ⟨⟨n1, n2⟩, ⟨w1, w2, w3⟩, ⟨d1, d2⟩, ⟨l1, l2⟩, hF, hM⟩ := chkG_fine hx
  have h0 : Sw0 first first (n : Int) (sw0 first n) := by
    have := sw0_go (first := first) (n := (n : Int)) first [] _ Sw0.start (fun i hi => ⟨hi, hF i hi⟩)
    simpa [sw0] using this
  have h1 := swm_go hM w1 (by omega) ms [] _ h0.swp (fun _ h => h) (by simpa using hp)
  rw [List.nil_append] at h1
  refine ⟨by simp [mangL], fun i hi => ?_⟩
  have := h1.known (d := d) hF hM (fun x hx => .inl hx) w1 w2 d2 (k := i) (by omega)
  rw [show (mangL n first ms wt d).getD i 0 = _ by simp only [mangL, List.getD]; rw [List.getElem?_map, List.getElem?_range hi]]
  exact this
theorem bsO_sorted {n : Nat} {first : List Int} {ms : List Mt} {wt : Int × Int} {d : Int} (hx : chkG (n : Int) first ms wt d = 0) (hp : ms.Pairwise (fun x y => x.day ≤ y.day)) : bsO (n : Int) first ms wt d = strOfNums (mangL n first ms wt d) :=
  bsO_ok hx (mangL_knw hx hp).1 (mangL_knw hx hp).2

/-- The meetings of the chapter's examples. -/
def herdM : List Mt := [⟨0, 1, 5, false⟩, ⟨1, 2, 9, true⟩]
theorem herdM_by : herdM.Pairwise (fun x y => x.day ≤ y.day) := by simp [herdM]
theorem bs_8 : bsO 3 [0] herdM (3, 5) 8 = ⟨#[2, 1, 0]⟩ := (bsO_sorted (n := 3) (by decide) herdM_by).trans (by decide)
theorem bs_7 : bsO 3 [0] herdM (3, 5) 7 = ⟨#[2, 0, 0]⟩ := (bsO_sorted (n := 3) (by decide) herdM_by).trans (by decide)
theorem bs_12 : bsO 3 [0] herdM (3, 5) 12 = ⟨#[2, 1, 1]⟩ := (bsO_sorted (n := 3) (by decide) herdM_by).trans (by decide)
end Go.Proofs.Ytafdcbdbllpcnaa
