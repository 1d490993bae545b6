/- Contract of the reference's Meets. -/
import Derived.Test.YtafdcbdbllpcnaaRefA
import Derived.Test.YtafdcbdbllpcnaaLate
import Derived.Test.YtafdcbdbllpcnaaRefS
set_option linter.unusedVariables false
set_option linter.unusedSimpArgs false
namespace Go.Proofs.Ytafdcbdbllpcnaa
open Go.RowKit
open Go.Proofs

theorem spanned1_any (hi : Int) (s : Int × Int) (x : Bool) (hx : (inB 1 s.2 s.1 && decide (s.2 ≤ hi)) = x) (w : World) :
    Calls Try.prog 81 #[.agg #[.int .i64 s.1, .int .i64 s.2], .int .i64 1, .int .i64 hi] w fun e w' => e = .returned (.bool x) ∧ Below w.heap.size w w' := by
  have HX := Lib.hid hx
  clear hx
  go_enter Try.func81, Try.ntmps81
  go_wp2_with (go_at_call 82; refine (rwithin_any _ _ _ _).mono ?_; rintro e w' ⟨rfl, rfl⟩)
  all_goals go_returns
  · rename_i h
    exact ⟨ret_bool (by rw [← HX.out, h]; simp), by go_grown⟩
  · rename_i h
    exact ⟨ret_bool (by rw [← HX.out]; simp only [Bool.not_eq_true] at h; rw [h]; simp), by go_grown⟩

set_option maxRecDepth 100000 in
set_option maxHeartbeats 4000000 in
theorem rMeets_lists (n day : Int) (wt : Int × Int) (fa : Option Addr) (fcap nf : Nat) (first : List Int) (ma : Option Addr) (mcap nm : Nat) (ms : List Mt) (x : Int) (w : World) (hnf : nf = first.length) (hnm : nm = ms.length) (hf : IntsIn w fa fcap first) (hm : MeetsIn w ma mcap ms)
    (ha : okA n wt day = true) (h1 : nf ≤ 30) (h2 : nm ≤ 200) (hx : chkG n first ms wt day = x) :
    Calls Try.prog 54 #[.int .i64 n, .slice fa nf fcap, .slice ma nm mcap, .agg #[.int .i64 wt.1, .int .i64 wt.2], .int .i64 day] w fun e w' => e = .returned (.int .i64 x) ∧ Below w.heap.size w w' := by
  have HF := Lib.hid hf
  have HM := Lib.hid hm
  have HNF := Lib.hid hnf
  have HNM := Lib.hid hnm
  have hx' : (if first.all (inR n) = true then (if ms.all (okX n) = true then (0 : Int) else 14) else 14) = x := by rw [← hx]; unfold chkG; rw [if_pos ha, if_pos (show first.length ≤ 30 ∧ ms.length ≤ 200 from ⟨by omega, by omega⟩)]
  have HX := Lib.hid hx'
  simp only [okA, okSpan, Bool.and_eq_true, decide_eq_true_eq] at ha
  obtain ⟨⟨⟨⟨⟨a1, a2⟩, a3⟩, ⟨-, a4⟩, a4'⟩, a5⟩, a6⟩ := ha
  have b1 : inB 1 30 n = true := by simp [inB, a1, a2]
  have b2 : inB 0 100000 day = true := by simp [inB, a5, a6]
  have H4 := Lib.hid (show (inB 1 wt.2 wt.1 && decide (wt.2 ≤ 60)) = true by simp [inB, a3, a4, a4'])
  have h1' : (nf : Int) ≤ 30 := by omega
  have h2' : (nm : Int) ≤ 200 := by omega
  clear hf hm hnf hnm hx hx' a4 a4' a3 a5 a6
  go_enter Try.func54, Try.ntmps54
  go_wp2_with (first | (go_at_call 82; refine (rwithin_any _ _ _ _).mono ?_; rintro e w' ⟨rfl, rfl⟩) | fail)
  refine (spanned1_any 60 wt true H4.out _).mono ?_
  rintro e W1 ⟨rfl, hB⟩
  have hW1 : Below w.heap.size w W1 := Below.trans (by go_grown) (hB.mono (by simp))
  clear hB
  go_wp2_with (first | (go_at_call 82; refine (rwithin_any _ _ _ _).mono ?_; rintro e w' ⟨rfl, rfl⟩) | fail)
  go_loopw [11] (fun i wr => ∃ k : Nat, k ≤ nf ∧ i = .int .i64 (k : Int) ∧ Hid ((first.take k).all (inR n) = true) ∧ Below w.heap.size w wr) (fun i _ => nf - (intOf i).toNat)
  case atStart => exact ⟨0, Nat.zero_le _, rfl, by simp [Hid], hW1⟩
  case round =>
    obtain ⟨k, hk, rfl, hall, hB0⟩ := hrel
    by_cases hlt : k < nf
    · have hkf : k < first.length := by have := HNF.out; omega
      obtain ⟨g, off, rfl, c0, hg⟩ := (HF.out.below hB0 (Nat.le_refl _)).get hkf
      generalize hv : first.getD k 0 = v at c0
      have HV := Lib.hid hv
      have hlt' : (k : Int) < (nf : Int) := by omega
      clear hv
      cases hin : inB 0 (n - 1) v with
      | true =>
        go_wp2_with (first | (go_at_call 82; refine (rwithin_any _ _ _ _).mono ?_; rintro e w' ⟨rfl, rfl⟩) | fail)
        simp only [inB, Bool.and_eq_true, decide_eq_true_eq] at hin
        exact ⟨⟨k + 1, hlt, by go_num, allI_step hkf hall.out 0 (by rw [HV.out]; simp [inR]; omega), hB0⟩, by simp [intOf]; omega⟩
      | false =>
        go_wp2_with (first | (go_at_call 82; refine (rwithin_any _ _ _ _).mono ?_; rintro e w' ⟨rfl, rfl⟩) | fail)
        have hno := allI_no hkf 0 (p := inR n) (by rw [HV.out, ← Bool.not_eq_true]; rw [← Bool.not_eq_true] at hin; simp only [inB, inR, Bool.and_eq_true, decide_eq_true_eq] at hin ⊢; omega)
        have hx2 := HX.out.symm.trans (if_neg hno)
        go_returns
        exact ⟨ret_int hx2.symm, hB0⟩
    · obtain rfl : k = nf := by omega
      have hall1 : first.all (inR n) = true := by have := hall.out; rwa [HNF.out, List.take_length] at this
      have HX2 := Lib.hid (HX.out.symm.trans (if_pos hall1))
      clear hall hall1 HX
      go_wp2
      go_loopw [12] (fun i wr => ∃ j : Nat, j ≤ nm ∧ i = .int .i64 (j : Int) ∧ Hid ((ms.take j).all (okX n) = true) ∧ Below w.heap.size w wr) (fun i _ => nm - (intOf i).toNat)
      case atStart => exact ⟨0, Nat.zero_le _, rfl, by simp [Hid], hB0⟩
      case round =>
        obtain ⟨j, hj, rfl, hall, hB2⟩ := hrel
        by_cases hlt2 : j < nm
        · have hkm : j < ms.length := by have := HNM.out; omega
          obtain ⟨g, off, rfl, ⟨c0, c1, c2, c3⟩, hg⟩ := (HM.out.below hB2 (Nat.le_refl _)).get hkm
          generalize hv : mtS ms j = v at c0 c1 c2 c3
          have HV := Lib.hid hv
          have hlt' : (j : Int) < (nm : Int) := by omega
          have hg2 := hB2.size
          have HNO := Lib.hid (fun (h : okX n v = false) => HX2.out.trans (if_neg (allI_no hkm mt0 (p := okX n) (by show okX n (mtS ms j) = false; rw [HV.out]; exact h))))
          have HOK := Lib.hid (show okX n v = (inB 0 (n - 1) v.a && (inB 0 (n - 1) v.b && (!(v.a == v.b) && inB 0 100000 v.day))) by
            rw [Bool.eq_iff_iff]
            simp only [okX, inR, inB, Bool.and_eq_true, decide_eq_true_eq, Bool.not_eq_true', beq_eq_false_iff_ne]
            omega)
          clear hv
          cases e1 : inB 0 (n - 1) v.a with
          | false =>
            have hx3 := Lib.hid (HNO.out (by rw [HOK.out, e1]; rfl))
            go_wp2_with (first | (go_at_call 82; refine (rwithin_any _ _ _ _).mono ?_; rintro e w' ⟨rfl, rfl⟩) | fail)
            go_returns
            exact ⟨ret_int hx3.out.symm, hB2.alloc hg2 _⟩
          | true =>
            cases e2 : inB 0 (n - 1) v.b with
            | false =>
              have hx3 := Lib.hid (HNO.out (by rw [HOK.out, e1, e2]; rfl))
              go_wp2_with (first | (go_at_call 82; refine (rwithin_any _ _ _ _).mono ?_; rintro e w' ⟨rfl, rfl⟩) | fail)
              go_returns
              exact ⟨ret_int hx3.out.symm, hB2.alloc hg2 _⟩
            | true =>
              cases e3 : v.a == v.b with
              | true =>
                have hx3 := Lib.hid (HNO.out (by rw [HOK.out, e1, e2, e3]; rfl))
                go_wp2_with (first | (go_at_call 82; refine (rwithin_any _ _ _ _).mono ?_; rintro e w' ⟨rfl, rfl⟩) | fail)
                go_returns
                exact ⟨ret_int hx3.out.symm, hB2.alloc hg2 _⟩
              | false =>
                cases e4 : inB 0 100000 v.day with
                | false =>
                  have hx3 := Lib.hid (HNO.out (by rw [HOK.out, e1, e2, e3, e4]; rfl))
                  go_wp2_with (first | (go_at_call 82; refine (rwithin_any _ _ _ _).mono ?_; rintro e w' ⟨rfl, rfl⟩) | fail)
                  go_returns
                  exact ⟨ret_int hx3.out.symm, hB2.alloc hg2 _⟩
                | true =>
                  have hyes := Lib.hid (show okX n v = true by rw [HOK.out, e1, e2, e3, e4]; rfl)
                  go_wp2_with (first | (go_at_call 82; refine (rwithin_any _ _ _ _).mono ?_; rintro e w' ⟨rfl, rfl⟩) | fail)
                  exact ⟨⟨j + 1, hlt2, by go_num, allI_step hkm hall.out mt0 (by show okX n (mtS ms j) = true; rw [HV.out]; exact hyes.out), hB2.alloc hg2 _⟩, by simp [intOf]; omega⟩
        · obtain rfl : j = nm := by omega
          have hall1 : ms.all (okX n) = true := by have := hall.out; rwa [HNM.out, List.take_length] at this
          have HX3 := Lib.hid (HX2.out.trans (if_pos hall1))
          clear hall hall1 HX2
          go_wp2
          go_returns
          exact ⟨ret_int HX3.out.symm, hB2⟩
end Go.Proofs.Ytafdcbdbllpcnaa
/- The law for drawn regions of which every operation is shown: none need wait for all others. Over every program. -/
namespace Go.Proofs.Ytafdcbdbllpcnaa
open Go.RowKit

/-- As Region.shaped; all operations may be shown. -/
def Region.shapedZ (ops : Array Oper) (ds : List (Option Tmp)) (size : Nat) : Bool :=
  decide (ds.length = ops.size) &&
  (List.range ds.length).all (fun i => (List.range ds.length).all fun j => i == j || ds[i]? != ds[j]? || ds[i]? == some none) &&
  (List.range ds.length).all (fun j => ((ops[j]?).map fun o => some o.dst == ds[j]?).getD false) &&
  (List.range ds.length).all (fun j => ((ds[j]?).map fun d => (d.map fun t => decide (t < size)).getD true).getD false) &&
  (List.range ops.size).all (fun k => ((ops[k]?).map fun o => o.after.all fun e => !Region.binds .any e || decide (e.on < k)).getD false) &&
  (List.range ds.length).all (fun k => ((ops[k]?).map fun o => (o.guard.map fun g => waitsFor ops k g.1 && decide (g.1 < ds.length) && ((ds[g.1]?).map fun d => d.isSome).getD false).getD true).getD false)

section
variable {P : Program} {ops : Array Oper} {Q : Exit → Act → World → Prop}

structure GoodZ (X : World → World → Prop) (wt : Nat → Tmp) (ds : List (Option Tmp)) (R : Nat → Value → World → Prop) (a0 : Act) (w0 : World) (listed : Array Bool) (a : Act) (w : World) (n : Nat) : Prop where
  size : listed.size = n
  last : ∀ k, ds.length ≤ k → k < n → listed.getD k true = false
  ext : X w0 w
  defers : a.defers = a0.defers
  tsize : a.tmps.size = a0.tmps.size
  rest : ∀ t, (∀ j, listed.getD j false = true → ds[j]? ≠ some (some t)) → a.tmps[t]? = a0.tmps[t]?
  watch : ∀ j i, listed.getD j false = true → ds[j]? = some none → ds[i]? = some (some (wt j)) → listed.getD i false = true
  done : ∀ j d, ds[j]? = some d → listed.getD j false = true → ∃ W, X W w ∧ R j (valY wt a j d) W

theorem wpAny_drawz (X : World → World → Prop) (wt : Nat → Tmp) (xr : ∀ W, X W W) (xt : ∀ a b c, X a b → X b c → X a c) (ds : List (Option Tmp)) (R : Nat → Value → World → Prop) (a0 : Act) (w0 : World) (hs : Region.shapedZ ops ds a0.tmps.size = true) (hwt : ∀ j i : Nat, ds[j]? = some none → ds[i]? = some (some (wt j)) → waitsFor ops j i = true)
    (step : ∀ (k : Nat) (o : Oper) (d : Option Tmp) (b : Act) (W : World), ops[k]? = some o → ds[k]? = some d → X w0 W → (∀ t, some t ∉ ds → b.tmps[t]?.getD undef = a0.tmps[t]?.getD undef) →
      (∀ j dj, waitsFor ops k j = true → ds[j]? = some dj → ∃ Wj, X Wj W ∧ R j (valY wt b j dj) Wj) →
      (∀ g, o.guard = some g → ∀ v W, R g.1 v W → v = .bool g.2) ∧
      ∀ K : Act → World → Prop, (∀ v W', d ≠ none → X W W' → R k v W' → K (b.put d v) W') → (d = none → ∀ W', X W W' → R k (b.tmps[wt k]?.getD undef) W' → K b W') → o.wp P b W K Q)
    (last : ∀ (f : Tmp → Value) (W : World), X w0 W → (∀ j d, ds[j]? = some d → ∃ Wj, X Wj W ∧ R j (valYF wt f j d) Wj) →
      Q .normal (puts f (ds.filterMap id) a0) W) :
    ∀ (fuel : Nat) (listed : Array Bool) (a : Act) (w : World), GoodZ X wt ds R a0 w0 listed a w ops.size → left ops.size listed ≤ fuel → wpAny P .any ops Q fuel listed a w := by
  simp only [Region.shapedZ, Bool.and_eq_true, decide_eq_true_eq, List.all_eq_true, List.mem_range] at hs
  obtain ⟨⟨⟨⟨⟨hm, hnd⟩, hdst⟩, hin⟩, hback⟩, hgd⟩ := hs
  have hback' : ∀ (k : Nat) (o : Oper), ops[k]? = some o → ∀ e ∈ o.after, Region.binds .any e = true → Edge.on e < k := by
    intro k o ho e he hbd
    have h1 := hback k (Array.getElem?_eq_some_iff.1 ho).1
    rw [ho] at h1
    simp only [Option.map_some, Option.getD_some, Array.all_eq_true_iff_forall_mem, Bool.or_eq_true, Bool.not_eq_true', decide_eq_true_eq] at h1
    exact (h1 e he).resolve_left (by rw [hbd]; simp)
  have hdin : ∀ (j : Nat) (d : Tmp), ds[j]? = some (some d) → d < a0.tmps.size := by
    intro j d hj
    have h1 := hin j (List.getElem?_eq_some_iff.1 hj).1
    rw [hj] at h1
    simpa using h1
  have hnd' : ∀ (i j : Nat) (d : Tmp), ds[i]? = some (some d) → ds[j]? = some (some d) → i = j := by
    intro i j d hi hj
    have h1 := hnd i (List.getElem?_eq_some_iff.1 hi).1 j (List.getElem?_eq_some_iff.1 hj).1
    rw [hi, hj] at h1
    simpa using h1
  have hend : ∀ (fuel : Nat) (listed : Array Bool) (a : Act) (w : World), GoodZ X wt ds R a0 w0 listed a w ops.size → (∀ i, i < ops.size → listed.getD i true = true) → wpAny P .any ops Q fuel listed a w := by
    intro fuel listed a w hg hall
    have ha : puts (fun t => a.tmps[t]?.getD undef) (ds.filterMap id) a0 = a := by
      obtain ⟨p1, p2, p3⟩ := puts_spec (fun t => a.tmps[t]?.getD undef) (ds.filterMap id) a0
      have e1 : (puts (fun t => a.tmps[t]?.getD undef) (ds.filterMap id) a0).tmps = a.tmps := by
        apply Array.ext_getElem?
        intro t
        by_cases ht : t < a0.tmps.size
        · rw [p3 t ht]
          by_cases hmm : t ∈ ds.filterMap id
          · rw [if_pos hmm, Array.getElem?_eq_getElem (by rw [hg.tsize]; exact ht)]
            simp
          · rw [if_neg hmm]
            exact (hg.rest t fun j _ e => hmm (List.mem_filterMap.2 ⟨some t, List.mem_of_getElem? e, rfl⟩)).symm
        · rw [Array.getElem?_eq_none (by omega), Array.getElem?_eq_none (by rw [hg.tsize]; omega)]
      have e2 : (puts (fun t => a.tmps[t]?.getD undef) (ds.filterMap id) a0).defers = a.defers := by rw [p1, hg.defers]
      cases hp : puts (fun t => a.tmps[t]?.getD undef) (ds.filterMap id) a0 with
      | mk x y =>
        cases a with
        | mk x' y' =>
          rw [hp] at e1 e2
          simp only at e1 e2
          rw [e1, e2]
    have hl' := last (fun t => a.tmps[t]?.getD undef) w hg.ext (fun j d hd => by
      have hj : j < ops.size := by have := (List.getElem?_eq_some_iff.1 hd).1; omega
      obtain ⟨Wj, h1, h2⟩ := hg.done j d hd (by rw [← getD_false_of (by have := hg.size; omega) true]; exact hall j hj)
      exact ⟨Wj, h1, by cases d <;> exact h2⟩)
    rw [ha] at hl'
    exact wpAny_end hg.size hall fuel hl'
  intro fuel
  induction fuel with
  | zero =>
    intro listed a w hg hl
    refine hend _ _ _ _ hg fun i hi => ?_
    cases hii : listed.getD i true with
    | true => rfl
    | false =>
      have := left_set (listed := listed) hi hg.size hii
      omega
  | succ fuel ih =>
    intro listed a w hg hl
    by_cases hall : ∀ i, i < ops.size → listed.getD i true = true
    · exact hend _ _ _ _ hg hall
    obtain ⟨i0, hi0, hf0⟩ : ∃ i, i < ops.size ∧ listed.getD i true = false := by
      refine Classical.byContradiction fun hc => hall fun i hi => ?_
      cases hii : listed.getD i true with
      | true => rfl
      | false => exact absurd ⟨i, hi, hii⟩ hc
    refine ⟨fun hr => ?_, fun i hi => ?_⟩
    · exfalso
      have hex : ∃ i, i < ops.size ∧ listed.getD i true = false ∧ ∀ j, j < i → listed.getD j true = true := by
        have : ∀ n, (∃ i, i < n ∧ listed.getD i true = false) → ∃ i, i < n ∧ listed.getD i true = false ∧ ∀ j, j < i → listed.getD j true = true := by
          intro n
          induction n with
          | zero => rintro ⟨i, hi, _⟩; omega
          | succ n ihn =>
            rintro ⟨i, hi, hf⟩
            by_cases hx : ∃ i, i < n ∧ listed.getD i true = false
            · obtain ⟨i, h1, h2⟩ := ihn hx
              exact ⟨i, by omega, h2⟩
            · have hin : i = n := by
                rcases Nat.lt_or_ge i n with h | h
                · exact absurd ⟨i, h, hf⟩ hx
                · omega
              subst hin
              refine ⟨i, hi, hf, fun j hj => ?_⟩
              cases hjj : listed.getD j true with
              | true => rfl
              | false => exact absurd ⟨j, hj, hjj⟩ hx
        exact this _ ⟨i0, hi0, hf0⟩
      obtain ⟨i, hi, hf, hb⟩ := hex
      have : i ∈ Region.ready .any ops listed := by
        rw [mem_ready]
        refine ⟨hf, ops[i], Array.getElem?_eq_getElem hi, fun e he hbd => ?_⟩
        have h2 := hback' i _ (Array.getElem?_eq_getElem hi) e he hbd
        rw [← getD_false_of (by have := hg.size; omega) true]
        exact hb _ h2
      rw [hr] at this
      simp at this
    · have hi' := hi
      rw [mem_ready] at hi
      obtain ⟨hf, o, ho, hed⟩ := hi
      have hlt : i < ops.size := (Array.getElem?_eq_some_iff.1 ho).1
      have hcnt := left_set hlt hg.size hf
      have hsz' : (listed.setIfInBounds i true).size = ops.size := by simp [hg.size]
      have hdone : ∀ j, waitsFor ops i j = true → listed.getD j false = true := by
        intro j hj
        simp only [waitsFor, ho, Option.map_some, Option.getD_some, List.any_eq_true, Bool.and_eq_true, beq_iff_eq] at hj
        obtain ⟨e, he, h1, h2⟩ := hj
        rw [← h1]
        exact hed e (by simpa using he) h2
      rcases Nat.lt_or_ge i ds.length with hil | hil
      · obtain ⟨d, hdd⟩ : ∃ d, ds[i]? = some d := ⟨ds[i], List.getElem?_eq_getElem hil⟩
        have hd : o.dst = d := by
          have h1 := hdst i hil
          rw [ho, hdd] at h1
          simpa using h1
        have hst := step i o d a w ho hdd hg.ext (fun t ht => by rw [hg.rest t (fun j _ e => ht (List.mem_of_getElem? e))]) (fun j dj hj hdj => hg.done j dj hdj (hdone j hj))
        have hw : Region.wanted o (yielded ops a.tmps) = true := by
          cases hgo : o.guard with
          | none => simp [Region.wanted, hgo]
          | some g =>
            have h1 := hgd i hil
            rw [ho] at h1
            simp only [Option.map_some, Option.getD_some, hgo, Bool.and_eq_true, decide_eq_true_eq] at h1
            obtain ⟨⟨h2, h3⟩, h4⟩ := h1
            obtain ⟨dg, hdg⟩ : ∃ dg, ds[g.1]? = some dg := ⟨ds[g.1], List.getElem?_eq_getElem h3⟩
            rw [hdg] at h4
            cases dg with
            | none => simp at h4
            | some t =>
              obtain ⟨Wg, _, hR⟩ := hg.done g.1 _ hdg (hdone _ h2)
              have hv := hst.1 g hgo _ _ hR
              simp only [valY] at hv
              have htl : t < a.tmps.size := by rw [hg.tsize]; exact hdin _ _ hdg
              have hog : ((ops[g.1]?).bind (·.dst)) = some t := by
                have h5 := hdst g.1 h3
                rw [hdg] at h5
                cases hop : ops[g.1]? with
                | none => simp [hop] at h5
                | some og => simp only [hop, Option.map_some, Option.getD_some, beq_iff_eq, Option.some.injEq] at h5; simp [h5]
              obtain ⟨gj, gw⟩ := g
              rw [Array.getElem?_eq_getElem htl, Option.getD_some] at hv
              simp only at hog hv
              simp only [Region.wanted, hgo, yielded, hog, Option.bind_some, Array.getElem?_eq_getElem htl, hv]
              simp
        have hwatch : ∀ j i', (listed.setIfInBounds i true).getD j false = true → ds[j]? = some none → ds[i']? = some (some (wt j)) → (listed.setIfInBounds i true).getD i' false = true := by
          intro j i' h1 h2 h3
          have h4 : listed.getD i' false = true := by
            by_cases hij : i = j
            · subst hij; exact hdone _ (hwt _ _ h2 h3)
            · rw [getD_set_ne false hij] at h1
              exact hg.watch j i' h1 h2 h3
          by_cases hii : i = i'
          · subst hii; simp [show i < listed.size by have := hg.size; omega]
          · rw [getD_set_ne false hii]; exact h4
        have hkeep : ∀ (v : Value) (j : Nat) (dj : Option Tmp), i ≠ j → ds[j]? = some dj → listed.getD j false = true → valY wt (a.put d v) j dj = valY wt a j dj := by
          intro v j dj hij hdj hj
          cases d with
          | none => rfl
          | some d =>
            cases dj with
            | some dj =>
              have hne : d ≠ dj := fun e => hij (hnd' i j d hdd (by rw [hdj, e]))
              simp [valY, Act.put, Array.getElem?_setIfInBounds_ne hne]
            | none =>
              have hne : d ≠ wt j := by
                intro e
                subst e
                have h1 := hg.watch j i hj hdj hdd
                rw [getD_false_of (by have := hg.size; omega) true] at hf
                rw [hf] at h1
                simp at h1
              simp [valY, Act.put, Array.getElem?_setIfInBounds_ne hne]
        simp only [wpOp, ho, hw, if_true]
        refine .inl (hst.2 _ (fun v W' hdn hE hR => ?_) (fun hdn W' hE hR => ?_))
        · refine ih _ _ _ ⟨hsz', fun k hk hk2 => ?_, xt _ _ _ hg.ext hE, ?_, ?_, fun t ht => ?_, hwatch, fun j dj hdj hj => ?_⟩ (by omega)
          · rw [getD_set_ne true (by omega)]; exact hg.last k hk hk2
          · cases d <;> exact hg.defers
          · cases d <;> simp [Act.put, hg.tsize]
          · have h2 : (a.put d v).tmps[t]? = a.tmps[t]? := by
              cases d with
              | none => rfl
              | some d =>
                have htd : t ≠ d := fun e => by
                  refine ht i ?_ (by rw [e]; exact hdd)
                  simp [show i < listed.size by have := hg.size; omega]
                simp [Act.put, Array.getElem?_setIfInBounds_ne (Ne.symm htd)]
            rw [h2]
            refine hg.rest t fun j hj => ht j ?_
            by_cases hij : i = j
            · subst hij; simp [show i < listed.size by have := hg.size; omega]
            · rw [getD_set_ne false hij]; exact hj
          · by_cases hij : i = j
            · subst hij
              obtain rfl : d = dj := Option.some.inj (hdd.symm.trans hdj)
              cases d with
              | none => exact absurd rfl hdn
              | some d =>
                refine ⟨W', xr _, ?_⟩
                have hdl : d < a.tmps.size := by rw [hg.tsize]; exact hdin _ _ hdd
                have : valY wt (a.put (some d) v) i (some d) = v := by simp [valY, Act.put, hdl]
                rw [this]; exact hR
            · rw [getD_set_ne false hij] at hj
              obtain ⟨Wj, h3, h4⟩ := hg.done j dj hdj hj
              refine ⟨Wj, xt _ _ _ h3 hE, ?_⟩
              rw [hkeep v j dj hij hdj hj]; exact h4
        · subst hdn
          refine ih _ _ _ ⟨hsz', fun k hk hk2 => ?_, xt _ _ _ hg.ext hE, hg.defers, hg.tsize, fun t ht => ?_, hwatch, fun j dj hdj hj => ?_⟩ (by omega)
          · rw [getD_set_ne true (by omega)]; exact hg.last k hk hk2
          · refine hg.rest t fun j hj => ht j ?_
            by_cases hij : i = j
            · subst hij; simp [show i < listed.size by have := hg.size; omega]
            · rw [getD_set_ne false hij]; exact hj
          · by_cases hij : i = j
            · subst hij
              obtain rfl : none = dj := Option.some.inj (hdd.symm.trans hdj)
              exact ⟨W', xr _, hR⟩
            · rw [getD_set_ne false hij] at hj
              obtain ⟨Wj, h3, h4⟩ := hg.done j dj hdj hj
              exact ⟨Wj, xt _ _ _ h3 hE, h4⟩
      · omega
/-- An obligation an operation, in the text's order; then the last operations. -/
def stepsZ (P : Program) (ops : Array Oper) (Q : Exit → Act → World → Prop) (X : World → World → Prop) (wt : Nat → Tmp) (ds0 : List (Option Tmp)) (a0 : Act) (w1 : World) (R : Nat → Value → World → Prop) : Nat → List Oper → List (Option Tmp) → Prop
  | k, o :: os, some d :: ds => ((∀ g, o.guard = some g → ∀ v W, R g.1 v W → v = .bool g.2) ∧ ∀ (b : Act) (W : World), X w1 W → (∀ t, some t ∉ ds0 → b.tmps[t]?.getD undef = a0.tmps[t]?.getD undef) →
      (∀ j dj, waitsFor ops k j = true → ds0[j]? = some dj → ∃ Wj, X Wj W ∧ R j (valY wt b j dj) Wj) →
      ∀ K : Act → World → Prop, (∀ v W', X W W' → R k v W' → K (b.put (some d) v) W') → o.wp P b W K Q) ∧ stepsZ P ops Q X wt ds0 a0 w1 R (k + 1) os ds
  | k, o :: os, none :: ds => ((∀ g, o.guard = some g → ∀ v W, R g.1 v W → v = .bool g.2) ∧ ∀ (b : Act) (W : World), X w1 W → (∀ t, some t ∉ ds0 → b.tmps[t]?.getD undef = a0.tmps[t]?.getD undef) →
      (∀ j dj, waitsFor ops k j = true → ds0[j]? = some dj → ∃ Wj, X Wj W ∧ R j (valY wt b j dj) Wj) →
      ∀ K : Act → World → Prop, (∀ W', X W W' → R k (b.tmps[wt k]?.getD undef) W' → K b W') → o.wp P b W K Q) ∧ stepsZ P ops Q X wt ds0 a0 w1 R (k + 1) os ds
  | _, _, [] => ∀ (f : Tmp → Value) (W : World), X w1 W → (∀ j d, ds0[j]? = some d → ∃ Wj, X Wj W ∧ R j (valYF wt f j d) Wj) → Q .normal (puts f (ds0.filterMap id) a0) W
  | _, [], _ :: _ => True

theorem stepsZ_get {X : World → World → Prop} {wt : Nat → Tmp} {ds0 : List (Option Tmp)} {a0 : Act} {w1 : World} {R : Nat → Value → World → Prop} : ∀ (os : List Oper) (ds : List (Option Tmp)) (k i : Nat), stepsZ P ops Q X wt ds0 a0 w1 R k os ds → ∀ (o : Oper) (d : Option Tmp), os[i]? = some o → ds[i]? = some d →
    (∀ g, o.guard = some g → ∀ v W, R g.1 v W → v = .bool g.2) ∧ (∀ (b : Act) (W : World), X w1 W → (∀ t, some t ∉ ds0 → b.tmps[t]?.getD undef = a0.tmps[t]?.getD undef) →
      (∀ j dj, waitsFor ops (k + i) j = true → ds0[j]? = some dj → ∃ Wj, X Wj W ∧ R j (valY wt b j dj) Wj) →
      ∀ K : Act → World → Prop, (∀ v W', d ≠ none → X W W' → R (k + i) v W' → K (b.put d v) W') → (d = none → ∀ W', X W W' → R (k + i) (b.tmps[wt (k + i)]?.getD undef) W' → K b W') → o.wp P b W K Q)
  | [], _, _, _, _, _, _, h, _ => by simp at h
  | _ :: _, [], _, _, _, _, _, _, h => by simp at h
  | o' :: os, some d' :: ds, k, 0, h, o, d, ho, hd => by
    simp at ho hd; subst ho; subst hd
    exact ⟨h.1.1, fun b W h1 h2 h3 K hK _ => h.1.2 b W h1 h2 h3 K (fun v W' e r => hK v W' (by simp) e r)⟩
  | o' :: os, none :: ds, k, 0, h, o, d, ho, hd => by
    simp at ho hd; subst ho; subst hd
    exact ⟨h.1.1, fun b W h1 h2 h3 K _ hK => h.1.2 b W h1 h2 h3 K (fun W' e r => hK rfl W' e r)⟩
  | o' :: os, some d' :: ds, k, i + 1, h, o, d, ho, hd => by
    have := stepsZ_get os ds (k + 1) i h.2 o d (by simpa using ho) (by simpa using hd)
    rw [show k + 1 + i = k + (i + 1) by omega] at this
    exact this
  | o' :: os, none :: ds, k, i + 1, h, o, d, ho, hd => by
    have := stepsZ_get os ds (k + 1) i h.2 o d (by simpa using ho) (by simpa using hd)
    rw [show k + 1 + i = k + (i + 1) by omega] at this
    exact this

theorem stepsZ_last {X : World → World → Prop} {wt : Nat → Tmp} {ds0 : List (Option Tmp)} {a0 : Act} {w1 : World} {R : Nat → Value → World → Prop} : ∀ (os : List Oper) (ds : List (Option Tmp)) (k : Nat), stepsZ P ops Q X wt ds0 a0 w1 R k os ds → ds.length = os.length →
    ∀ (f : Tmp → Value) (W : World), X w1 W → (∀ j d, ds0[j]? = some d → ∃ Wj, X Wj W ∧ R j (valYF wt f j d) Wj) → Q .normal (puts f (ds0.filterMap id) a0) W
  | [], [], _, h, _ => h
  | [], _ :: _, _, _, hl => by simp at hl
  | _ :: _, [], _, _, hl => by simp at hl
  | _ :: os, some _ :: ds, k, h, hl => stepsZ_last os ds (k + 1) h.2 (by simpa using hl)
  | _ :: os, none :: ds, k, h, hl => stepsZ_last os ds (k + 1) h.2 (by simpa using hl)

/-- THE LAW, WIDER. -/
theorem wp_drawz {id : Nat} {a0 : Act} {w0 : World} {os : List Oper} (hm : P.follows .mixedOrders = true) (X : World → World → Prop) (wt : Nat → Tmp) (xr : ∀ W, X W W) (xt : ∀ a b c, X a b → X b c → X a c) (ds : List (Option Tmp)) (hs : Region.shapedZ os.toArray ds a0.tmps.size = true)
    (hwt : (List.range ds.length).all (fun j => (List.range ds.length).all fun i => ds[j]? != some none || ds[i]? != some (some (wt j)) || waitsFor os.toArray j i) = true) (R : Nat → Value → World → Prop)
    (step : stepsZ P os.toArray Q X wt ds a0 w0.drew R 0 os ds) : (Code.region id os.toArray true).wp P Q a0 w0 := by
  have hlt : ds.length = os.length := by
    simp only [Region.shapedZ, Bool.and_eq_true, decide_eq_true_eq] at hs
    simpa using hs.1.1.1.1.1
  refine wp_region_any hm (wpAny_drawz X wt xr xt ds R a0 w0.drew hs (fun j i h1 h2 => ?_) (fun k o d b W ho hd hE hb hdep => ?_) (fun f W hE hR => ?_) _ _ _ _ ⟨by simp, fun k _ hk => by simp at hk; simp [Array.getElem?_replicate, hk], xr _, rfl, rfl, fun _ _ => rfl, fun j i hj _ _ => ?_, fun j d hd hj => ?_⟩ ?_)
  · simp only [List.all_eq_true, List.mem_range, Bool.or_eq_true, bne_iff_ne, ne_eq] at hwt
    have h3 := hwt j (List.getElem?_eq_some_iff.1 h1).1 i (List.getElem?_eq_some_iff.1 h2).1
    rcases h3 with (h3 | h3) | h3
    · exact absurd h1 h3
    · exact absurd h2 h3
    · exact h3
  · have h := stepsZ_get (ops := os.toArray) os ds 0 k step o d (by simpa using ho) hd
    refine ⟨fun g hg v W' hR => h.1 g hg v W' hR, fun K hK hK2 => h.2 b W hE hb (fun j dj h1 h2 => hdep j dj (by simpa using h1) h2) K (fun v W' hn e r => hK v W' hn e (by simpa using r)) (fun hn W' e r => hK2 hn W' e (by simpa using r))⟩
  · have := stepsZ_last (ops := os.toArray) os ds 0 step hlt f W hE (fun j d hd => hR j d hd)
    simpa using this
  · exfalso
    rw [Array.getD_eq_getD_getElem?, Array.getElem?_replicate] at hj
    split at hj <;> simp at hj
  · exfalso
    rw [Array.getD_eq_getD_getElem?, Array.getElem?_replicate] at hj
    split at hj <;> simp at hj
  · exact Nat.le_trans List.countP_le_length (by simp)
end
end Go.Proofs.Ytafdcbdbllpcnaa
/- Contract of the reference's Mange. -/
namespace Go.Proofs.Ytafdcbdbllpcnaa
open Go.RowKit
open Go.Proofs

theorem told_by {first : List Int} {ms : List Mt} {cl : Bool} {wv n d : Int} {xs : List Int} (h : Told first ms cl wv n xs) (hf : ∀ i ∈ first, 0 ≤ i ∧ i < n) (ho : ∀ x ∈ ms, okMt n x) (hw : 1 ≤ wv) (hd : d ≤ 100000) {i : Int} (hi : 0 ≤ i ∧ i < n) : fI xs i ≤ d ↔ SkBy first (EofC ms cl) wv d i :=
  reckoned h.fine.snd h.base h.reck hf (fun x hx => ho x hx.1) (fun x hx => .inl hx.1) hw (by omega) hi
theorem eofc_false (ms : List Mt) : EofC ms false = fun x => x ∈ ms := by funext x; simp [EofC]
theorem eofc_true (ms : List Mt) : EofC ms true = fun x => x ∈ ms ∧ x.close = true := by funext x; simp [EofC]
theorem told_known {first : List Int} {ms : List Mt} {wt : Int × Int} {n d : Int} {xs ys : List Int} (h1 : Told first ms false wt.1 n xs) (h2 : Told first ms true wt.2 n ys) (hf : ∀ i ∈ first, 0 ≤ i ∧ i < n) (ho : ∀ x ∈ ms, okMt n x) (hw : 1 ≤ wt.1) (hw2 : wt.1 ≤ wt.2) (hd : d ≤ 100000) {i : Int} (hi : 0 ≤ i ∧ i < n) :
    Knw first ms wt d i (if d < fI xs i then 0 else if fI ys i ≤ d then 2 else 1) := by
  have e1 := told_by h1 hf ho hw hd hi
  have e2 := told_by h2 hf ho (by omega) hd hi
  rw [eofc_false] at e1
  rw [eofc_true] at e2
  have h := Knw.told (w := wt) hw2 e1 e2
  by_cases hh : fI ys i ≤ d
  · have hs := SkBy.early (F := fun x => x ∈ ms ∧ x.close = true) (E := fun x => x ∈ ms) (fun _ hx => hx.1) hw2 (e2.1 hh)
    have hl := e1.2 hs
    rw [if_neg (by omega), if_pos hh]
    rwa [if_pos hh] at h
  · rw [if_neg hh] at h
    by_cases hl : fI xs i ≤ d
    · rw [if_neg (by omega), if_neg hh]
      rwa [if_pos hl] at h
    · rw [if_pos (by omega)]
      rwa [if_neg hl] at h

/-- A told list behind a call. -/
def TK (B : Nat) (first : List Int) (ms : List Mt) (cl : Bool) (wv : Int) (nn : Nat) (v : Value) (W : World) : Prop := ∃ g cap xs, v = .slice (some ⟨g, 0, none⟩) nn cap ∧ B ≤ g ∧ OutAt W g xs ∧ xs.length = nn ∧ Told first ms cl wv (nn : Int) xs
theorem tkR {B : Nat} {first : List Int} {ms : List Mt} {cl : Bool} {wv : Int} {nn : Nat} {v : Value} {W : World} (h : ∃ Wj, Ext Wj W ∧ TK B first ms cl wv nn v Wj) : TK B first ms cl wv nn v W := by
  obtain ⟨Wj, e, g, cap, xs, h1, h2, h3, h4, h5⟩ := h
  exact ⟨g, cap, xs, h1, h2, h3.keep e h3.lt, h4, h5⟩

theorem rMeets_x (n day : Int) (wt : Int × Int) (fa : Option Addr) (fcap nf : Nat) (first : List Int) (ma : Option Addr) (mcap nm : Nat) (ms : List Mt) (w : World) (hnf : nf = first.length) (hnm : nm = ms.length) (hf : IntsIn w fa fcap first) (hm : MeetsIn w ma mcap ms) (hx : chkG n first ms wt day = 0) :
    Calls Try.prog 54 #[.int .i64 n, .slice fa nf fcap, .slice ma nm mcap, .agg #[.int .i64 wt.1, .int .i64 wt.2], .int .i64 day] w fun e w' => e = .returned (.int .i64 0) ∧ Below w.heap.size w w' := by
  have h := chkG_fine hx
  have ha : okA n wt day = true := by
    cases h : okA n wt day with
    | true => rfl
    | false => simp [chkG, h] at hx
  exact rMeets_lists n day wt fa fcap nf first ma mcap nm ms 0 w hnf hnm hf hm ha (by omega) (by omega) hx
theorem one_news {W : World} {v : Value} {e : TypeId} : ∀ j u, ([v] : List Value)[j]? = some u → (W.alloc (.cells #[v] e)).cell? ((⟨W.heap.size, 0, none⟩ : Addr).add j) = some u := by
  intro j u hj
  match j with
  | 0 =>
    simp at hj
    subst hj
    rw [add_none]
    exact (cell_of_rowOf (row_here0 _ _ _)).1 0
  | j + 1 => simp at hj
theorem info5z : (Try.prog.info? 5).map (fun i => (i.zero, i.size, i.bytes)) = some (some (.int .u8 0), 1, 1) := by kernel_rfl

set_option maxRecDepth 100000 in
set_option maxHeartbeats 8000000 in
theorem rMange_ok (nn : Nat) (day : Int) (wt : Int × Int) (fa : Option Addr) (fcap nf : Nat) (first : List Int) (ma : Option Addr) (mcap nm : Nat) (ms : List Mt) (w : World) (hnf : nf = first.length) (hnm : nm = ms.length) (hf : IntsIn w fa fcap first) (hm : MeetsIn w ma mcap ms) (hx : chkG (nn : Int) first ms wt day = 0) :
    Calls Try.prog 42 #[.int .i64 (nn : Int), .slice fa nf fcap, .slice ma nm mcap, .agg #[.int .i64 wt.1, .int .i64 wt.2], .int .i64 day] w fun e w' => (∃ v, e = .returned (.tuple #[v, .int .i64 0]) ∧ ∃ vs : List Int, vs.length = nn ∧ w'.ownsRow w.heap.size 5 1 v nn (vs.map (.int .u8 ·)) ∧ ∀ i, i < nn → Knw first ms wt day (i : Int) (vs.getD i 0)) ∧ Below w.heap.size w w' := by
  have hfine := chkG_fine hx
  obtain ⟨⟨n1, n2⟩, ⟨w1, w2, w3⟩, ⟨d1, d2⟩, ⟨l1, l2⟩, hF1, hM1⟩ := hfine
  have HF := Lib.hid hf
  have HM := Lib.hid hm
  have HNF := Lib.hid hnf
  have HNM := Lib.hid hnm
  have HX := Lib.hid hx
  have HFI := Lib.hid hF1
  have HMS := Lib.hid hM1
  have hn1 : 1 ≤ nn := by omega
  have hn2 : nn ≤ 30 := by omega
  have hf2 : nf ≤ 30 := by omega
  have hm2 : nm ≤ 200 := by omega
  obtain ⟨i0, hi0, hz0, hz1, hz2⟩ := info_parts info5z
  clear hf hm hnf hnm hx hF1 hM1 l1 l2
  go_enter Try.func42, Try.ntmps42
  go_wp2_with fail
  refine (rMeets_x (nn : Int) day wt fa fcap nf first ma mcap nm ms _ HNF.out HNM.out (HF.out.below (B := w.heap.size) (by go_grown) (Nat.le_refl _)) (HM.out.below (B := w.heap.size) (by go_grown) (Nat.le_refl _)) HX.out).mono ?_
  rintro e W1 ⟨rfl, hB⟩
  have hW1 : Below w.heap.size w W1 := Below.trans (by go_grown) (hB.mono (by simp; try omega))
  have zW1 := hW1.size
  obtain ⟨raW1, caW1, gaW1, zaW1⟩ := keep_row hB (g := w.heap.size) (by repeat (first | with_reducible assumption | with_reducible apply row_here0 | with_reducible apply row_here1 | with_reducible apply row_here2 | with_reducible apply row_here3 | with_reducible apply rowSkip))
  clear hB
  go_wp2_with fail
  refine wp_drawz (by kernel_rfl) Ext (fun _ => 0) Ext.refl (fun _ _ _ => Ext.trans) [some 27, some 28, some 29, some 30, some 31, some 32, some 33, some 34, some 35, some 36, some 37, some 38, some 13, some 14] (by kernel_rfl) (by kernel_rfl) (fun ix v W => match ix with
    | 0 => v = .int .i64 (nn : Int)
    | 1 => v = .slice fa nf fcap
    | 2 => v = .slice ma nm mcap
    | 3 => v = .pointer (some ⟨w.heap.size, 0, none⟩)
    | 4 => v = .int .i64 wt.1
    | 5 => (TK w.heap.size first ms false wt.1 nn) v W
    | 6 => v = .int .i64 (nn : Int)
    | 7 => v = .slice fa nf fcap
    | 8 => v = .slice ma nm mcap
    | 9 => v = .pointer (some ⟨w.heap.size, 1, none⟩)
    | 10 => v = .int .i64 wt.2
    | 11 => (TK w.heap.size first ms true wt.2 nn) v W
    | 12 => (TK w.heap.size first ms false wt.1 nn) v W
    | 13 => (TK w.heap.size first ms true wt.2 nn) v W
    | _ => True) ⟨⟨?_, ?_⟩, ⟨?_, ?_⟩, ⟨?_, ?_⟩, ⟨?_, ?_⟩, ⟨?_, ?_⟩, ⟨?_, ?_⟩, ⟨?_, ?_⟩, ⟨?_, ?_⟩, ⟨?_, ?_⟩, ⟨?_, ?_⟩, ⟨?_, ?_⟩, ⟨?_, ?_⟩, ⟨?_, ?_⟩, ⟨?_, ?_⟩, ?_⟩
  · intro g h; cases h
  · intro b' W hE hb hdep K hK
    have e0 : b'.tmps[0]?.getD undef = .int .i64 (nn : Int) := hb 0 (by decide)
    clear hdep hb
    go_wp2
    exact hK _ _ (Ext.refl _) rfl
  · intro g h; cases h
  · intro b' W hE hb hdep K hK
    have e1 : b'.tmps[1]?.getD undef = .slice fa nf fcap := hb 1 (by decide)
    clear hdep hb
    go_wp2
    exact hK _ _ (Ext.refl _) rfl
  · intro g h; cases h
  · intro b' W hE hb hdep K hK
    have e2 : b'.tmps[2]?.getD undef = .slice ma nm mcap := hb 2 (by decide)
    clear hdep hb
    go_wp2
    exact hK _ _ (Ext.refl _) rfl
  · intro g h; cases h
  · intro b' W hE hb hdep K hK
    have e8 : b'.tmps[8]?.getD undef = .pointer (some ⟨w.heap.size, 0, none⟩) := hb 8 (by decide)
    clear hdep hb
    go_wp2
    exact hK _ _ (Ext.refl _) rfl
  · intro g h; cases h
  · intro b' W hE hb hdep K hK
    have e30 : b'.tmps[30]?.getD undef = .pointer (some ⟨w.heap.size, 0, none⟩) := pureR (hdep 3 (some 30) (by kernel_rfl) rfl)
    clear hdep hb
    obtain ⟨_, _, -, _⟩ := keep_row hE ((raW1 : rowOf _ _ = _))
    go_wp2
    exact hK _ _ (Ext.refl _) rfl
  · intro g h; cases h
  · intro b' W hE hb hdep K hK
    have e27 : b'.tmps[27]?.getD undef = .int .i64 (nn : Int) := pureR (hdep 0 (some 27) (by kernel_rfl) rfl)
    have e28 : b'.tmps[28]?.getD undef = .slice fa nf fcap := pureR (hdep 1 (some 28) (by kernel_rfl) rfl)
    have e29 : b'.tmps[29]?.getD undef = .slice ma nm mcap := pureR (hdep 2 (some 29) (by kernel_rfl) rfl)
    have e31 : b'.tmps[31]?.getD undef = .int .i64 wt.1 := pureR (hdep 4 (some 31) (by kernel_rfl) rfl)
    clear hdep hb
    go_wp2_with fail
    refine (sick_any nn wt.1 false fa fcap nf first ma mcap nm ms _ HNF.out HNM.out (HF.out.below (hE.below hW1.drew zW1) (Nat.le_refl _)) (HM.out.below (hE.below hW1.drew zW1) (Nat.le_refl _)) hn1 hn2 (by omega) (by omega) hf2 hm2 HFI.out HMS.out).mono ?_
    rintro e W' ⟨⟨g, cap, xs, rfl, h1, h2, h3, h4⟩, hB⟩
    exact hK _ _ hB ⟨g, cap, xs, rfl, by have := hE.size; simp at this; omega, h2, h3, h4⟩
  · intro g h; cases h
  · intro b' W hE hb hdep K hK
    have e0 : b'.tmps[0]?.getD undef = .int .i64 (nn : Int) := hb 0 (by decide)
    clear hdep hb
    go_wp2
    exact hK _ _ (Ext.refl _) rfl
  · intro g h; cases h
  · intro b' W hE hb hdep K hK
    have e1 : b'.tmps[1]?.getD undef = .slice fa nf fcap := hb 1 (by decide)
    clear hdep hb
    go_wp2
    exact hK _ _ (Ext.refl _) rfl
  · intro g h; cases h
  · intro b' W hE hb hdep K hK
    have e2 : b'.tmps[2]?.getD undef = .slice ma nm mcap := hb 2 (by decide)
    clear hdep hb
    go_wp2
    exact hK _ _ (Ext.refl _) rfl
  · intro g h; cases h
  · intro b' W hE hb hdep K hK
    have e8 : b'.tmps[8]?.getD undef = .pointer (some ⟨w.heap.size, 0, none⟩) := hb 8 (by decide)
    clear hdep hb
    go_wp2
    exact hK _ _ (Ext.refl _) rfl
  · intro g h; cases h
  · intro b' W hE hb hdep K hK
    have e36 : b'.tmps[36]?.getD undef = .pointer (some ⟨w.heap.size, 1, none⟩) := pureR (hdep 9 (some 36) (by kernel_rfl) rfl)
    clear hdep hb
    obtain ⟨_, _, -, _⟩ := keep_row hE ((raW1 : rowOf _ _ = _))
    go_wp2
    exact hK _ _ (Ext.refl _) rfl
  · intro g h; cases h
  · intro b' W hE hb hdep K hK
    have e33 : b'.tmps[33]?.getD undef = .int .i64 (nn : Int) := pureR (hdep 6 (some 33) (by kernel_rfl) rfl)
    have e34 : b'.tmps[34]?.getD undef = .slice fa nf fcap := pureR (hdep 7 (some 34) (by kernel_rfl) rfl)
    have e35 : b'.tmps[35]?.getD undef = .slice ma nm mcap := pureR (hdep 8 (some 35) (by kernel_rfl) rfl)
    have e37 : b'.tmps[37]?.getD undef = .int .i64 wt.2 := pureR (hdep 10 (some 37) (by kernel_rfl) rfl)
    clear hdep hb
    go_wp2_with fail
    refine (sick_any nn wt.2 true fa fcap nf first ma mcap nm ms _ HNF.out HNM.out (HF.out.below (hE.below hW1.drew zW1) (Nat.le_refl _)) (HM.out.below (hE.below hW1.drew zW1) (Nat.le_refl _)) hn1 hn2 (by omega) (by omega) hf2 hm2 HFI.out HMS.out).mono ?_
    rintro e W' ⟨⟨g, cap, xs, rfl, h1, h2, h3, h4⟩, hB⟩
    exact hK _ _ hB ⟨g, cap, xs, rfl, by have := hE.size; simp at this; omega, h2, h3, h4⟩
  · intro g h; cases h
  · intro b' W hE hb hdep K hK
    have t32 : (TK w.heap.size first ms false wt.1 nn) (b'.tmps[32]?.getD undef) W := tkR (hdep 5 (some 32) (by kernel_rfl) rfl)
    clear hdep hb
    go_wp2
    exact hK _ _ (Ext.refl _) t32
  · intro g h; cases h
  · intro b' W hE hb hdep K hK
    have t38 : (TK w.heap.size first ms true wt.2 nn) (b'.tmps[38]?.getD undef) W := tkR (hdep 11 (some 38) (by kernel_rfl) rfl)
    clear hdep hb
    go_wp2
    exact hK _ _ (Ext.refl _) t38
  intro f W hE hR
  have e27 : f 27 = .int .i64 (nn : Int) := pureR (hR 0 (some 27) rfl)
  have e28 : f 28 = .slice fa nf fcap := pureR (hR 1 (some 28) rfl)
  have e29 : f 29 = .slice ma nm mcap := pureR (hR 2 (some 29) rfl)
  have e30 : f 30 = .pointer (some ⟨w.heap.size, 0, none⟩) := pureR (hR 3 (some 30) rfl)
  have e31 : f 31 = .int .i64 wt.1 := pureR (hR 4 (some 31) rfl)
  have t32 : (TK w.heap.size first ms false wt.1 nn) (f 32) W := tkR (hR 5 (some 32) rfl)
  have e33 : f 33 = .int .i64 (nn : Int) := pureR (hR 6 (some 33) rfl)
  have e34 : f 34 = .slice fa nf fcap := pureR (hR 7 (some 34) rfl)
  have e35 : f 35 = .slice ma nm mcap := pureR (hR 8 (some 35) rfl)
  have e36 : f 36 = .pointer (some ⟨w.heap.size, 1, none⟩) := pureR (hR 9 (some 36) rfl)
  have e37 : f 37 = .int .i64 wt.2 := pureR (hR 10 (some 37) rfl)
  have t38 : (TK w.heap.size first ms true wt.2 nn) (f 38) W := tkR (hR 11 (some 38) rfl)
  have t13 : (TK w.heap.size first ms false wt.1 nn) (f 13) W := tkR (hR 12 (some 13) rfl)
  have t14 : (TK w.heap.size first ms true wt.2 nn) (f 14) W := tkR (hR 13 (some 14) rfl)
  clear hR
  obtain ⟨g3, cp3, xs3, e32, -⟩ := t32
  obtain ⟨g4, cp4, xs4, e38, -⟩ := t38
  obtain ⟨g1, cp1, xs, e13, hg1, hO1, hl1, hT1⟩ := t13
  obtain ⟨g2, cp2, ys, e14, hg2, hO2, hl2, hT2⟩ := t14
  simp only [List.filterMap_cons, List.filterMap_nil, id, puts, Act.put, List.setIfInBounds_toArray, List.set_cons_succ, List.set_cons_zero, e27, e28, e29, e30, e31, e32, e33, e34, e35, e36, e37, e38, e13, e14]
  have hWW : Below w.heap.size w W := hE.below hW1.drew zW1
  have HK := Lib.hid (fun (i : Nat) (hi : i < nn) => told_known hT1 hT2 HFI.out HMS.out w1 w2 d2 (i := (i : Int)) ⟨by omega, by omega⟩)
  have hO1' := Lib.hid hO1
  have hO2' := Lib.hid hO2
  clear hE hT1 hT2 hO1 hO2 raW1 caW1 gaW1 e32 e38 e13 e14 w1 w2 w3 d1 d2
  go_wp2
  go_loopw [15, 16] (fun v i wr => ∃ (k : Nat) (vs : List Int), k ≤ nn ∧ i = .int .i64 (k : Int) ∧ Hid (vs.length = k) ∧ Hid (∀ j, j < k → Knw first ms wt day (j : Int) (vs.getD j 0)) ∧ Hid (wr.ownsRow W.heap.size 5 1 v k (vs.map (.int .u8 ·))) ∧ Hid (Ext W wr)) (fun _ i _ => nn - (intOf i).toNat)
  case atStart => exact ⟨0, [], Nat.zero_le _, rfl, rfl, fun j hj => by omega, World.ownsRow_nil _ _ _ _, Ext.refl _⟩
  case round =>
    obtain ⟨k, vs, hk, rfl, hvl, hkn, hown, hE⟩ := hrel
    by_cases hlt : k < nn
    · have hlt' : (k : Int) < (nn : Int) := by omega
      have hKk := HK.out k hlt
      rw [fI_nat, fI_nat] at hKk
      obtain ⟨da, fa', za⟩ := (hO1'.out.keep hE.out hO1'.out.lt).get (k := k) (by omega)
      obtain ⟨db, fb', zb⟩ := (hO2'.out.keep hE.out hO2'.out.lt).get (k := k) (by omega)
      obtain ⟨lo, hlo⟩ : ∃ y, xs.getD k 0 = y := ⟨_, rfl⟩
      obtain ⟨hi, hhi⟩ : ∃ y, ys.getD k 0 = y := ⟨_, rfl⟩
      rw [hlo, hhi] at hKk
      rw [hlo] at da
      rw [hhi] at db
      have HKK := Lib.hid hKk
      have hEs := hE.out.size
      clear hlo hhi hKk
      by_cases h1 : day < lo
      · by_cases h2 : hi ≤ day
        · have hv := Lib.hid (show Knw first ms wt day (k : Int) 0 by have h := HKK.out; rw [if_pos h1] at h; exact h)
          clear HKK
          go_wp2_with (first
            | (at_builtin; refine wpList_append_own _ rfl _ _ 23 rfl W.heap.size 5 i0 (.int .u8 0) 1 1 Try.underlying23 hi0 hz0 hz1 hz2 rfl (by decide) _ _ _ rfl (hown.out.alloc _) ⟨wr.heap.size, 0, none⟩ 1 1 [.int .u8 0] rfl rfl one_news (by simp [Value.oneCell']) (by unfold maxLen; omega) (by omega) (by simp; omega) ?_)
            | fail)
          intro v' w1 hown' hgrow hnil'
          have hE1 : Ext W w1 := (Below.alloc hE.out hEs _).grown hgrow (by simp; omega) (fun i e => (hown.out.lt i e).1)
          have HO1 := Lib.hid hown'
          clear hown' hgrow hnil' hown
          go_wp2
          refine ⟨⟨k + 1, vs ++ [(0 : Int)], hlt, by go_num, by show _ = _; rw [List.length_append, hvl.out]; rfl, ?_, ?_, hE1⟩, by simp [intOf]; omega⟩
          · intro j hj
            rcases Nat.lt_or_ge j k with h | h
            · have hjl : j < vs.length := by rw [hvl.out]; exact h
              rw [show (vs ++ [(0 : Int)]).getD j 0 = vs.getD j 0 by simp [List.getD, List.getElem?_append_left hjl]]
              exact hkn.out j h
            · obtain rfl : j = k := by omega
              rw [show (vs ++ [(0 : Int)]).getD j 0 = (0 : Int) by simp [List.getD, hvl.out]]
              exact hv.out
          · show World.ownsRow _ _ _ _ _ _ _
            rw [List.map_append]
            exact HO1.out
        · have hv := Lib.hid (show Knw first ms wt day (k : Int) 0 by have h := HKK.out; rw [if_pos h1] at h; exact h)
          clear HKK
          go_wp2_with (first
            | (at_builtin; refine wpList_append_own _ rfl _ _ 23 rfl W.heap.size 5 i0 (.int .u8 0) 1 1 Try.underlying23 hi0 hz0 hz1 hz2 rfl (by decide) _ _ _ rfl (hown.out.alloc _) ⟨wr.heap.size, 0, none⟩ 1 1 [.int .u8 0] rfl rfl one_news (by simp [Value.oneCell']) (by unfold maxLen; omega) (by omega) (by simp; omega) ?_)
            | fail)
          intro v' w1 hown' hgrow hnil'
          have hE1 : Ext W w1 := (Below.alloc hE.out hEs _).grown hgrow (by simp; omega) (fun i e => (hown.out.lt i e).1)
          have HO1 := Lib.hid hown'
          clear hown' hgrow hnil' hown
          go_wp2
          refine ⟨⟨k + 1, vs ++ [(0 : Int)], hlt, by go_num, by show _ = _; rw [List.length_append, hvl.out]; rfl, ?_, ?_, hE1⟩, by simp [intOf]; omega⟩
          · intro j hj
            rcases Nat.lt_or_ge j k with h | h
            · have hjl : j < vs.length := by rw [hvl.out]; exact h
              rw [show (vs ++ [(0 : Int)]).getD j 0 = vs.getD j 0 by simp [List.getD, List.getElem?_append_left hjl]]
              exact hkn.out j h
            · obtain rfl : j = k := by omega
              rw [show (vs ++ [(0 : Int)]).getD j 0 = (0 : Int) by simp [List.getD, hvl.out]]
              exact hv.out
          · show World.ownsRow _ _ _ _ _ _ _
            rw [List.map_append]
            exact HO1.out
      · by_cases h2 : hi ≤ day
        · have hv := Lib.hid (show Knw first ms wt day (k : Int) 2 by have h := HKK.out; rw [if_neg h1, if_pos h2] at h; exact h)
          clear HKK
          go_wp2_with (first
            | (at_builtin; refine wpList_append_own _ rfl _ _ 23 rfl W.heap.size 5 i0 (.int .u8 0) 1 1 Try.underlying23 hi0 hz0 hz1 hz2 rfl (by decide) _ _ _ rfl (hown.out.alloc _) ⟨wr.heap.size, 0, none⟩ 1 1 [.int .u8 2] rfl rfl one_news (by simp [Value.oneCell']) (by unfold maxLen; omega) (by omega) (by simp; omega) ?_)
            | fail)
          intro v' w1 hown' hgrow hnil'
          have hE1 : Ext W w1 := (Below.alloc hE.out hEs _).grown hgrow (by simp; omega) (fun i e => (hown.out.lt i e).1)
          have HO1 := Lib.hid hown'
          clear hown' hgrow hnil' hown
          go_wp2
          refine ⟨⟨k + 1, vs ++ [(2 : Int)], hlt, by go_num, by show _ = _; rw [List.length_append, hvl.out]; rfl, ?_, ?_, hE1⟩, by simp [intOf]; omega⟩
          · intro j hj
            rcases Nat.lt_or_ge j k with h | h
            · have hjl : j < vs.length := by rw [hvl.out]; exact h
              rw [show (vs ++ [(2 : Int)]).getD j 0 = vs.getD j 0 by simp [List.getD, List.getElem?_append_left hjl]]
              exact hkn.out j h
            · obtain rfl : j = k := by omega
              rw [show (vs ++ [(2 : Int)]).getD j 0 = (2 : Int) by simp [List.getD, hvl.out]]
              exact hv.out
          · show World.ownsRow _ _ _ _ _ _ _
            rw [List.map_append]
            exact HO1.out
        · have hv := Lib.hid (show Knw first ms wt day (k : Int) 1 by have h := HKK.out; rw [if_neg h1, if_neg h2] at h; exact h)
          clear HKK
          go_wp2_with (first
            | (at_builtin; refine wpList_append_own _ rfl _ _ 23 rfl W.heap.size 5 i0 (.int .u8 0) 1 1 Try.underlying23 hi0 hz0 hz1 hz2 rfl (by decide) _ _ _ rfl (hown.out.alloc _) ⟨wr.heap.size, 0, none⟩ 1 1 [.int .u8 1] rfl rfl one_news (by simp [Value.oneCell']) (by unfold maxLen; omega) (by omega) (by simp; omega) ?_)
            | fail)
          intro v' w1 hown' hgrow hnil'
          have hE1 : Ext W w1 := (Below.alloc hE.out hEs _).grown hgrow (by simp; omega) (fun i e => (hown.out.lt i e).1)
          have HO1 := Lib.hid hown'
          clear hown' hgrow hnil' hown
          go_wp2
          refine ⟨⟨k + 1, vs ++ [(1 : Int)], hlt, by go_num, by show _ = _; rw [List.length_append, hvl.out]; rfl, ?_, ?_, hE1⟩, by simp [intOf]; omega⟩
          · intro j hj
            rcases Nat.lt_or_ge j k with h | h
            · have hjl : j < vs.length := by rw [hvl.out]; exact h
              rw [show (vs ++ [(1 : Int)]).getD j 0 = vs.getD j 0 by simp [List.getD, List.getElem?_append_left hjl]]
              exact hkn.out j h
            · obtain rfl : j = k := by omega
              rw [show (vs ++ [(1 : Int)]).getD j 0 = (1 : Int) by simp [List.getD, hvl.out]]
              exact hv.out
          · show World.ownsRow _ _ _ _ _ _ _
            rw [List.map_append]
            exact HO1.out
    · obtain rfl : k = nn := by omega
      go_wp2
      go_returns
      exact ⟨⟨_, rfl, vs, hvl.out, owns_mono hown.out hWW.size, hkn.out⟩, hWW.trans (Below.mono hE.out hWW.size)⟩
end Go.Proofs.Ytafdcbdbllpcnaa
/- The reference's Meets and Mange where an error is returned. -/
namespace Go.Proofs.Ytafdcbdbllpcnaa
open Go.RowKit
open Go.Proofs

theorem okA_parts (n : Int) (wt : Int × Int) (day : Int) : okA n wt day = (inB 1 30 n && ((inB 1 wt.2 wt.1 && decide (wt.2 ≤ 60)) && inB 0 100000 day)) := by
  rw [Bool.eq_iff_iff]
  simp only [okA, okSpan, inB, Bool.and_eq_true, decide_eq_true_eq]
  omega

set_option maxHeartbeats 4000000 in
theorem rMeets_arg (n day : Int) (wt : Int × Int) (sf sm : Value) (w : World) (ha : okA n wt day = false) :
    Calls Try.prog 54 #[.int .i64 n, sf, sm, .agg #[.int .i64 wt.1, .int .i64 wt.2], .int .i64 day] w fun e w' => e = .returned (.int .i64 2) ∧ Below w.heap.size w w' := by
  rw [okA_parts] at ha
  cases b1 : inB 1 30 n with
  | false =>
    clear ha
    go_enter Try.func54, Try.ntmps54
    go_wp2_with (first | (go_at_call 82; refine (rwithin_any _ _ _ _).mono ?_; rintro e w' ⟨rfl, rfl⟩) | fail)
    go_returns
    exact ⟨rfl, by go_grown⟩
  | true =>
    cases b2 : (inB 1 wt.2 wt.1 && decide (wt.2 ≤ 60)) with
    | false =>
      have B2 := Lib.hid b2
      clear ha b2
      go_enter Try.func54, Try.ntmps54
      go_wp2_with (first | (go_at_call 82; refine (rwithin_any _ _ _ _).mono ?_; rintro e w' ⟨rfl, rfl⟩) | fail)
      refine (spanned1_any 60 wt false B2.out _).mono ?_
      rintro e W1 ⟨rfl, hB⟩
      have hW1 : Below w.heap.size w W1 := Below.trans (by go_grown) (hB.mono (by simp))
      clear hB
      go_wp2_with (first | (go_at_call 82; refine (rwithin_any _ _ _ _).mono ?_; rintro e w' ⟨rfl, rfl⟩) | fail)
      go_returns
      exact ⟨rfl, hW1⟩
    | true =>
      have b3 : inB 0 100000 day = false := by rw [b1, b2] at ha; simpa using ha
      have B2 := Lib.hid b2
      clear ha b2
      go_enter Try.func54, Try.ntmps54
      go_wp2_with (first | (go_at_call 82; refine (rwithin_any _ _ _ _).mono ?_; rintro e w' ⟨rfl, rfl⟩) | fail)
      refine (spanned1_any 60 wt true B2.out _).mono ?_
      rintro e W1 ⟨rfl, hB⟩
      have hW1 : Below w.heap.size w W1 := Below.trans (by go_grown) (hB.mono (by simp))
      clear hB
      go_wp2_with (first | (go_at_call 82; refine (rwithin_any _ _ _ _).mono ?_; rintro e w' ⟨rfl, rfl⟩) | fail)
      go_returns
      exact ⟨rfl, hW1⟩

set_option maxHeartbeats 4000000 in
theorem rMeets_many (n day : Int) (wt : Int × Int) (fa : Option Addr) (fcap nf : Nat) (ma : Option Addr) (mcap nm : Nat) (w : World) (ha : okA n wt day = true) (hl : ¬ (nf ≤ 30 ∧ nm ≤ 200)) :
    Calls Try.prog 54 #[.int .i64 n, .slice fa nf fcap, .slice ma nm mcap, .agg #[.int .i64 wt.1, .int .i64 wt.2], .int .i64 day] w fun e w' => e = .returned (.int .i64 4) ∧ Below w.heap.size w w' := by
  rw [okA_parts] at ha
  simp only [Bool.and_eq_true] at ha
  obtain ⟨b1, b2, b3⟩ := ha
  have B2 := Lib.hid (show (inB 1 wt.2 wt.1 && decide (wt.2 ≤ 60)) = true by rw [Bool.and_eq_true]; exact b2)
  clear b2
  by_cases h1 : nf ≤ 30
  · have h2 : (200 : Int) < (nm : Int) := by omega
    have h1' : (nf : Int) ≤ 30 := by omega
    clear hl
    go_enter Try.func54, Try.ntmps54
    go_wp2_with (first | (go_at_call 82; refine (rwithin_any _ _ _ _).mono ?_; rintro e w' ⟨rfl, rfl⟩) | fail)
    refine (spanned1_any 60 wt true B2.out _).mono ?_
    rintro e W1 ⟨rfl, hB⟩
    have hW1 : Below w.heap.size w W1 := Below.trans (by go_grown) (hB.mono (by simp))
    clear hB
    go_wp2_with (first | (go_at_call 82; refine (rwithin_any _ _ _ _).mono ?_; rintro e w' ⟨rfl, rfl⟩) | fail)
    go_returns
    exact ⟨rfl, hW1⟩
  · have h2 : (30 : Int) < (nf : Int) := by omega
    clear hl h1
    go_enter Try.func54, Try.ntmps54
    go_wp2_with (first | (go_at_call 82; refine (rwithin_any _ _ _ _).mono ?_; rintro e w' ⟨rfl, rfl⟩) | fail)
    refine (spanned1_any 60 wt true B2.out _).mono ?_
    rintro e W1 ⟨rfl, hB⟩
    have hW1 : Below w.heap.size w W1 := Below.trans (by go_grown) (hB.mono (by simp))
    clear hB
    go_wp2_with (first | (go_at_call 82; refine (rwithin_any _ _ _ _).mono ?_; rintro e w' ⟨rfl, rfl⟩) | fail)
    go_returns
    exact ⟨rfl, hW1⟩

theorem rMeets_any (n day : Int) (wt : Int × Int) (fa : Option Addr) (fcap nf : Nat) (first : List Int) (ma : Option Addr) (mcap nm : Nat) (ms : List Mt) (x : Int) (w : World) (hnf : nf = first.length) (hnm : nm = ms.length) (hf : IntsIn w fa fcap first) (hm : MeetsIn w ma mcap ms) (hx : chkG n first ms wt day = x) :
    Calls Try.prog 54 #[.int .i64 n, .slice fa nf fcap, .slice ma nm mcap, .agg #[.int .i64 wt.1, .int .i64 wt.2], .int .i64 day] w fun e w' => e = .returned (.int .i64 x) ∧ Below w.heap.size w w' := by
  cases ha : okA n wt day with
  | false =>
    have : x = 2 := by rw [← hx]; simp [chkG, ha]
    subst this
    exact rMeets_arg n day wt _ _ w ha
  | true =>
    by_cases hl : nf ≤ 30 ∧ nm ≤ 200
    · exact rMeets_lists n day wt fa fcap nf first ma mcap nm ms x w hnf hnm hf hm ha hl.1 hl.2 hx
    · have : x = 4 := by
        rw [← hx]
        unfold chkG
        rw [if_pos ha, if_neg (show ¬ (first.length ≤ 30 ∧ ms.length ≤ 200) by omega)]
      subst this
      exact rMeets_many n day wt fa fcap nf ma mcap nm w ha hl

theorem rMange_bad (n : Int) (day : Int) (wt : Int × Int) (fa : Option Addr) (fcap nf : Nat) (first : List Int) (ma : Option Addr) (mcap nm : Nat) (ms : List Mt) (x : Int) (w : World) (hnf : nf = first.length) (hnm : nm = ms.length) (hf : IntsIn w fa fcap first) (hm : MeetsIn w ma mcap ms) (hx : chkG n first ms wt day = x) (h0 : x ≠ 0) :
    Calls Try.prog 42 #[.int .i64 n, .slice fa nf fcap, .slice ma nm mcap, .agg #[.int .i64 wt.1, .int .i64 wt.2], .int .i64 day] w fun e w' => e = .returned (.tuple #[.slice none 0 0, .int .i64 x]) ∧ Below w.heap.size w w' := by
  have HF := Lib.hid hf
  have HM := Lib.hid hm
  have HNF := Lib.hid hnf
  have HNM := Lib.hid hnm
  have HX := Lib.hid hx
  have hne : (x == 0) = false := by simpa using h0
  clear hf hm hnf hnm hx
  go_enter Try.func42, Try.ntmps42
  go_wp2_with fail
  refine (rMeets_any n day wt fa fcap nf first ma mcap nm ms x _ HNF.out HNM.out (HF.out.below (B := w.heap.size) (by go_grown) (Nat.le_refl _)) (HM.out.below (B := w.heap.size) (by go_grown) (Nat.le_refl _)) HX.out).mono ?_
  rintro e W1 ⟨rfl, hB⟩
  have hW1 : Below w.heap.size w W1 := Below.trans (by go_grown) (hB.mono (by simp; try omega))
  have zW1 := hW1.size
  clear hB
  go_wp2
  go_returns
  exact ⟨rfl, hW1⟩
end Go.Proofs.Ytafdcbdbllpcnaa
