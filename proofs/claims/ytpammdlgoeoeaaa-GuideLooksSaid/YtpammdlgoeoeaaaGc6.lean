/- Guide: the reference's Finds; the statement on treks. -/
import Derived.Test.YtpammdlgoeoeaaaGc5
set_option linter.unusedVariables false
set_option linter.unusedSimpArgs false
namespace Go.Q
open Go.V
set_option maxHeartbeats 3200000 in
theorem e39 (hs : List Hf) (ts : List Tk) (x y f : Int) (hl : hs.length < 9223372036854775807) (hlt : ts.length < 9223372036854775807) :
    evL FN 39 [.node [hfs hs], tks ts, I x, I y, I f] = some (.node [I (findsS hs ts x y f).1, I (findsS hs ts x y f).2.1, I (findsS hs ts x y f).2.2]) := by
  refine evL_of (F := F39) rfl ?_
  have h77 := e77 hs x y f hl
  simp only [hfs, I, U8] at h77
  unfold findsS
  by_cases k1 : (nearS hs x y f).2 = 0
  rotate_left
  · simp [F39, Fn.denV, fits, T.denV, denVK, denL, E.den, D.cells, hfs, tks, D.den1, binD, unD, h77, k1]
  obtain ⟨hok, hask, hpl, hkn⟩ := nearS_ok k1
  rw [k1] at h77
  rw [if_neg (by simp [k1])]
  by_cases k2 : 60 < ts.length
  · have k2' : (60 : Int) < ts.length := by omega
    simp [F39, Fn.denV, fits, T.denV, denVK, denL, E.den, D.cells, hfs, tks, D.den1, binD, unD, h77, k2, k2']
  have k2' : ¬ (60 : Int) < ts.length := by omega
  rw [if_neg k2]
  obtain ⟨b, k3⟩ : ∃ b, ts.all Tk.ok = b := ⟨_, rfl⟩
  rw [k3]
  simp [F39, Fn.denV, fits, T.denV, denVK, denL, E.den, D.cells, hfs, tks, D.den1, binD, unD, h77, k2', -List.all_eq_true]
  rw [iter_all (p := Tk.ok) (t := 0) (u := 1) (xs := ts), k3]
  rotate_left
  · intro i t hi
    obtain ⟨hlt, rfl⟩ := List.getElem?_eq_some_iff.1 hi
    have h45 := e45 ts[i]
    simp only [Tk.c] at h45
    have hlt' : (i : Int) < ts.length := by omega
    cases e : ts[i].ok <;> rw [e] at h45 <;>
      simp [hlt, hlt', idx_nat hlt, hi, Tk.c, partD, D.cells, h45, unD, outOf, denL, E.den, wrapN (show i < 9223372036854775807 by omega)]
  · simp [outOf, denL]
  cases b
  · simp [denVK, T.denV, denL, E.den]
  have hto : ∀ t ∈ ts, t.ok = true := by simpa using k3
  have hf0 : f0 hs x y f = ⟨hs, if kn hs (nr x y f) = 0 then -1 else 0, if kn hs (nr x y f) = 2 then 0 else -1⟩ := by
    unfold f0; congr 1; split <;> simp_all
  have hin0 := (okA_in hok).1
  have hlen0 := (okA_in hok).2
  simp [denVK, T.denV, denL, E.den, D.cells]
  rw [iterL_eq]
  have h78 := e78 hs x y f hin0 hask (by omega)
  have sh4 := shal_hfs (n := 3) (hs := hs)
  simp only [hfs, I, U8] at h78 sh4
  have k0 : (0 : Int) ≤ ts.length := by omega
  have v1 : IntKind.i64.wrap 1 = 1 := by decide
  simp [k0, v1, sh4, h78, outOf, denVK, T.denV, denL, E.den, D.cells, D.den1, binD, D.flat, D.flat0]
  rcases kn_cases hs (nr x y f) with ek | ek | ek
  all_goals
    simp only [ek, reduceIte, reduceCtorEq, Int.reduceEq] at hf0
    simp [ek, v1, outOf, denVK, T.denV, denL, E.den, D.cells, D.den1, binD]
    rw [fgo_iter (x := x) (y := y) (f := f) (ts := ts) (r0 := []) (enc := fun i s => [I s.may, I s.sure, hfs s.hs, I (i + 1)]) (s := f0 hs x y f) ?_ ?_ (by rw [hf0]; exact ⟨hok, hpl⟩) (by rw [hf0]; simp [ek, hfs])]
    · cases fGo x y f 0 (f0 hs x y f) ts <;> simp [denVK, T.denV, denL, E.den, D.cells]
    · intro i t s hi hs'
      obtain ⟨hlt, rfl⟩ := List.getElem?_eq_some_iff.1 hi
      have hlt' : (i : Int) + 1 ≤ ts.length := by omega
      have hi0 : (0 : Int) < (i : Int) + 1 := by omega
      have hi1 : IntKind.i64.wrap ((i : Int) + 1 - 1) = i := by rw [wrapI (by omega)]; omega
      have hi2 : IntKind.i64.wrap ((i : Int)) = i := wrapI (by omega)
      have hi3 : IntKind.i64.wrap ((i : Int) + 1 + 1) = (i : Int) + 1 + 1 := wrapI (by omega)
      have ht := hto _ (List.getElem_mem hlt)
      have hin := (okA_in hs'.ok).1
      have hlen := (okA_in hs'.ok).2
      have h81 := e81 s.hs ts[i] (.of ht) hin (by omega)
      have sh1 := shal_hfs (n := 3) (hs := s.hs)
      have hokall : s.hs.all Hf.ok = true := by
        have := hs'.ok
        simp only [okA, Bool.and_eq_true] at this
        exact this.1.2
      rw [← mv_mok hokall] at h81
      rcases step_all (i := i) hs' hask ht with ⟨m1, m2⟩ | ⟨s', m1, m2, m3, m4, m5, m6⟩
      · have hf : (s.hs.map (Hf.mv ts[i])).all Hf.ok = false := by
          unfold fStep at m2
          split at m2
          · assumption
          · cases m2
        rw [hf] at h81
        have s3 : D.shal 1 (.list []) = true := rfl
        simp only [hfs, Tk.c, I] at h81 sh1
        simp [s3, m2, hi0, hi1, hi2, hfs, hlt, hlt', idx_nat hlt, hi, Tk.c, partD, D.cells, sh1, h81, outOf, denVK, T.denV, denL, E.den, D.den1, binD, D.flat, D.flat0, unD]
      · have hf : (s.hs.map (Hf.mv ts[i])).all Hf.ok = true ∧ s.hs.map (Hf.mv ts[i]) = s'.hs := by
          unfold fStep at m1
          split at m1
          · cases m1
          · rename_i hq
            cases m1
            exact ⟨by simpa using hq, rfl⟩
        rw [hf.1, hf.2] at h81
        have hin' := (okA_in m3.ok).1
        have hlen' := (okA_in m3.ok).2
        have h78 := e78 s'.hs x y f hin' hask (by omega)
        have sh2 := shal_hfs (n := 0) (hs := s'.hs)
        have sh3 := shal_hfs (n := 3) (hs := s'.hs)
        simp only [hfs, Tk.c, I, U8] at h81 sh1 sh2 sh3 h78
        simp [m1, hi0, hi1, hi2, hfs, hlt, hlt', idx_nat hlt, hi, Tk.c, partD, D.cells, sh1, sh2, sh3, h81, h78, outOf, denVK, T.denV, denL, E.den, D.den1, binD, D.flat, D.flat0, unD]
        by_cases c1 : s.may < 0 <;> by_cases c2 : s.sure < 0 <;> rcases kn_cases s'.hs (nr x y f) with e | e | e <;> rw [m5, m6] <;>
          simp [c1, c2, e, hi3, outOf, denVK, T.denV, denL, E.den, D.cells, D.den1, binD, wrapN (show i < 9223372036854775807 by omega)]
    · intro s hs'
      have hq : ¬ (ts.length : Int) + 1 ≤ ts.length := by omega
      simp [hq, outOf, denL, E.den]
      trace_state
end Go.Q
