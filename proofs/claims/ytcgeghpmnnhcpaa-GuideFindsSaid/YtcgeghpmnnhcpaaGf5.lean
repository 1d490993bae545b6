/- Guide: the law of Finds. -/
import Derived.Test.YtcgeghpmnnhcpaaGf4
import Derived.Test.YtcgeghpmnnhcpaaJL
set_option linter.unusedVariables false
set_option linter.unusedSimpArgs false
namespace Go.Q
open Go.V
theorem allN_all {α : Type} (p : α → Bool) (xs : List α) : allN (fun i => (xs[i]?).all p) xs.length = xs.all p := by
  rw [Bool.eq_iff_iff, allN_iff, List.all_eq_true]
  constructor
  · intro h x hx
    obtain ⟨i, hi, rfl⟩ := List.getElem_of_mem hx
    simpa [List.getElem?_eq_getElem hi] using h i hi
  · intro h j hj
    simp [List.getElem?_eq_getElem hj, h _ (List.getElem_mem hj)]
theorem finds_facts {hs : List Hf} {ts : List Tk} {x y far : Int} (ho : okA hs = true) (ha : askOK x y far = true) (hl : ts.length ≤ 60) :
    ∃ r0 r1 r2, evL FN 21 [.node [hfs hs], tks ts, I x, I y, I far] = some (.node [I r0, I r1, I r2]) ∧ (ts.all Tk.ok = false → r2 = 42 ∨ r2 = 43) ∧ (hasPl hs = false → r2 = 43) ∧
      (ts.all Tk.ok = true → hasPl hs = true → ∀ sf, fGo x y far 0 (f0 hs x y far) ts = .ok sf → r0 = sf.may ∧ r1 = sf.sure ∧ r2 = 0) ∧ (ts.all Tk.ok = true → hasPl hs = true → ∀ u, fGo x y far 0 (f0 hs x y far) ts = .error u → r2 = 9) := by
  have hlen := (okA_in ho).2
  refine ⟨_, _, _, e21 hs ts x y far (by omega) (by omega), ?_, ?_, ?_, ?_⟩
  · intro h
    cases hp : hasPl hs
    · right; simp [findsS, nearS, ho, ha, hp]
    · left; simp [findsS, nearS_of ho ha hp, h, show ¬ 60 < ts.length by omega]
  · intro hp
    simp [findsS, nearS, ho, ha, hp]
  · intro h hp sf hR
    simp [findsS, nearS_of ho ha hp, h, show ¬ 60 < ts.length by omega, hR]
  · intro h hp u hR
    simp [findsS, nearS_of ho ha hp, h, show ¬ 60 < ts.length by omega, hR]
set_option maxHeartbeats 6400000 in
theorem e13 (hs : List Hf) (ts : List Tk) (x y far qx qy : Int) (ws : List Wd) (hx : -9223372036854775808 ≤ x ∧ x ≤ 9223372036854775807) (hy : -9223372036854775808 ≤ y ∧ y ≤ 9223372036854775807) (hqx : -9223372036854775808 ≤ qx ∧ qx ≤ 9223372036854775807) (hqy : -9223372036854775808 ≤ qy ∧ qy ≤ 9223372036854775807) :
    evL FN 13 [.node [hfs hs], tks ts, I x, I y, I far, I qx, I qy, wds ws] = some (.bool true) := by
  refine evL_of (F := F13) rfl ?_
  rw [F13_eq]
  have h34 := e34u hs
  have n1 : ∀ a b : Int, mxD false (.int .i64 a) (.int .i64 b) = some (.int .i64 (min a b)) := minD
  have n2 : ∀ a b : Int, mxD true (.int .i64 a) (.int .i64 b) = some (.int .i64 (max a b)) := maxD
  simp only [hfs, I] at h34
  cases k1 : okA hs <;> rw [k1] at h34
  · simp [Fn.denV, fits, T.denV, denVK, denL, E.den, D.cells, hfs, tks, wds, D.den1, binD, unD, outOf, e14, h34]
  by_cases k2 : (60 : Int) < ts.length
  · simp [Fn.denV, fits, T.denV, denVK, denL, E.den, D.cells, hfs, tks, wds, D.den1, binD, unD, outOf, e14, h34, k2]
  generalize hX : IntKind.i64.wrap (-x) = X
  generalize hY : IntKind.i64.wrap (-y) = Y
  by_cases k3 : 10000000 < max x (max X (max y Y))
  · simp [Fn.denV, fits, T.denV, denVK, denL, E.den, D.cells, hfs, tks, wds, D.den1, binD, unD, mxLD, n1, n2, outOf, e14, h34, k2, hX, hY, k3]
  by_cases k4 : min x y < -10000000
  · simp [Fn.denV, fits, T.denV, denVK, denL, E.den, D.cells, hfs, tks, wds, D.den1, binD, unD, mxLD, n1, n2, outOf, e14, h34, k2, hX, hY, k3, k4]
  by_cases k5 : far < 0
  · simp [Fn.denV, fits, T.denV, denVK, denL, E.den, D.cells, hfs, tks, wds, D.den1, binD, unD, mxLD, n1, n2, outOf, e14, h34, k2, hX, hY, k3, k4, k5]
  by_cases k6 : 10000000 < far
  · simp [Fn.denV, fits, T.denV, denVK, denL, E.den, D.cells, hfs, tks, wds, D.den1, binD, unD, mxLD, n1, n2, outOf, e14, h34, k2, hX, hY, k3, k4, k5, k6]
  have ha : askOK x y far = true := by
    simp only [askOK, plOK, inR, Bool.and_eq_true, decide_eq_true_eq]
    omega
  obtain ⟨hin, hlen⟩ := okA_in k1
  have htl : ts.length ≤ 60 := by omega
  obtain ⟨r0, r1, r2, h21, f1, f2, f3, f4⟩ := finds_facts (hs := hs) (ts := ts) k1 ha htl
  have h20 := e20 hs x y far (by omega)
  have h45 := fun t => e45 t
  simp only [hfs, tks, I, Tk.c] at h21 h20 h45
  simp [Fn.denV, fits, T.denV, denVK, denL, E.den, D.cells, hfs, tks, wds, D.den1, binD, unD, mxLD, n1, n2, outOf, e14, h34, k2, hX, hY, k3, k4, k5, k6, h21]
  rw [iter_allN ts.length (fun i => (ts[i]?).all Tk.ok) (fun i => [I i]) 0 1 [.bool true] [] (by simp)]
  rotate_left
  · intro i hlt _
    have h45 := h45 ts[i]
    simp only [List.getElem?_eq_getElem hlt, Option.all_some]
    cases ho : (ts[i]).ok <;> rw [ho] at h45
    · have hf : ts.all Tk.ok = false := by
        cases e : ts.all Tk.ok
        · rfl
        · rw [List.all_eq_true.1 e _ (List.getElem_mem hlt)] at ho; cases ho
      rcases f1 hf with rfl | rfl <;> simp [hlt, idx_nat hlt, Tk.c, partD, D.cells, h45, unD, binD, D.den1, outOf, denL, E.den, denVK, T.denV]
    · simp [hlt, idx_nat hlt, Tk.c, partD, D.cells, h45, unD, binD, D.den1, outOf, denL, E.den, denVK, T.denV, wrapN (show i < 9223372036854775807 by omega)]
  · intro _
    simp [D.den1, binD, outOf, denL, E.den]
  rw [allN_all]
  cases hall : ts.all Tk.ok
  · simp [denVK, T.denV, denL, E.den]
  cases hp : hasPl hs
  · obtain rfl := f2 hp
    have hn : (nearS hs x y far).2 = 43 := by simp [nearS, k1, ha, hp]
    rw [hn] at h20
    simp [denVK, T.denV, denL, E.den, D.cells, D.den1, binD, h20, outOf]
  have hok := f3 hall hp
  have herr := f4 hall hp
  have h43 : ¬ r2 = 43 := by
    cases hR : fGo x y far 0 (f0 hs x y far) ts with
    | ok sf => have := (hok sf hR).2.2; omega
    | error u => have := herr u hR; omega
  have hI : ∀ inn : Bool, (inn = true → (pt qx qy).inA hs ∧ (-10000000000 ≤ qx ∧ qx ≤ 10000000000) ∧ (-10000000000 ≤ qy ∧ qy ≤ 10000000000)) → Inv13 hs ts x y far inn 0 qx qy (-1) (-1) hs := fun inn h => ⟨k1, hp, fun h1 => by
    obtain ⟨a, b, c⟩ := h h1
    exact ⟨a, by omega, by omega⟩, fun _ => ⟨rfl, rfl, rfl⟩, fun j hj => by omega, by omega, by omega⟩
  have w1 : IntKind.i64.wrap ((ts.length : Int) + 1) = (ts.length : Int) + 1 := wrapI (by omega)
  have key : ∀ inn : Bool, Inv13 hs ts x y far inn 0 qx qy (-1) (-1) hs → ∃ j ρ, tLOOP13.denV (evL FN) [.node [hfs hs], tks ts, I x, I y, I far, I qx, I qy, wds ws, .bool true, .bool false, .bool false, .node [I r0, I r1, I r2], I ts.length, .bool false, .bool inn, I ts.length, I ((ts.length : Int) + 1)] = some (j, ρ) ∧ ([E.c (.bool false), .v 8, .v 13, .v 15, .v 17, .v 19][j]?).map (E.den ρ) = some (.bool true) := fun inn hinv => by
    obtain ⟨r, hR, hr⟩ := loop13 (d5 := I qx) (d6 := I qy) (d9 := .bool false) (d10 := .bool false) (d12 := I ts.length) (d13 := .bool false) (d15 := I ts.length) (ws := ws) htl hall ha hok herr hinv rfl rfl
    rcases hR with rfl | ⟨sf, hsf, rfl⟩
    · exact ⟨_, _, hr.trans rfl, rfl⟩
    · obtain ⟨rfl, rfl, rfl⟩ := hok sf hsf
      rw [hr]
      simp [tE13, denVK, T.denV, denL, E.den, D.cells, D.den1, binD, outOf]
      exact ⟨5, _, ⟨rfl, rfl⟩, _, rfl, rfl⟩
  have hbe : (r2 == 43) = false := by simp [h43]
  obtain ⟨b, h40, hb⟩ := e40 qx qy hqx hqy
  simp only [I] at h40
  cases b
  · obtain ⟨j, ρ, g1, g2⟩ := key false (hI false fun h => by cases h)
    simp only [hfs, tks, wds, I] at g1
    simp [denVK, T.denV, denL, E.den, D.cells, D.den1, binD, h40, h43, hbe, outOf, w1, g1, g2]
  · obtain ⟨b1, b2⟩ := hb rfl
    have h41 := e41 hs qx qy hin hlen (by omega) (by omega)
    obtain ⟨j, ρ, g1, g2⟩ := key (inP hs qx qy) (hI _ fun h => ⟨inP_iff.1 h, b1, b2⟩)
    simp only [hfs, tks, wds, I] at g1 h41
    simp [denVK, T.denV, denL, E.den, D.cells, D.den1, binD, h40, h41, h43, hbe, outOf, w1, g1, g2]
end Go.Q
