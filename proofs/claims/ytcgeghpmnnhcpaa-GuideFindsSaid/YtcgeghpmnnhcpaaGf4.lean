/- Guide: after how many treks one is near. -/
import Derived.Test.YtcgeghpmnnhcpaaGf3
set_option linter.unusedVariables false
set_option linter.unusedSimpArgs false
namespace Go.Q
open Go.V
def P13 (hs0 : List Hf) (ts : List Tk) (x y far : Int) (inn : Bool) (i : Nat) (ds : List D) : Prop := ∃ px py may sure hs, Inv13 hs0 ts x y far inn i px py may sure hs ∧ ds = [I px, I py, I may, I sure, I i, hfs hs]
def R13 (hs0 : List Hf) (ts : List Tk) (x y far : Int) (r : Nat × List D) : Prop := r = (0, [.bool true]) ∨ ∃ sf : Fs, fGo x y far 0 (f0 hs0 x y far) ts = .ok sf ∧ r = (1, [I sf.may, I sf.sure])
theorem loop13 {d5 d6 d9 d10 d12 d13 d15 : D} {hs0 : List Hf} {ts : List Tk} {ws : List Wd} {x y far qx qy r0 r1 r2 : Int} {inn : Bool} (hl : ts.length ≤ 60) (ht : ts.all Tk.ok = true) (ha : askOK x y far = true)
    (hok : ∀ sf, fGo x y far 0 (f0 hs0 x y far) ts = .ok sf → r0 = sf.may ∧ r1 = sf.sure ∧ r2 = 0) (herr : ∀ u, fGo x y far 0 (f0 hs0 x y far) ts = .error u → r2 = 9) (h : Inv13 hs0 ts x y far inn 0 qx qy (-1) (-1) hs0) (h5 : d5 = I qx) (h6 : d6 = I qy) :
    ∃ r, R13 hs0 ts x y far r ∧ tLOOP13.denV (evL FN) [.node [hfs hs0], tks ts, I x, I y, I far, d5, d6, wds ws, .bool true, d9, d10, .node [I r0, I r1, I r2], d12, d13, .bool inn, d15, I ((ts.length : Int) + 1)] =
      denVK (evL FN) ([.node [hfs hs0], tks ts, I x, I y, I far, d5, d6, wds ws, .bool true, d9, d10, .node [I r0, I r1, I r2], d12, d13, .bool inn, d15, I ((ts.length : Int) + 1)] ++ r.2) tE13 r.1 := by
  have key := iter_upto (P := P13 hs0 ts x y far inn) (n := ts.length + 1) (R := R13 hs0 ts x y far) (f := fun vals => outOf outsL13 (tL13.denV (evL FN) ([.node [hfs hs0], tks ts, I x, I y, I far, d5, d6, wds ws, .bool true, d9, d10, .node [I r0, I r1, I r2], d12, d13, .bool inn, d15, I ((ts.length : Int) + 1)] ++ vals))) ?_ ?_ (ts.length + 1) 0 [I qx, I qy, I (-1), I (-1), I 0, hfs hs0] (by omega) ⟨_, _, _, _, _, h, rfl⟩
  · obtain ⟨r, hr, hR⟩ := key
    refine ⟨r, hR, ?_⟩
    unfold tLOOP13
    rw [T.denV]
    have hi : denL [.node [hfs hs0], tks ts, I x, I y, I far, d5, d6, wds ws, .bool true, d9, d10, .node [I r0, I r1, I r2], d12, d13, .bool inn, d15, I ((ts.length : Int) + 1)] [.v 5, .v 6, .c (.int .i64 (-1)), .c (.int .i64 (-1)), .c (.int .i64 (0)), .cell (.v 0) 0] = [I qx, I qy, I (-1), I (-1), I 0, hfs hs0] := by
      rw [h5, h6]
      simp [denL, E.den, D.cells]
    rw [hi, hr]
  · rintro i ds hi ⟨px, py, may, sure, hs, hI, rfl⟩
    have hi' : (i : Int) < (ts.length : Int) + 1 := by omega
    rcases round13 (d0 := .node [hfs hs0]) (d5 := d5) (d6 := d6) (d9 := d9) (d10 := d10) (d12 := d12) (d13 := d13) (d15 := d15) (d16 := I ((ts.length : Int) + 1)) (d23 := .bool true) (ws := ws) (show i ≤ ts.length by omega) hl ht ha hok herr hI with e | ⟨px', py', may', sure', hs', hI', e⟩
    · left
      refine ⟨0, [.bool true], ?_, .inl rfl⟩
      unfold tL13
      simp only [I, hfs, tks, wds] at e ⊢
      simp [T.denV, denVK, denL, E.den, D.cells, D.den1, binD, hi', e]
      simp [outsL13, outOf, denL, E.den]
    · right
      refine ⟨_, ?_, px', py', may', sure', hs', hI', rfl⟩
      unfold tL13
      simp only [I, hfs, tks, wds] at e ⊢
      simp [T.denV, denVK, denL, E.den, D.cells, D.den1, binD, hi', e]
      simp [outsL13, outOf, denL, E.den, wrapN (show i < 9223372036854775807 by omega)]
  · rintro ds ⟨px, py, may, sure, hs, hI, rfl⟩
    have hg := hI.go ts.length rfl
    rw [List.drop_length] at hg
    refine ⟨1, [I may, I sure], ?_, .inr ⟨⟨hs, may, sure⟩, hg.symm, rfl⟩⟩
    unfold tL13
    simp [T.denV, denVK, denL, E.den, D.cells, D.den1, binD, outsL13, outOf]
end Go.Q
