/- Guide: a round on the way, and the way. -/
import Derived.Test.YtpammdlgoeoeaaaGt2
set_option linter.unusedVariables false
set_option linter.unusedSimpArgs false
namespace Go.Q
open Go.V
def tA : T :=
     .blk ( tA0) [([.v 26], 0), ([.c (.bool false)], 0), ([.c (.bool false)], 0)] [.blk ( tA1) [([.v 28, .v 23], 0), ([], 1), ([.v 16, .v 17], 0)] [tTAIL,
       .leaf 6]]
def outsL : List (List E × Option Nat) := [([.v 19], some 0), ([.v 19, .v 20, .v 23, .v 21, .v 22], none), ([], some 1)]
def tBODY : T :=
   .op (.bin .lss) [.v 15, .v 12] <|
   .ite (.v 18) (.blk (
tA) outsB [.leaf 0,
     .op (.bin .add) [.v 15, .c (.int .i64 (1))] <|
     .leaf 1]) <|
   .leaf 2
def tLOOP : T := .loop [.v 1, .v 2, .c (.int .i64 (0)), .cell (.v 0) 0, .c (.list [])] tBODY outsL [.leaf 2, .leaf 3]
theorem F7_eq2 : F7 = ⟨[(some 1), none, none, none, none, none, none],
 .call 14 [] <|
 .op (.un .not) [.v 7] <|
 .ite (.v 8) (.leaf 0) <|
 .blk (
  .call 34 [.node [.cell (.v 0) 0]] <|
  .op (.bin .neq) [.v 9, .c (.int .i64 (0))] <|
  .ite (.v 10) (.leaf 0) <|
  .call 40 [.v 1, .v 2] <|
  .op (.un .not) [.v 11] <|
  .ite (.v 12) (.leaf 1) <|
  .call 41 [.node [.cell (.v 0) 0], .v 1, .v 2] <|
  .op (.un .not) [.v 13] <|
  .ite (.v 14) (.leaf 2) <|
  .op .len [.v 3] <|
  .op (.bin .gtr) [.v 15, .c (.int .i64 (10))] <|
  .ite (.v 16) (.leaf 3) <|
  .op .len [.v 4] <|
  .op (.bin .gtr) [.v 17, .c (.int .i64 (60))] <|
  .ite (.v 18) (.leaf 4) <|
  .op (.bin .lss) [.v 6, .c (.int .i64 (0))] <|
  .ite (.v 19) (.leaf 5) <|
  .op (.bin .gtr) [.v 6, .c (.int .i64 (10000000))] <|
  .leaf 6) [([.c (.bool true)], 0), ([.c (.bool true)], 0), ([.c (.bool true)], 0), ([.c (.bool true)], 0), ([.c (.bool true)], 0), ([.c (.bool true)], 0), ([.v 20], 0)] [.ite (.v 9) (.leaf 1) <|
  .op .len [.v 3] <|
  .op .len [.v 4] <|
  .op (.mx true) [.v 10, .v 11] <|
  tLOOP],
 [.c (.bool false), .v 7, .v 13, .v 7], .e⟩ := rfl
theorem cap81' {n : Nat} (h : n < 1000000) : (n + 1) * 81 ≤ 1099511627776 := by omega
theorem Inv7.weak {n m i j : Nat} {s : St7} (h : Inv7 n i s) (h1 : n ≤ m) (h2 : i ≤ j) : Inv7 m j s :=
  ⟨h.ok, h.pl, by have := h.x; omega, by have := h.y; omega, h.lk, by have := h.l1; omega⟩
set_option maxHeartbeats 6400000 in
theorem round7 {d0 d1 d2 d8 d9 d10 d11 d12 d18 : D} {ls : List Lk} {ts : List Tk} {ws : List Wd} {far : Int} {i : Nat} {s : St7} (hi : i < 60) (h : Inv7 (min i ls.length) i s)
    (hn : ls.length ≤ 10) (hf : 0 ≤ far ∧ far ≤ 10000000) (ht : ts.length ≤ 60) :
    outOf outsB (tA.denV (evL FN) [d0, d1, d2, lks ls, tks ts, wds ws, I far, .bool true, d8, d9, d10, d11, d12, I s.x, I s.y, I i, hfs s.hs, lks s.tl, d18]) = some (0, [.bool true]) ∨
    ∃ s', Inv7 (min (i + 1) ls.length) (i + 1) s' ∧ outOf outsB (tA.denV (evL FN) [d0, d1, d2, lks ls, tks ts, wds ws, I far, .bool true, d8, d9, d10, d11, d12, I s.x, I s.y, I i, hfs s.hs, lks s.tl, d18]) = some (1, [I s'.x, I s'.y, hfs s'.hs, lks s'.tl]) := by
  have hx := h.x
  have hy := h.y
  have hl1 := h.l1
  have same : ∀ d19, tA.denV (evL FN) [d0, d1, d2, lks ls, tks ts, wds ws, I far, .bool true, d8, d9, d10, d11, d12, I s.x, I s.y, I i, hfs s.hs, lks s.tl, d18] = tTAIL.denV (evL FN) [d0, d1, d2, lks ls, tks ts, wds ws, I far, .bool true, d8, d9, d10, d11, d12, I s.x, I s.y, I i, hfs s.hs, lks s.tl, d18, d19, hfs s.hs, lks s.tl] →
      outOf outsB (tA.denV (evL FN) [d0, d1, d2, lks ls, tks ts, wds ws, I far, .bool true, d8, d9, d10, d11, d12, I s.x, I s.y, I i, hfs s.hs, lks s.tl, d18]) = some (0, [.bool true]) ∨
      ∃ s', Inv7 (min (i + 1) ls.length) (i + 1) s' ∧ outOf outsB (tA.denV (evL FN) [d0, d1, d2, lks ls, tks ts, wds ws, I far, .bool true, d8, d9, d10, d11, d12, I s.x, I s.y, I i, hfs s.hs, lks s.tl, d18]) = some (1, [I s'.x, I s'.y, hfs s'.hs, lks s'.tl]) := by
    intro d19 e
    rw [e]
    exact tail7 hi (h.weak (by omega) (by omega)) hx hy (by omega) hf ht
  by_cases q1 : i < ls.length
  rotate_left
  · have q1' : ¬ (i : Int) < ls.length := by omega
    apply same (.bool false)
    simp [tA, tA0, tA1, T.denV, denVK, denL, E.den, D.cells, hfs, lks, tks, wds, D.den1, binD, unD, outOf, q1']
  have q1' : (i : Int) < ls.length := by omega
  have hg := idx_nat q1
  obtain ⟨l, hl⟩ : ∃ l, ls[i] = l := ⟨_, rfl⟩
  have h42 := e42 l
  cases q2 : l.ok <;> rw [q2] at h42
  · apply same (.bool false)
    simp only [Lk.c, I, U8] at h42 hg
    simp [tA, tA0, tA1, T.denV, denVK, denL, E.den, D.cells, hfs, lks, tks, wds, D.den1, binD, unD, outOf, q1, q1', hg, hl, partD, Lk.c, h42]
  have h43 := e43 (x := s.x) (y := s.y) q2 (by omega) (by omega)
  cases q3 : seenS l s.x s.y <;> rw [q3] at h43
  · apply same (.bool false)
    simp only [Lk.c, I, U8] at h42 hg h43
    simp [tA, tA0, tA1, T.denV, denVK, denL, E.den, D.cells, hfs, lks, tks, wds, D.den1, binD, unD, outOf, q1, q1', hg, hl, partD, Lk.c, h42, h43]
  have hsn := seen_hv q2 q3
  obtain ⟨hin, hlen⟩ := okA_in h.ok
  have h15 := e15 s.hs l (by omega)
  have s1 := shal_node_hfs (n := 3) (hs := s.hs)
  have hcap : (s.tl.length + 1 + 1) * 81 ≤ 1099511627776 := cap81' (by omega)
  have hlk : ∀ m ∈ s.tl ++ [l], m.ok = true ∧ ∀ k ∈ m.hv, k.a * s.x + k.b * s.y ≤ k.c := by
    intro m hm
    rcases List.mem_append.1 hm with hm | hm
    · exact h.lk m hm
    · rw [List.mem_singleton] at hm
      subst hm
      exact ⟨q2, hsn⟩
  have hpl2 : (pt s.x s.y).inA (s.hs ++ l.hv) := ⟨by simp [pt], fun k hk => by
    rcases List.mem_append.1 hk with hk | hk
    · exact h.pl.2 k hk
    · have := hsn k hk
      simp only [pt, Int.mul_one]
      exact this⟩
  have hS2 : Sided (s.hs ++ l.hv) := (okA_sided h.ok).mono fun x hx => by simp [hx]
  have hp2 : hasPl (s.hs ++ l.hv) = true := (hasPl_sided hS2).2 ⟨_, hpl2⟩
  by_cases q4 : 40 < (s.hs ++ l.hv).length
  · have e : seeS s.hs l = ([], 9) := by
      unfold seeS
      rw [h.ok, q2, if_neg (by simp), if_neg (by simp), if_pos q4]
    rw [e] at h15
    have t := tail7 (d0 := d0) (d1 := d1) (d2 := d2) (d8 := d8) (d9 := d9) (d10 := d10) (d11 := d11) (d12 := d12) (d16 := hfs s.hs) (d17 := lks s.tl) (d18 := d18) (d19 := .bool true) (ls := ls) (ws := ws) (n := min (i + 1) ls.length) (s := ⟨s.x, s.y, s.hs, s.tl ++ [l]⟩) hi
      ⟨h.ok, h.pl, by simp only; omega, by simp only; omega, hlk, by simp only [List.length_append, List.length_cons, List.length_nil]; omega⟩ hx hy (by omega) hf ht
    have e2 : tA.denV (evL FN) [d0, d1, d2, lks ls, tks ts, wds ws, I far, .bool true, d8, d9, d10, d11, d12, I s.x, I s.y, I i, hfs s.hs, lks s.tl, d18] = tTAIL.denV (evL FN) [d0, d1, d2, lks ls, tks ts, wds ws, I far, .bool true, d8, d9, d10, d11, d12, I s.x, I s.y, I i, hfs s.hs, lks s.tl, d18, .bool true, hfs s.hs, lks (s.tl ++ [l])] := by
      have sN : D.shal 1 (.list []) = true := rfl
      simp only [Lk.c, I, U8, hfs, List.map_nil] at h42 hg h43 h15 s1
      simp [tA, tA0, tA1, T.denV, denVK, denL, E.den, D.cells, hfs, lks, tks, wds, D.den1, binD, unD, outOf, q1, q1', hg, hl, partD, Lk.c, h42, h43, h15, s1, sN, hcap, fillD, D.flat, D.flat0]
    rw [e2]
    exact t
  · have e : seeS s.hs l = (s.hs ++ l.hv, 0) := by
      unfold seeS
      rw [h.ok, q2, if_neg (by simp), if_neg (by simp), if_neg q4, hp2, if_neg (by simp)]
    rw [e] at h15
    rw [List.length_append] at q4
    have oX := okA_append h.ok (by omega) (Lk.hv_ok q2)
    have t := tail7 (d0 := d0) (d1 := d1) (d2 := d2) (d8 := d8) (d9 := d9) (d10 := d10) (d11 := d11) (d12 := d12) (d16 := hfs s.hs) (d17 := lks s.tl) (d18 := d18) (d19 := .bool true) (ls := ls) (ws := ws) (n := min (i + 1) ls.length) (s := ⟨s.x, s.y, s.hs ++ l.hv, s.tl ++ [l]⟩) hi
      ⟨oX, hpl2, by simp only; omega, by simp only; omega, hlk, by simp only [List.length_append, List.length_cons, List.length_nil]; omega⟩ hx hy (by omega) hf ht
    have e2 : tA.denV (evL FN) [d0, d1, d2, lks ls, tks ts, wds ws, I far, .bool true, d8, d9, d10, d11, d12, I s.x, I s.y, I i, hfs s.hs, lks s.tl, d18] = tTAIL.denV (evL FN) [d0, d1, d2, lks ls, tks ts, wds ws, I far, .bool true, d8, d9, d10, d11, d12, I s.x, I s.y, I i, hfs s.hs, lks s.tl, d18, .bool true, hfs (s.hs ++ l.hv), lks (s.tl ++ [l])] := by
      have s2 := shal_hfs (n := 0) (hs := s.hs ++ l.hv)
      generalize s.hs ++ l.hv = X at *
      simp only [Lk.c, I, U8, hfs, List.map_nil] at h42 hg h43 h15 s1 s2
      simp [tA, tA0, tA1, T.denV, denVK, denL, E.den, D.cells, hfs, lks, tks, wds, D.den1, binD, unD, outOf, q1, q1', hg, hl, partD, Lk.c, h42, h43, h15, s1, s2, hcap, fillD, D.flat, D.flat0]
    rw [e2]
    exact t
end Go.Q
