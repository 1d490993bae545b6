/- The heaviest load that is borne, plain. -/
import Derived.Test.YtafdcbdbllpcnaaRefA
import Derived.Test.YtafdcbdbllpcnaaLeafQ
import Derived.Test.YtafdcbdbllpcnaaDaysL
import Derived.Test.YtafdcbdbllpcnaaLeafI
import Derived.Test.YtafdcbdbllpcnaaMtCl
import Derived.Laws.MakeOwn
import Derived.Test.YtafdcbdbllpcnaaBigT
set_option linter.unusedVariables false
set_option linter.unusedSimpArgs false
namespace Go.Proofs.Ytafdcbdbllpcnaa

/-- A day, and days, with another load. -/
def ldM (x : Int) (m : Mr) : Mr := ⟨m.hours, x, m.heat, m.grass, m.drinks⟩
def ldS (x : Int) (ms : List Mr) : List Mr := ms.map (ldM x)
theorem ldS_len (x : Int) (ms : List Mr) : (ldS x ms).length = ms.length := by simp [ldS]
theorem mdS_ld {x : Int} {ms : List Mr} {k : Nat} (hk : k < ms.length) : mdS (ldS x ms) k = ldM x (mdS ms k) := by
  simp [mdS, ldS, hk]
theorem ldM_ok {x : Int} {m : Mr} (h : okM m = true) (h1 : 0 ≤ x) (h2 : x ≤ 1000000) : okM (ldM x m) = true := by
  simp only [okM, inB, Bool.and_eq_true, decide_eq_true_eq] at h
  obtain ⟨⟨⟨⟨⟨a1, a2⟩, -, -⟩, a5⟩, a6⟩, a7⟩ := h
  simp [okM, ldM, inB, a1, a2, a5, a6, a7, h1, h2]
theorem ldS_ok {x : Int} {ms : List Mr} (h : ms.all okM = true) (h1 : 0 ≤ x) (h2 : x ≤ 1000000) : (ldS x ms).all okM = true := by
  rw [List.all_eq_true] at h ⊢
  intro m hm
  obtain ⟨m', hm', rfl⟩ := List.mem_map.1 hm
  exact ldM_ok (h m' hm') h1 h2
/-- On day k the animal lives for sure, and if it walks it carries the load for sure. -/
def okDay (b : Br) (c : Cm) (ms : List Mr) (x : Int) (k : Nat) : Bool := decide (fatK b c ms k = 0) && (decide (¬ 0 < (mdS ms k).hours) || decide (x ≤ (carS b (mornC b c ms k)).1))
def bearS (b : Br) (c : Cm) (ms : List Mr) (x : Int) : Bool := (List.range ms.length).all (okDay b c (ldS x ms) x)
theorem bearS_yes {b : Br} {c : Cm} {ms : List Mr} {x : Int} (h : ∀ k, k < ms.length → okDay b c (ldS x ms) x k = true) : bearS b c ms x = true := by
  unfold bearS
  rw [List.all_eq_true]
  exact fun k hk => h k (List.mem_range.1 hk)
theorem bearS_no {b : Br} {c : Cm} {ms : List Mr} {x : Int} {k : Nat} (hk : k < ms.length) (h : okDay b c (ldS x ms) x k = false) : bearS b c ms x = false := by
  unfold bearS
  rw [List.all_eq_false]
  exact ⟨k, List.mem_range.2 hk, by rw [h]; simp⟩
theorem okDay_yes {b : Br} {c : Cm} {ms : List Mr} {x : Int} {k : Nat} (h1 : fatK b c ms k = 0) (h2 : 0 < (mdS ms k).hours → x ≤ (carS b (mornC b c ms k)).1) : okDay b c ms x k = true := by
  unfold okDay
  simp only [Bool.and_eq_true, Bool.or_eq_true, decide_eq_true_eq]
  refine ⟨h1, ?_⟩
  by_cases h : 0 < (mdS ms k).hours
  · exact .inr (h2 h)
  · exact .inl h
theorem okDay_fate {b : Br} {c : Cm} {ms : List Mr} {x : Int} {k : Nat} (h1 : fatK b c ms k ≠ 0) : okDay b c ms x k = false := by
  unfold okDay
  simp [h1]
theorem okDay_load {b : Br} {c : Cm} {ms : List Mr} {x : Int} {k : Nat} (h1 : 0 < (mdS ms k).hours) (h2 : (carS b (mornC b c ms k)).1 < x) : okDay b c ms x k = false := by
  unfold okDay
  have h3 : ¬ x ≤ (carS b (mornC b c ms k)).1 := by omega
  simp [h1, h3]
theorem okDay_lives {b : Br} {c : Cm} {ms : List Mr} {x : Int} {k : Nat} (h : okDay b c ms x k = true) : dieK b c ms k = false := by
  unfold okDay at h
  simp only [Bool.and_eq_true, decide_eq_true_eq] at h
  cases hd : dieK b c ms k with
  | false => rfl
  | true => have := fatK_dies hd; omega

/-- The greatest number from lo to hi for which p holds, by halves. -/
def binGo (p : Int → Bool) : Nat → Int → Int → Int
  | 0, lo, _ => lo
  | n + 1, lo, hi => if lo < hi then (if p ((lo + hi + 1) / 2) = true then binGo p n ((lo + hi + 1) / 2) hi else binGo p n lo ((lo + hi + 1) / 2 - 1)) else lo
theorem binGo_yes {p : Int → Bool} {n : Nat} {lo hi m : Int} (h : lo < hi) (hm : m = (lo + hi + 1) / 2) (hp : p m = true) : binGo p (n + 1) lo hi = binGo p n m hi := by
  subst hm; rw [binGo, if_pos h, if_pos hp]
theorem binGo_no {p : Int → Bool} {n : Nat} {lo hi m : Int} (h : lo < hi) (hm : m = (lo + hi + 1) / 2) (hp : p m = false) : binGo p (n + 1) lo hi = binGo p n lo (m - 1) := by
  subst hm; rw [binGo, if_pos h, if_neg (by rw [hp]; simp)]
theorem binGo_end {p : Int → Bool} {n : Nat} {lo hi : Int} (h : ¬ lo < hi) : binGo p n lo hi = lo := by
  cases n with
  | zero => rfl
  | succ n => rw [binGo, if_neg h]
/-- The heaviest load, or the error. -/
def heaS (b : Br) (c : Cm) (ms : List Mr) (e : Int) : Int × Int := if e = 0 then (if bearS b c ms 0 = true then (binGo (bearS b c ms) 1000000 0 1000000, 0) else (0, 13)) else (0, e)
end Go.Proofs.Ytafdcbdbllpcnaa
/- Contract of package camel's bears. -/
namespace Go.Proofs.Ytafdcbdbllpcnaa
open Go.RowKit Go.Shelf
open Go.Proofs

attribute [local go_sem ↓] exec36l exec112l exec36s exec112s exec31s run_min2 run_max2
attribute [local go_sem] load36 load112 store36 store112 store31 build112 rowOf_alloc rowOf_drew setRow_alloc one_int one_bool run_min4
attribute [local go_sem ↓] exec126s exec45s
attribute [local go_sem] store126 store45 build126 load112at cut_mo cut_ev rowOf_setCell_if Option.map_some
attribute [local go_sem] Oper.semAt_some

attribute [local irreducible] wpQuiet
theorem carries_x (b : Br) (c : Cm) (s : Int × Int) (hs : carS b c = s) (w : World) (hb : BdB b) (hc : BdC b c) :
    Calls Try.prog 69 #[.agg #[.int .i64 b.full, .int .i64 b.fed, .int .i64 b.rest.1, .int .i64 b.rest.2, .int .i64 b.heat.1, .int .i64 b.heat.2, .int .i64 b.toil.1, .int .i64 b.toil.2, .int .i64 b.burn.1, .int .i64 b.burn.2, .int .i64 b.rub.1, .int .i64 b.rub.2, .int .i64 b.milk.1, .int .i64 b.milk.2, .int .i64 b.heal, .int .i64 b.strong.1, .int .i64 b.strong.2, .int .i64 c.water.1, .int .i64 c.water.2, .int .i64 c.fat.1, .int .i64 c.fat.2, .int .i64 c.sore.1, .int .i64 c.sore.2, .bool c.milks]] w fun e w' => e = .returned (.agg #[.int .i64 s.1, .int .i64 s.2]) ∧ Below w.heap.size w w' := by
  subst hs; exact carries_any b c w hb hc

theorem info45y : (Try.prog.info? 45).map (fun i => (i.zero, i.size, i.bytes)) = some (some (.agg #[.int .i64 0, .int .i64 0, .int .i64 0, .int .i64 0, .int .i64 0, .int .i64 0, .int .i64 0, .int .i64 0]), 8, 64) := by kernel_rfl
/-- The copy of the days with another load: a store of one of them. -/
theorem store45at {W : World} {g k n : Nat} {cur : List Value} {vs : List Value} (hr : rowOf W g = some cur.toArray) (hv : vs.length = 8) (hk : k < n) (hn : cur.length = n * 8) (h1 : ∀ v ∈ vs, v.oneCell' = true) :
    (wideStore 45 (.pointer (some ⟨g, k * 8, none⟩)) (.agg vs.toArray)).run Try.prog W = .ok .skip (W.setRow g (cur.take (k * 8) ++ vs ++ cur.drop (k * 8 + 8)).toArray) := by
  obtain ⟨t, hg⟩ := rowOf_some hr
  have hst := run_storeCells_at Try.prog g (k * 8) t vs 0 cur.toArray W hg (by simp; omega) h1
  have hq := info45
  cases hq' : Try.prog.info? 45 with
  | none => simp [hq'] at hq
  | some i =>
    have hs : i.size = 8 := by simpa [hq'] using hq
    have h3 : (storeVar 45 ⟨g, k * 8, none⟩ (.agg vs.toArray)).run Try.prog W = .ok () (W.setRow g (cur.take (k * 8) ++ vs ++ cur.drop (k * 8 + 8)).toArray) := by
      simp [storeVar, sizeOf, typeInfo, hq', Value.cells, hs, hv] at hst ⊢
      exact hst
    simp only [wideStore, Instr.storeAt, Instr.sureAddr, Sem.run_bind, Sem.run_pure, Result.andThen_ok, h3]

theorem ld_take {x : Int} {ms : List Mr} {k : Nat} (hk : k < ms.length) {rest : List Value} (hr : rest.length = (ms.length - k) * 8) :
    (((ldS x ms).take k).flatMap marCells ++ rest).take (k * 8) ++ marCells (ldM x (mdS ms k)) ++ (((ldS x ms).take k).flatMap marCells ++ rest).drop (k * 8 + 8) = ((ldS x ms).take (k + 1)).flatMap marCells ++ rest.drop 8 := by
  have hl : (((ldS x ms).take k).flatMap marCells).length = k * 8 := by rw [flat_len marCells 8 mar_len, List.length_take, ldS_len]; congr 1; omega
  have hlen : k < (ldS x ms).length := by rw [ldS_len]; exact hk
  have e : (ldS x ms).take (k + 1) = (ldS x ms).take k ++ [ldM x (mdS ms k)] := by
    rw [List.take_add_one, List.getElem?_eq_getElem hlen]
    have := mdS_get hlen
    rw [mdS_ld hk] at this
    rw [this]; rfl
  rw [List.take_left' hl, List.drop_append, hl, e, List.flatMap_append, List.drop_eq_nil_of_le (by omega)]
  simp

theorem marches_row {W : World} {g : Nat} {ms : List Mr} (h : rowOf W g = some (ms.flatMap marCells).toArray) : MarchesAt W g 0 ms := by
  intro k hk
  have key : ∀ i v, (marCells ms[k])[i]? = some v → W.cell? ⟨g, 0 + k * 8 + i, none⟩ = some v := by
    intro i v hv
    have hi : i < 8 := (List.getElem?_eq_some_iff.1 hv).1
    rw [(cell_of_rowOf h).1, ← hv, ← flat_at marCells 8 mar_len ms k i hk hi, List.getElem?_toArray, Nat.zero_add]
  exact ⟨key 0 _ rfl, key 1 _ rfl, key 2 _ rfl, key 3 _ rfl, key 4 _ rfl, key 5 _ rfl, key 6 _ rfl, key 7 _ rfl⟩

theorem rowOf_setCell_k {w : World} {g off : Nat} {cs : Array Value} (h : rowOf w g = some cs) (v : Value) : rowOf (w.setCell ⟨g, off, none⟩ v) g = some (cs.setIfInBounds off v) := by
  obtain ⟨t, hg⟩ := rowOf_some h
  rw [setCell_eq_setRow w g off cs t (0, 0) v hg]
  exact (stored_setRow h _).row
theorem loadVar_c {t : TypeId} {d : TypeDesc} (hu : Try.prog.underlying t = some d) (hd : (match d with | .struct _ | .array _ _ => true | _ => false) = false) {W : World} {g : Nat} {v : Value} (h : rowOf W g = some #[v]) : (loadVar t ⟨g, 0, none⟩).run Try.prog W = .ok v W := by
  have hc : W.cell? ⟨g, 0, none⟩ = some v := (cell_of_rowOf h).1 0
  have hagg : (isAgg t).run Try.prog W = .ok false W := by
    unfold isAgg
    rw [Sem.run_bind, run_underlying hu W]
    cases d <;> simp_all
  have hl := run_load (P := Try.prog) (w := W) ⟨g, 0, none⟩ .plain
  rw [hc] at hl
  simp only [loadVar, Sem.run_bind, hagg, Result.andThen_ok]
  exact hl
theorem results_cell1 {fn : Func} {p : Tmp} (h : fn.results = #[.cell p 4]) {tmps : Array Value} {W : World} {g : Nat} {v : Value} (h1 : tmps.getD p undef = .pointer (some ⟨g, 0, none⟩)) (r1 : rowOf W g = some #[v]) : (results fn tmps).run Try.prog W = .ok v W := by
  have e1 : tmps[p]?.getD undef = .pointer (some ⟨g, 0, none⟩) := by simpa using h1
  simp [results, h, e1, asAddr, loadVar_c Try.underlying4 rfl r1]

set_option maxRecDepth 100000 in
set_option maxHeartbeats 8000000 in
theorem bears_any (b : Br) (c : Cm) (a : Option Addr) (cap n : Nat) (ms : List Mr) (x : Int) (r : Bool) (hr : bearS b c ms x = r) (w : World) (hn : n = ms.length) (h : DaysIn w a cap ms) (h6 : ms.length ≤ 60) (hb : BdB b) (hc : BdC b c) (hall : ms.all okM = true) (hx1 : 0 ≤ x) (hx2 : x ≤ 1000000) :
    Calls Try.prog 61 #[.agg #[.int .i64 b.full, .int .i64 b.fed, .int .i64 b.rest.1, .int .i64 b.rest.2, .int .i64 b.heat.1, .int .i64 b.heat.2, .int .i64 b.toil.1, .int .i64 b.toil.2, .int .i64 b.burn.1, .int .i64 b.burn.2, .int .i64 b.rub.1, .int .i64 b.rub.2, .int .i64 b.milk.1, .int .i64 b.milk.2, .int .i64 b.heal, .int .i64 b.strong.1, .int .i64 b.strong.2, .int .i64 c.water.1, .int .i64 c.water.2, .int .i64 c.fat.1, .int .i64 c.fat.2, .int .i64 c.sore.1, .int .i64 c.sore.2, .bool c.milks], .int .i64 x, .slice a n cap] w fun e w' => e = .returned (.bool r) ∧ Below w.heap.size w w' := by
  have HR := Lib.hid hr
  have HN := Lib.hid hn
  have HD := Lib.hid h
  have HB := Lib.hid hb
  have HC := Lib.hid hc
  have HA := Lib.hid hall
  have hn60 : (n : Int) ≤ 60 := by omega
  have HALL := Lib.hid (ldS_ok hall hx1 hx2)
  obtain ⟨i0, hi0, hz0, hz1, hz2⟩ := info_parts info45y
  refine (callsIn_wide (n := 0)).1 ?_
  refine callsIn_of_wp_marks Try.func61 rfl trivial ?_ rfl
  simp only [Try.ntmps61, List.size_toArray, List.length_cons, List.length_nil, Nat.reduceAdd, Nat.reduceSub, Array.replicate_succ, Array.replicate_zero, List.push_toArray, List.append_toArray, List.nil_append, List.cons_append]
  have hmk := run_make (P := Try.prog) (((w.alloc (.cells #[.int .i64 b.full, .int .i64 b.fed, .int .i64 b.rest.1, .int .i64 b.rest.2, .int .i64 b.heat.1, .int .i64 b.heat.2, .int .i64 b.toil.1, .int .i64 b.toil.2, .int .i64 b.burn.1, .int .i64 b.burn.2, .int .i64 b.rub.1, .int .i64 b.rub.2, .int .i64 b.milk.1, .int .i64 b.milk.2, .int .i64 b.heal, .int .i64 b.strong.1, .int .i64 b.strong.2, .int .i64 c.water.1, .int .i64 c.water.2, .int .i64 c.fat.1, .int .i64 c.fat.2, .int .i64 c.sore.1, .int .i64 c.sore.2, .bool c.milks] 112)).alloc (.cells #[.int .i64 x] 3)).alloc (.cells #[.bool false] 4)) 47 45 i0 _ Try.underlying47 hi0 hz0 .i64 .i64 (n : Int) (n : Int) (by omega) (by omega) (by rw [hz2]; omega) (by omega)
  obtain ⟨cur, hcur⟩ : ∃ cur, madeCells (Value.agg #[.int .i64 0, .int .i64 0, .int .i64 0, .int .i64 0, .int .i64 0, .int .i64 0, .int .i64 0, .int .i64 0]).cells ((n : Int).toNat * i0.size) = cur := ⟨_, rfl⟩
  have hcs : cur.toList.length = n * 8 := by rw [← hcur, Array.length_toList, size_madeCells, hz1]; rfl
  rw [hcur] at hmk
  simp only [World.size_alloc, Int.toNat_natCast] at hmk
  clear hi0 hz0 hz1 hz2 hcur hr hn h hb hc hall
  gi_wp2_with (fail)
  gi_loopw [17] (fun i wr => ∃ k : Nat, k ≤ n ∧ i = .int .i64 (k : Int) ∧ rowOf wr (w.heap.size) = some #[.int .i64 b.full, .int .i64 b.fed, .int .i64 b.rest.1, .int .i64 b.rest.2, .int .i64 b.heat.1, .int .i64 b.heat.2, .int .i64 b.toil.1, .int .i64 b.toil.2, .int .i64 b.burn.1, .int .i64 b.burn.2, .int .i64 b.rub.1, .int .i64 b.rub.2, .int .i64 b.milk.1, .int .i64 b.milk.2, .int .i64 b.heal, .int .i64 b.strong.1, .int .i64 b.strong.2, .int .i64 c.water.1, .int .i64 c.water.2, .int .i64 c.fat.1, .int .i64 c.fat.2, .int .i64 c.sore.1, .int .i64 c.sore.2, .bool c.milks] ∧ rowOf wr (w.heap.size + 1) = some #[.int .i64 x] ∧ rowOf wr (w.heap.size + 1 + 1) = some #[.bool false] ∧ (∃ rest : List Value, rest.length = (n - k) * 8 ∧ rowOf wr (w.heap.size + 1 + 1 + 1) = some (((ldS x ms).take k).flatMap marCells ++ rest).toArray) ∧ Below w.heap.size w wr ∧ w.heap.size + 1 + 1 + 1 + 1 ≤ wr.heap.size)
    (fun i _ => n - (intOf i).toNat)
  case atStart =>
    refine ⟨0, Nat.zero_le _, rfl, ?_, ?_, ?_, ⟨cur.toList, by simpa using hcs, ?_⟩, by go_grown, by simp⟩
    · exact (by repeat (first | with_reducible assumption | with_reducible apply row_here0 | with_reducible apply row_here1 | with_reducible apply row_here2 | with_reducible apply row_here3 | with_reducible apply row_here4 | with_reducible apply row_here5 | with_reducible apply row_here6 | with_reducible apply rowSkip))
    · exact (by repeat (first | with_reducible assumption | with_reducible apply row_here0 | with_reducible apply row_here1 | with_reducible apply row_here2 | with_reducible apply row_here3 | with_reducible apply row_here4 | with_reducible apply row_here5 | with_reducible apply row_here6 | with_reducible apply rowSkip))
    · exact (by repeat (first | with_reducible assumption | with_reducible apply row_here0 | with_reducible apply row_here1 | with_reducible apply row_here2 | with_reducible apply row_here3 | with_reducible apply row_here4 | with_reducible apply row_here5 | with_reducible apply row_here6 | with_reducible apply rowSkip))
    · have e0 : (List.flatMap marCells (List.take 0 (ldS x ms)) ++ cur.toList).toArray = cur := by simp
      rw [e0]; exact (by repeat (first | with_reducible assumption | with_reducible apply row_here0 | with_reducible apply row_here1 | with_reducible apply row_here2 | with_reducible apply row_here3 | with_reducible apply row_here4 | with_reducible apply row_here5 | with_reducible apply row_here6 | with_reducible apply rowSkip))
  case round =>
    clear hmk
    obtain ⟨k, hk, rfl, hr0, hr1, hr2, ⟨rest, hrl, hr3⟩, hBl, hz4⟩ := hrel
    by_cases hlt : k < n
    · obtain ⟨g, off, rfl, hMs, hg⟩ : ∃ g off, a = some ⟨g, off, none⟩ ∧ MarchesAt w g off ms ∧ g < w.heap.size := by
        rcases HD.out with ⟨_, _, h⟩ | h
        · subst h; have : n = 0 := HN.out; omega
        · exact h
      have hkm : k < ms.length := by have := HN.out; omega
      have hm1 := march_below hBl hg (hMs k hkm)
      rw [mdS_get hkm] at hm1
      obtain ⟨m0, m1, m2, m3, m4, m5, m6, m7⟩ := hm1
      have hlt' : (k : Int) < (n : Int) := by omega
      have hst : (wideStore 45 (.pointer (some ⟨w.heap.size + 1 + 1 + 1, k * 8, none⟩)) (.agg #[.int .i64 (mdS ms k).hours, .int .i64 x, .int .i64 (mdS ms k).heat.1, .int .i64 (mdS ms k).heat.2, .int .i64 (mdS ms k).grass.1, .int .i64 (mdS ms k).grass.2, .int .i64 (mdS ms k).drinks.1, .int .i64 (mdS ms k).drinks.2])).run Try.prog (wr.alloc (.cells #[.int .i64 (mdS ms k).hours, .int .i64 x, .int .i64 (mdS ms k).heat.1, .int .i64 (mdS ms k).heat.2, .int .i64 (mdS ms k).grass.1, .int .i64 (mdS ms k).grass.2, .int .i64 (mdS ms k).drinks.1, .int .i64 (mdS ms k).drinks.2] 45)) = .ok .skip ((wr.alloc (.cells #[.int .i64 (mdS ms k).hours, .int .i64 x, .int .i64 (mdS ms k).heat.1, .int .i64 (mdS ms k).heat.2, .int .i64 (mdS ms k).grass.1, .int .i64 (mdS ms k).grass.2, .int .i64 (mdS ms k).drinks.1, .int .i64 (mdS ms k).drinks.2] 45)).setRow (w.heap.size + 1 + 1 + 1) (((ldS x ms).take (k + 1)).flatMap marCells ++ rest.drop 8).toArray) := by
        have h1 := store45at (W := (wr.alloc (.cells #[.int .i64 (mdS ms k).hours, .int .i64 x, .int .i64 (mdS ms k).heat.1, .int .i64 (mdS ms k).heat.2, .int .i64 (mdS ms k).grass.1, .int .i64 (mdS ms k).grass.2, .int .i64 (mdS ms k).drinks.1, .int .i64 (mdS ms k).drinks.2] 45))) (n := n) (rowSkip hr3) (vs := marCells (ldM x (mdS ms k))) rfl hlt (by rw [List.length_append, hrl, flat_len marCells 8 mar_len, List.length_take, ldS_len, Nat.min_eq_left (by omega), ← Nat.add_mul]; congr 1; omega) (fun v hv => mar_one (ms := [ldM x (mdS ms k)]) v (by simpa using hv))
        rw [ld_take hkm (by rw [hrl, HN.out])] at h1
        exact h1
      obtain ⟨r0, q0, g0, z0⟩ := row_facts hr0
      obtain ⟨r1, q1, g1, z1⟩ := row_facts hr1
      gi_wp2_with (fail)
      go_roundw
      case rel =>
        have hS := stored_setRow (rowSkip (o := .cells #[.int .i64 (mdS ms k).hours, .int .i64 x, .int .i64 (mdS ms k).heat.1, .int .i64 (mdS ms k).heat.2, .int .i64 (mdS ms k).grass.1, .int .i64 (mdS ms k).grass.2, .int .i64 (mdS ms k).drinks.1, .int .i64 (mdS ms k).drinks.2] 45) hr3) (((ldS x ms).take (k + 1)).flatMap marCells ++ rest.drop 8).toArray
        refine ⟨k + 1, hlt, by simp, hS.keeps (by omega) (rowSkip r0), hS.keeps (by omega) (rowSkip r1), hS.keeps (by omega) (rowSkip hr2), ⟨rest.drop 8, by rw [List.length_drop, hrl]; omega, hS.row⟩, ?_, ?_⟩
        · exact Below_setRow (hBl.alloc hBl.size _) (by omega) _
        · simp [World.setRow]; omega
      case measure => simp [intOf]; omega
    · obtain rfl : k = n := by omega
      gi_wp2_with (fail)
      refine ⟨trivial, rfl, (callsIn_wide.2 (days_any b c _ k k _)).mono ?_⟩
      rintro e W5 ⟨rfl, hW5'⟩
      have rwW5 : rowOf W5 wr.heap.size = some #[.int .i64 b.full, .int .i64 b.fed, .int .i64 b.rest.1, .int .i64 b.rest.2, .int .i64 b.heat.1, .int .i64 b.heat.2, .int .i64 b.toil.1, .int .i64 b.toil.2, .int .i64 b.burn.1, .int .i64 b.burn.2, .int .i64 b.rub.1, .int .i64 b.rub.2, .int .i64 b.milk.1, .int .i64 b.milk.2, .int .i64 b.heal, .int .i64 b.strong.1, .int .i64 b.strong.2, .int .i64 c.water.1, .int .i64 c.water.2, .int .i64 c.fat.1, .int .i64 c.fat.2, .int .i64 c.sore.1, .int .i64 c.sore.2, .bool c.milks] := by rw [hW5']; exact rowSkip (row_here0 _ _ _)
      have rlW5 : rowOf W5 (wr.heap.size + 1) = some #[.slice (some ⟨w.heap.size + 1 + 1 + 1, 0, none⟩) k k] := by rw [hW5']; exact row_here1 _ _ _ _
      have hE5 : Ext wr W5 := by rw [hW5']; exact (ext_alloc _ _).trans (ext_alloc _ _)
      have zz5 : W5.heap.size = wr.heap.size + 2 := by rw [hW5']; simp
      clear hW5'
      gi_wp2_with (fail)
      have hz0 : rest = [] := List.eq_nil_of_length_eq_zero (by omega)
      have hkl : k = (ldS x ms).length := by rw [ldS_len]; exact HN.out
      rw [hz0, List.append_nil, List.take_of_length_le (by omega)] at hr3
      have zr3 := (cell_of_rowOf hr3).2.2
      have hr35 := (keep_row hE5 hr3).1
      have r15 := (keep_row hE5 hr1).1
      have r25 := (keep_row hE5 hr2).1
      have hMs5 : MarchesAt W5 (w.heap.size + 1 + 1 + 1) 0 (ldS x ms) := marches_row hr35
      have hDL : DaysLow W5 (fun i => i = w.heap.size + 1 + 1 + 1) (some ⟨w.heap.size + 1 + 1 + 1, 0, none⟩) (ldS x ms) := .inr ⟨_, 0, rfl, hMs5, by omega, rfl⟩
      have hIT := days_it b c (ldS x ms) HB.out HC.out HALL.out (by omega) wr.heap.size (wr.heap.size + 1) (fun i => i = w.heap.size + 1 + 1 + 1) (some ⟨w.heap.size + 1 + 1 + 1, 0, none⟩) k W5 rwW5 (by rw [← hkl]; exact rlW5) hDL
      have hW5 : Below w.heap.size w W5 := hBl.trans (Below.mono hE5 hBl.size)
      have HKL := Lib.hid hkl
      have HALL' := HALL
      clear hr0 hr1 hr2 hr3 hr35 rwW5 rlW5 hDL hE5 hBl hMs5 hcs hrl hlt hk hz0 HD HALL HA hkl
      generalize W5 = B4 at *
      generalize (Value.agg #[.int .i64 b.full, .int .i64 b.fed, .int .i64 b.rest.1, .int .i64 b.rest.2, .int .i64 b.heat.1, .int .i64 b.heat.2, .int .i64 b.toil.1, .int .i64 b.toil.2, .int .i64 b.burn.1, .int .i64 b.burn.2, .int .i64 b.rub.1, .int .i64 b.rub.2, .int .i64 b.milk.1, .int .i64 b.milk.2, .int .i64 b.heal, .int .i64 b.strong.1, .int .i64 b.strong.2, .int .i64 c.water.1, .int .i64 c.water.2, .int .i64 c.fat.1, .int .i64 c.fat.2, .int .i64 c.sore.1, .int .i64 c.sore.2, .bool c.milks]) = vW
      generalize hgw : wr.heap.size = gw at *
      have zB : gw + 2 ≤ B4.heap.size := by omega
      clear zz5
      refine wpIn_iter (gf := 90) (lb := #[.pointer (some ⟨gw, 0, none⟩), .pointer (some ⟨gw + 1, 0, none⟩)]) rfl (enters_of Try.func90 (by kernel_rfl) rfl) (fun _ => rfl) hIT (fun i hi => by omega)
        (fun i W => rowOf W (w.heap.size + 1) = some #[.int .i64 x] ∧ rowOf W (w.heap.size + 1 + 1) = some #[.bool false] ∧ Below w.heap.size w W ∧ Hid (∀ j, j < i → okDay b c (ldS x ms) x j = true))
        (fun cd i W => cd = .ret ∧ rowOf W (w.heap.size + 1 + 1) = some #[.bool false] ∧ Below w.heap.size w W ∧ Hid (∃ j, j < k ∧ okDay b c (ldS x ms) x j = false))
        ?hI ?hIx ?h0 (fun i => .cells (dayRow b c (ldS x ms) i) 126) (fun i s => { tmps := #[vW, .int .i64 x, .slice a k cap, .pointer (some ⟨w.heap.size, 0, none⟩), .pointer (some ⟨w.heap.size + 1, 0, none⟩), undef, .pointer (some ⟨w.heap.size + 1 + 1, 0, none⟩), .slice (some ⟨w.heap.size + 1 + 1 + 1, 0, none⟩) k k, u8, u9, undef, .pointer (some ⟨s, 0, none⟩), .slice a k cap, .int .i64 (k : Int), .slice (some ⟨w.heap.size + 1 + 1 + 1, 0, none⟩) k k, .slice a k cap, .int .i64 (k : Int), .int .i64 (k : Int), .bool false, u19, u20, u21, u22, u23, u24, u25, u26, u27, u28, vW, .slice (some ⟨w.heap.size + 1 + 1 + 1, 0, none⟩) k k, .func (.func 90) #[] #[.pointer (some ⟨gw, 0, none⟩), .pointer (some ⟨gw + 1, 0, none⟩)], .int .i64 (i : Int), .agg (dayRow b c (ldS x ms) i), undef, undef, undef, undef, undef, undef, undef, undef, undef, undef, undef, undef, undef, undef, undef, undef, undef], defers := [] }) ?assign ?body ?done ?stop
      case hI =>
        rintro i A A' r ⟨h1, h4, h7, h8⟩ hg hr1 hr2
        exact ⟨row_grown h1 hg (by omega), row_grown h4 hg (by omega), below_grown h7 hg h7.size (by omega), h8⟩
      case hIx =>
        rintro cd i A A' r ⟨h1, h4, h7, h8⟩ hg hr1 hr2
        exact ⟨h1, row_grown h4 hg (by omega), below_grown h7 hg h7.size (by omega), h8⟩
      case h0 => exact ⟨r15, r25, hW5, fun j hj => by omega⟩
      case assign =>
        intro l i W K hK
        have d1 := dayRow_size b c (ldS x ms) i
        have d2 := dayRow_one b c (ldS x ms) i
        simp only [dayEnc]
        gi_wp2
        exact hK
      case body =>
        rintro l i W0 D1 W2' hk hs0 hs01 - ⟨hx, hf, hBl, hall⟩ hg2 hsm
        have hdr : rowOf W2' D1.heap.size = some (dayRow b c (ldS x ms) i) := row_grown (row_here0 _ _ _) hg2 (by omega)
        clear hg2 hsm
        obtain ⟨mo, hmo⟩ : ∃ mo, mornC b c (ldS x ms) i = mo := ⟨_, rfl⟩
        obtain ⟨md, hmd⟩ : ∃ md, mdS (ldS x ms) i = md := ⟨_, rfl⟩
        obtain ⟨be, hb'⟩ : ∃ be, eB b mo md = be := ⟨_, rfl⟩
        obtain ⟨ce, hc'⟩ : ∃ ce, eC b mo md = ce := ⟨_, rfl⟩
        obtain ⟨ff, hff⟩ : ∃ ff, fatK b c (ldS x ms) i = ff := ⟨_, rfl⟩
        obtain ⟨ca, hca⟩ : ∃ ca, carS b mo = ca := ⟨_, rfl⟩
        have hdd : dayRow b c (ldS x ms) i = #[.int .i64 md.hours, .int .i64 md.load, .int .i64 md.heat.1, .int .i64 md.heat.2, .int .i64 md.grass.1, .int .i64 md.grass.2, .int .i64 md.drinks.1, .int .i64 md.drinks.2, .int .i64 b.full, .int .i64 b.fed, .int .i64 b.rest.1, .int .i64 b.rest.2, .int .i64 b.heat.1, .int .i64 b.heat.2, .int .i64 b.toil.1, .int .i64 b.toil.2, .int .i64 b.burn.1, .int .i64 b.burn.2, .int .i64 b.rub.1, .int .i64 b.rub.2, .int .i64 b.milk.1, .int .i64 b.milk.2, .int .i64 b.heal, .int .i64 b.strong.1, .int .i64 b.strong.2, .int .i64 mo.water.1, .int .i64 mo.water.2, .int .i64 mo.fat.1, .int .i64 mo.fat.2, .int .i64 mo.sore.1, .int .i64 mo.sore.2, .bool mo.milks, .int .i64 be.full, .int .i64 be.fed, .int .i64 be.rest.1, .int .i64 be.rest.2, .int .i64 be.heat.1, .int .i64 be.heat.2, .int .i64 be.toil.1, .int .i64 be.toil.2, .int .i64 be.burn.1, .int .i64 be.burn.2, .int .i64 be.rub.1, .int .i64 be.rub.2, .int .i64 be.milk.1, .int .i64 be.milk.2, .int .i64 be.heal, .int .i64 be.strong.1, .int .i64 be.strong.2, .int .i64 ce.water.1, .int .i64 ce.water.2, .int .i64 ce.fat.1, .int .i64 ce.fat.2, .int .i64 ce.sore.1, .int .i64 ce.sore.2, .bool ce.milks, .int .u8 ff] := by subst hff hb' hc' hmd hmo; rfl
        rw [hdd] at hdr
        have HF := Lib.hid hff
        have HCA := Lib.hid hca
        have HMO := Lib.hid hmo
        have HMD := Lib.hid hmd
        have HBM := Lib.hid (show BdC b mo by rw [← hmo]; exact mornC_bd HB.out HC.out HALL'.out i (by omega))
        have z2 := hBl.size
        obtain ⟨rdE, cdE, gdE, zdE⟩ := row_facts hdr
        obtain ⟨rxE, cxE, gxE, zxE⟩ := row_facts hx
        have hx' := hx
        have hF3 := fat012 b c (ldS x ms) i
        rw [hff] at hF3
        clear hmo hmd hb' hc' hff hca hdd hdr hx r15 r25 hIT hW5
        rcases hF3 with rfl | rfl | rfl
        · by_cases hh : 0 < md.hours
          · have hlh := hh
            gi_wp2_with (fail)
            refine quiet_round l 0 (by kernel_rfl) (by kernel_rfl) (by kernel_rfl) ?_
            refine quiet_step rfl (.pointer (some ⟨D1.heap.size, 56, none⟩)) (fun W hE => ?_) ?_
            · show Oper.quietUpon _ _ _ _ _
              go_simp
              try exact ⟨rfl, rfl⟩
            simp only [Act.put, List.setIfInBounds_toArray, List.set_cons_succ, List.set_cons_zero]
            refine quiet_step rfl (.int .u8 0) (fun W hE => ?_) ?_
            · show Oper.quietUpon _ _ _ _ _
              obtain ⟨_, _, -, _⟩ := keep_row hE (rdE : rowOf _ _ = _)
              obtain ⟨_, _, -, _⟩ := keep_row hE (rxE : rowOf _ _ = _)
              go_simp
              try exact ⟨rfl, rfl⟩
            simp only [Act.put, List.setIfInBounds_toArray, List.set_cons_succ, List.set_cons_zero]
            refine quiet_step rfl (.bool false) (fun W hE => ?_) ?_
            · show Oper.quietUpon _ _ _ _ _
              go_simp
              try exact ⟨rfl, rfl⟩
            simp only [Act.put, List.setIfInBounds_toArray, List.set_cons_succ, List.set_cons_zero]
            refine quiet_step rfl (.bool false) (fun W hE => ?_) ?_
            · show Oper.quietUpon _ _ _ _ _
              go_simp
              try exact ⟨rfl, rfl⟩
            simp only [Act.put, List.setIfInBounds_toArray, List.set_cons_succ, List.set_cons_zero]
            refine quiet_step rfl (.pointer (some ⟨D1.heap.size, 0, none⟩)) (fun W hE => ?_) ?_
            · show Oper.quietUpon _ _ _ _ _
              go_simp
              try exact ⟨rfl, rfl⟩
            simp only [Act.put, List.setIfInBounds_toArray, List.set_cons_succ, List.set_cons_zero]
            refine quiet_step rfl (.pointer (some ⟨D1.heap.size, 0, none⟩)) (fun W hE => ?_) ?_
            · show Oper.quietUpon _ _ _ _ _
              go_simp
              try exact ⟨rfl, rfl⟩
            simp only [Act.put, List.setIfInBounds_toArray, List.set_cons_succ, List.set_cons_zero]
            refine quiet_step rfl (.int .i64 md.hours) (fun W hE => ?_) ?_
            · show Oper.quietUpon _ _ _ _ _
              obtain ⟨_, _, -, _⟩ := keep_row hE (rdE : rowOf _ _ = _)
              obtain ⟨_, _, -, _⟩ := keep_row hE (rxE : rowOf _ _ = _)
              go_simp
              try exact ⟨rfl, rfl⟩
            simp only [Act.put, List.setIfInBounds_toArray, List.set_cons_succ, List.set_cons_zero]
            refine quiet_step rfl (.bool true) (fun W hE => ?_) ?_
            · show Oper.quietUpon _ _ _ _ _
              go_simp
              try exact ⟨rfl, rfl⟩
            simp only [Act.put, List.setIfInBounds_toArray, List.set_cons_succ, List.set_cons_zero]
            refine quiet_step rfl (.bool true) (fun W hE => ?_) ?_
            · show Oper.quietUpon _ _ _ _ _
              go_simp
              try exact ⟨rfl, rfl⟩
            simp only [Act.put, List.setIfInBounds_toArray, List.set_cons_succ, List.set_cons_zero]
            refine quiet_step rfl (.int .i64 x) (fun W hE => ?_) ?_
            · show Oper.quietUpon _ _ _ _ _
              obtain ⟨_, _, -, _⟩ := keep_row hE (rdE : rowOf _ _ = _)
              obtain ⟨_, _, -, _⟩ := keep_row hE (rxE : rowOf _ _ = _)
              go_simp
              try exact ⟨rfl, rfl⟩
            simp only [Act.put, List.setIfInBounds_toArray, List.set_cons_succ, List.set_cons_zero]
            refine quiet_step rfl (.pointer (some ⟨D1.heap.size, 8, none⟩)) (fun W hE => ?_) ?_
            · show Oper.quietUpon _ _ _ _ _
              go_simp
              try exact ⟨rfl, rfl⟩
            simp only [Act.put, List.setIfInBounds_toArray, List.set_cons_succ, List.set_cons_zero]
            refine quiet_step rfl (.agg #[.int .i64 b.full, .int .i64 b.fed, .int .i64 b.rest.1, .int .i64 b.rest.2, .int .i64 b.heat.1, .int .i64 b.heat.2, .int .i64 b.toil.1, .int .i64 b.toil.2, .int .i64 b.burn.1, .int .i64 b.burn.2, .int .i64 b.rub.1, .int .i64 b.rub.2, .int .i64 b.milk.1, .int .i64 b.milk.2, .int .i64 b.heal, .int .i64 b.strong.1, .int .i64 b.strong.2, .int .i64 mo.water.1, .int .i64 mo.water.2, .int .i64 mo.fat.1, .int .i64 mo.fat.2, .int .i64 mo.sore.1, .int .i64 mo.sore.2, .bool mo.milks]) (fun W hE => ?_) ?_
            · show Oper.quietUpon _ _ _ _ _
              obtain ⟨_, _, -, _⟩ := keep_row hE (rdE : rowOf _ _ = _)
              obtain ⟨_, _, -, _⟩ := keep_row hE (rxE : rowOf _ _ = _)
              go_simp
              try exact ⟨rfl, rfl⟩
            simp only [Act.put, List.setIfInBounds_toArray, List.set_cons_succ, List.set_cons_zero]
            refine quiet_step rfl (.agg #[.int .i64 ca.1, .int .i64 ca.2]) (fun W hE => ?_) ?_
            · show Oper.quietUpon _ _ _ _ _
              go_simp
              first | exact ⟨rfl, (carries_x b mo ca HCA.out W HB.out HBM.out).mono fun e w'' ⟨he, hB⟩ => ⟨he, Ext.trans hE hB⟩⟩ | exact (carries_x b mo ca HCA.out W HB.out HBM.out).mono fun e w'' ⟨he, hB⟩ => ⟨he, Ext.trans hE hB⟩
            simp only [Act.put, List.setIfInBounds_toArray, List.set_cons_succ, List.set_cons_zero]
            refine quiet_step rfl (.int .i64 ca.1) (fun W hE => ?_) ?_
            · show Oper.quietUpon _ _ _ _ _
              go_simp
              try exact ⟨rfl, rfl⟩
            simp only [Act.put, List.setIfInBounds_toArray, List.set_cons_succ, List.set_cons_zero]
            refine quiet_step rfl (.bool (decide (ca.1 < x))) (fun W hE => ?_) ?_
            · show Oper.quietUpon _ _ _ _ _
              go_simp
              try exact ⟨rfl, rfl⟩
            simp only [Act.put, List.setIfInBounds_toArray, List.set_cons_succ, List.set_cons_zero]
            refine quiet_step rfl (.bool (decide (ca.1 < x))) (fun W hE => ?_) ?_
            · show Oper.quietUpon _ _ _ _ _
              go_simp
              try exact ⟨rfl, rfl⟩
            simp only [Act.put, List.setIfInBounds_toArray, List.set_cons_succ, List.set_cons_zero]
            refine quiet_step rfl (.bool (decide (ca.1 < x))) (fun W hE => ?_) ?_
            · show Oper.quietUpon _ _ _ _ _
              go_simp
              try exact ⟨rfl, rfl⟩
            simp only [Act.put, List.setIfInBounds_toArray, List.set_cons_succ, List.set_cons_zero]
            refine wpQuiet_nil ?_
            intro W hE
            obtain ⟨rxW, cxW, gxW, zxW⟩ := keep_row hE hx'
            obtain ⟨rfW, cfW, gfW, zfW⟩ := keep_row hE hf
            have hK := Kept.ofExt (Kb := fun i => i = w.heap.size + 1 + 1 + 1) (B := B4.heap.size) (s0 := W0.heap.size) hE
            have hBW := hBl.trans (Below.mono hE z2)
            by_cases hl : ca.1 < x
            · have hld : decide (ca.1 < x) = true := decide_eq_true hl
              gi_wp2_with (fail)
              refine ⟨hK.trans (kept_cell _ _ (by omega) (by omega) (by omega)), rfl, rowOf_setCell_k (off := 0) rfW _, below_grown hBW (grown_setCell _ _ _) hBW.size (by simp only; omega), ⟨i, by have := HKL.out; omega, okDay_load (by rw [HMD.out]; exact hh) (by rw [HMO.out, HCA.out]; exact hl)⟩⟩
            · have hld : decide (ca.1 < x) = false := decide_eq_false hl
              gi_wp2_with (fail)
              refine ⟨hK, rxW, rfW, hBW, fun j hj => ?_⟩
              rcases Nat.lt_or_ge j i with h | h
              · exact hall.out j h
              · obtain rfl : j = i := by omega
                exact okDay_yes HF.out (fun _ => by rw [HMO.out, HCA.out]; omega)
          · have hlh : decide (0 < md.hours) = false := decide_eq_false hh
            gi_wp2_with (fail)
            refine quiet_round l 0 (by kernel_rfl) (by kernel_rfl) (by kernel_rfl) ?_
            refine quiet_step rfl (.pointer (some ⟨D1.heap.size, 56, none⟩)) (fun W hE => ?_) ?_
            · show Oper.quietUpon _ _ _ _ _
              go_simp
              try exact ⟨rfl, rfl⟩
            simp only [Act.put, List.setIfInBounds_toArray, List.set_cons_succ, List.set_cons_zero]
            refine quiet_step rfl (.int .u8 0) (fun W hE => ?_) ?_
            · show Oper.quietUpon _ _ _ _ _
              obtain ⟨_, _, -, _⟩ := keep_row hE (rdE : rowOf _ _ = _)
              obtain ⟨_, _, -, _⟩ := keep_row hE (rxE : rowOf _ _ = _)
              go_simp
              try exact ⟨rfl, rfl⟩
            simp only [Act.put, List.setIfInBounds_toArray, List.set_cons_succ, List.set_cons_zero]
            refine quiet_step rfl (.bool false) (fun W hE => ?_) ?_
            · show Oper.quietUpon _ _ _ _ _
              go_simp
              try exact ⟨rfl, rfl⟩
            simp only [Act.put, List.setIfInBounds_toArray, List.set_cons_succ, List.set_cons_zero]
            refine quiet_step rfl (.bool false) (fun W hE => ?_) ?_
            · show Oper.quietUpon _ _ _ _ _
              go_simp
              try exact ⟨rfl, rfl⟩
            simp only [Act.put, List.setIfInBounds_toArray, List.set_cons_succ, List.set_cons_zero]
            refine quiet_step rfl (.pointer (some ⟨D1.heap.size, 0, none⟩)) (fun W hE => ?_) ?_
            · show Oper.quietUpon _ _ _ _ _
              go_simp
              try exact ⟨rfl, rfl⟩
            simp only [Act.put, List.setIfInBounds_toArray, List.set_cons_succ, List.set_cons_zero]
            refine quiet_step rfl (.pointer (some ⟨D1.heap.size, 0, none⟩)) (fun W hE => ?_) ?_
            · show Oper.quietUpon _ _ _ _ _
              go_simp
              try exact ⟨rfl, rfl⟩
            simp only [Act.put, List.setIfInBounds_toArray, List.set_cons_succ, List.set_cons_zero]
            refine quiet_step rfl (.int .i64 md.hours) (fun W hE => ?_) ?_
            · show Oper.quietUpon _ _ _ _ _
              obtain ⟨_, _, -, _⟩ := keep_row hE (rdE : rowOf _ _ = _)
              obtain ⟨_, _, -, _⟩ := keep_row hE (rxE : rowOf _ _ = _)
              go_simp
              try exact ⟨rfl, rfl⟩
            simp only [Act.put, List.setIfInBounds_toArray, List.set_cons_succ, List.set_cons_zero]
            refine quiet_step rfl (.bool false) (fun W hE => ?_) ?_
            · show Oper.quietUpon _ _ _ _ _
              go_simp
              try exact ⟨rfl, rfl⟩
            simp only [Act.put, List.setIfInBounds_toArray, List.set_cons_succ, List.set_cons_zero]
            refine quiet_step rfl (.bool false) (fun W hE => ?_) ?_
            · show Oper.quietUpon _ _ _ _ _
              go_simp
              try exact ⟨rfl, rfl⟩
            simp only [Act.put, List.setIfInBounds_toArray, List.set_cons_succ, List.set_cons_zero]
            refine Go.BigFrame.wpQuiet_skip rfl ?_
            simp only [Act.put, List.setIfInBounds_toArray, List.set_cons_succ, List.set_cons_zero]
            refine Go.BigFrame.wpQuiet_skip rfl ?_
            simp only [Act.put, List.setIfInBounds_toArray, List.set_cons_succ, List.set_cons_zero]
            refine Go.BigFrame.wpQuiet_skip rfl ?_
            simp only [Act.put, List.setIfInBounds_toArray, List.set_cons_succ, List.set_cons_zero]
            refine Go.BigFrame.wpQuiet_skip rfl ?_
            simp only [Act.put, List.setIfInBounds_toArray, List.set_cons_succ, List.set_cons_zero]
            refine Go.BigFrame.wpQuiet_skip rfl ?_
            simp only [Act.put, List.setIfInBounds_toArray, List.set_cons_succ, List.set_cons_zero]
            refine Go.BigFrame.wpQuiet_skip rfl ?_
            simp only [Act.put, List.setIfInBounds_toArray, List.set_cons_succ, List.set_cons_zero]
            refine quiet_step rfl (.bool false) (fun W hE => ?_) ?_
            · show Oper.quietUpon _ _ _ _ _
              go_simp
              try exact ⟨rfl, rfl⟩
            simp only [Act.put, List.setIfInBounds_toArray, List.set_cons_succ, List.set_cons_zero]
            refine quiet_step rfl (.bool false) (fun W hE => ?_) ?_
            · show Oper.quietUpon _ _ _ _ _
              go_simp
              try exact ⟨rfl, rfl⟩
            simp only [Act.put, List.setIfInBounds_toArray, List.set_cons_succ, List.set_cons_zero]
            refine wpQuiet_nil ?_
            intro W hE
            obtain ⟨rxW, cxW, gxW, zxW⟩ := keep_row hE hx'
            obtain ⟨rfW, cfW, gfW, zfW⟩ := keep_row hE hf
            have hK := Kept.ofExt (Kb := fun i => i = w.heap.size + 1 + 1 + 1) (B := B4.heap.size) (s0 := W0.heap.size) hE
            have hBW := hBl.trans (Below.mono hE z2)
            gi_wp2_with (fail)
            refine ⟨hK, rxW, rfW, hBW, fun j hj => ?_⟩
            rcases Nat.lt_or_ge j i with h | h
            · exact hall.out j h
            · obtain rfl : j = i := by omega
              exact okDay_yes HF.out (fun h => by rw [HMD.out] at h; exact absurd (show 0 < md.hours from h) (by omega))
        · gi_wp2_with (fail)
          refine quiet_round l 0 (by kernel_rfl) (by kernel_rfl) (by kernel_rfl) ?_
          refine quiet_step rfl (.pointer (some ⟨D1.heap.size, 56, none⟩)) (fun W hE => ?_) ?_
          · show Oper.quietUpon _ _ _ _ _
            go_simp
            try exact ⟨rfl, rfl⟩
          simp only [Act.put, List.setIfInBounds_toArray, List.set_cons_succ, List.set_cons_zero]
          refine quiet_step rfl (.int .u8 1) (fun W hE => ?_) ?_
          · show Oper.quietUpon _ _ _ _ _
            obtain ⟨_, _, -, _⟩ := keep_row hE (rdE : rowOf _ _ = _)
            obtain ⟨_, _, -, _⟩ := keep_row hE (rxE : rowOf _ _ = _)
            go_simp
            try exact ⟨rfl, rfl⟩
          simp only [Act.put, List.setIfInBounds_toArray, List.set_cons_succ, List.set_cons_zero]
          refine quiet_step rfl (.bool true) (fun W hE => ?_) ?_
          · show Oper.quietUpon _ _ _ _ _
            go_simp
            try exact ⟨rfl, rfl⟩
          simp only [Act.put, List.setIfInBounds_toArray, List.set_cons_succ, List.set_cons_zero]
          refine quiet_step rfl (.bool true) (fun W hE => ?_) ?_
          · show Oper.quietUpon _ _ _ _ _
            go_simp
            try exact ⟨rfl, rfl⟩
          simp only [Act.put, List.setIfInBounds_toArray, List.set_cons_succ, List.set_cons_zero]
          refine Go.BigFrame.wpQuiet_skip rfl ?_
          simp only [Act.put, List.setIfInBounds_toArray, List.set_cons_succ, List.set_cons_zero]
          refine Go.BigFrame.wpQuiet_skip rfl ?_
          simp only [Act.put, List.setIfInBounds_toArray, List.set_cons_succ, List.set_cons_zero]
          refine Go.BigFrame.wpQuiet_skip rfl ?_
          simp only [Act.put, List.setIfInBounds_toArray, List.set_cons_succ, List.set_cons_zero]
          refine Go.BigFrame.wpQuiet_skip rfl ?_
          simp only [Act.put, List.setIfInBounds_toArray, List.set_cons_succ, List.set_cons_zero]
          refine Go.BigFrame.wpQuiet_skip rfl ?_
          simp only [Act.put, List.setIfInBounds_toArray, List.set_cons_succ, List.set_cons_zero]
          refine Go.BigFrame.wpQuiet_skip rfl ?_
          simp only [Act.put, List.setIfInBounds_toArray, List.set_cons_succ, List.set_cons_zero]
          refine Go.BigFrame.wpQuiet_skip rfl ?_
          simp only [Act.put, List.setIfInBounds_toArray, List.set_cons_succ, List.set_cons_zero]
          refine Go.BigFrame.wpQuiet_skip rfl ?_
          simp only [Act.put, List.setIfInBounds_toArray, List.set_cons_succ, List.set_cons_zero]
          refine Go.BigFrame.wpQuiet_skip rfl ?_
          simp only [Act.put, List.setIfInBounds_toArray, List.set_cons_succ, List.set_cons_zero]
          refine Go.BigFrame.wpQuiet_skip rfl ?_
          simp only [Act.put, List.setIfInBounds_toArray, List.set_cons_succ, List.set_cons_zero]
          refine Go.BigFrame.wpQuiet_skip rfl ?_
          simp only [Act.put, List.setIfInBounds_toArray, List.set_cons_succ, List.set_cons_zero]
          refine Go.BigFrame.wpQuiet_skip rfl ?_
          simp only [Act.put, List.setIfInBounds_toArray, List.set_cons_succ, List.set_cons_zero]
          refine quiet_step rfl (.bool true) (fun W hE => ?_) ?_
          · show Oper.quietUpon _ _ _ _ _
            go_simp
            try exact ⟨rfl, rfl⟩
          simp only [Act.put, List.setIfInBounds_toArray, List.set_cons_succ, List.set_cons_zero]
          refine wpQuiet_nil ?_
          intro W hE
          obtain ⟨rxW, cxW, gxW, zxW⟩ := keep_row hE hx'
          obtain ⟨rfW, cfW, gfW, zfW⟩ := keep_row hE hf
          have hK := Kept.ofExt (Kb := fun i => i = w.heap.size + 1 + 1 + 1) (B := B4.heap.size) (s0 := W0.heap.size) hE
          have hBW := hBl.trans (Below.mono hE z2)
          gi_wp2_with (fail)
          refine ⟨hK.trans (kept_cell _ _ (by omega) (by omega) (by omega)), rfl, rowOf_setCell_k (off := 0) rfW _, below_grown hBW (grown_setCell _ _ _) hBW.size (by simp only; omega), ⟨i, by have := HKL.out; omega, okDay_fate (by rw [HF.out]; decide)⟩⟩
        · gi_wp2_with (fail)
          refine quiet_round l 0 (by kernel_rfl) (by kernel_rfl) (by kernel_rfl) ?_
          refine quiet_step rfl (.pointer (some ⟨D1.heap.size, 56, none⟩)) (fun W hE => ?_) ?_
          · show Oper.quietUpon _ _ _ _ _
            go_simp
            try exact ⟨rfl, rfl⟩
          simp only [Act.put, List.setIfInBounds_toArray, List.set_cons_succ, List.set_cons_zero]
          refine quiet_step rfl (.int .u8 2) (fun W hE => ?_) ?_
          · show Oper.quietUpon _ _ _ _ _
            obtain ⟨_, _, -, _⟩ := keep_row hE (rdE : rowOf _ _ = _)
            obtain ⟨_, _, -, _⟩ := keep_row hE (rxE : rowOf _ _ = _)
            go_simp
            try exact ⟨rfl, rfl⟩
          simp only [Act.put, List.setIfInBounds_toArray, List.set_cons_succ, List.set_cons_zero]
          refine quiet_step rfl (.bool true) (fun W hE => ?_) ?_
          · show Oper.quietUpon _ _ _ _ _
            go_simp
            try exact ⟨rfl, rfl⟩
          simp only [Act.put, List.setIfInBounds_toArray, List.set_cons_succ, List.set_cons_zero]
          refine quiet_step rfl (.bool true) (fun W hE => ?_) ?_
          · show Oper.quietUpon _ _ _ _ _
            go_simp
            try exact ⟨rfl, rfl⟩
          simp only [Act.put, List.setIfInBounds_toArray, List.set_cons_succ, List.set_cons_zero]
          refine Go.BigFrame.wpQuiet_skip rfl ?_
          simp only [Act.put, List.setIfInBounds_toArray, List.set_cons_succ, List.set_cons_zero]
          refine Go.BigFrame.wpQuiet_skip rfl ?_
          simp only [Act.put, List.setIfInBounds_toArray, List.set_cons_succ, List.set_cons_zero]
          refine Go.BigFrame.wpQuiet_skip rfl ?_
          simp only [Act.put, List.setIfInBounds_toArray, List.set_cons_succ, List.set_cons_zero]
          refine Go.BigFrame.wpQuiet_skip rfl ?_
          simp only [Act.put, List.setIfInBounds_toArray, List.set_cons_succ, List.set_cons_zero]
          refine Go.BigFrame.wpQuiet_skip rfl ?_
          simp only [Act.put, List.setIfInBounds_toArray, List.set_cons_succ, List.set_cons_zero]
          refine Go.BigFrame.wpQuiet_skip rfl ?_
          simp only [Act.put, List.setIfInBounds_toArray, List.set_cons_succ, List.set_cons_zero]
          refine Go.BigFrame.wpQuiet_skip rfl ?_
          simp only [Act.put, List.setIfInBounds_toArray, List.set_cons_succ, List.set_cons_zero]
          refine Go.BigFrame.wpQuiet_skip rfl ?_
          simp only [Act.put, List.setIfInBounds_toArray, List.set_cons_succ, List.set_cons_zero]
          refine Go.BigFrame.wpQuiet_skip rfl ?_
          simp only [Act.put, List.setIfInBounds_toArray, List.set_cons_succ, List.set_cons_zero]
          refine Go.BigFrame.wpQuiet_skip rfl ?_
          simp only [Act.put, List.setIfInBounds_toArray, List.set_cons_succ, List.set_cons_zero]
          refine Go.BigFrame.wpQuiet_skip rfl ?_
          simp only [Act.put, List.setIfInBounds_toArray, List.set_cons_succ, List.set_cons_zero]
          refine Go.BigFrame.wpQuiet_skip rfl ?_
          simp only [Act.put, List.setIfInBounds_toArray, List.set_cons_succ, List.set_cons_zero]
          refine quiet_step rfl (.bool true) (fun W hE => ?_) ?_
          · show Oper.quietUpon _ _ _ _ _
            go_simp
            try exact ⟨rfl, rfl⟩
          simp only [Act.put, List.setIfInBounds_toArray, List.set_cons_succ, List.set_cons_zero]
          refine wpQuiet_nil ?_
          intro W hE
          obtain ⟨rxW, cxW, gxW, zxW⟩ := keep_row hE hx'
          obtain ⟨rfW, cfW, gfW, zfW⟩ := keep_row hE hf
          have hK := Kept.ofExt (Kb := fun i => i = w.heap.size + 1 + 1 + 1) (B := B4.heap.size) (s0 := W0.heap.size) hE
          have hBW := hBl.trans (Below.mono hE z2)
          gi_wp2_with (fail)
          refine ⟨hK.trans (kept_cell _ _ (by omega) (by omega) (by omega)), rfl, rowOf_setCell_k (off := 0) rfW _, below_grown hBW (grown_setCell _ _ _) hBW.size (by simp only; omega), ⟨i, by have := HKL.out; omega, okDay_fate (by rw [HF.out]; decide)⟩⟩
      case done =>
        rintro K X ⟨hK, -, hKl⟩ ⟨hx, hf, hBl, hall⟩ hDf
        have hKK : K = (ldS x ms).length := by
          rcases hKl with h | ⟨h1, h2⟩
          · exact h
          · rw [okDay_lives (hall.out (K - 1) (by omega))] at h2; cases h2
        have hyes : bearS b c ms x = true := bearS_yes (fun j hj => hall.out j (by rw [hKK, ldS_len]; exact hj))
        rw [HR.out] at hyes
        subst hyes
        have HDF := Lib.hid hDf
        clear hK hKl hKK hall hDf r15 r25 hIT hW5 hx HALL' HR HKL HN
        obtain ⟨rfE, cfE, gfE, zfE⟩ := row_facts hf
        have hX : B4.heap.size < X.heap.size := (Array.getElem?_eq_some_iff.1 HDF.out).1
        gi_wp2_with (fail)
        have hs := grown_setCell X ⟨w.heap.size + 1 + 1, 0, none⟩ (.bool true)
        have hD : (X.setCell ⟨w.heap.size + 1 + 1, 0, none⟩ (.bool true)).heap[B4.heap.size]? = some (.deferred (some [])) := (hs.block _ hX (by simp; omega)).trans HDF.out
        refine ⟨by simp, .inl ⟨_, _, rfl, run_takeDeferred hD, ?_⟩⟩
        have hg := grownBy_putObj' (X.setCell ⟨w.heap.size + 1 + 1, 0, none⟩ (.bool true)) B4.heap.size (.deferred none)
        have hb := below_grown hBl hs hBl.size (by simp only; omega)
        exact ⟨_, results_cell1 Try.results61 rfl (row_grown (rowOf_setCell_k (off := 0) rfE (.bool true)) hg (by omega)), rfl, below_grown hb hg hb.size (by omega)⟩
      case stop =>
        rintro cd i W ⟨hk, hkd⟩ ⟨rfl, hf, hBl, hno⟩ hDf
        obtain ⟨j, hj, hjn⟩ := hno.out
        have hno' : bearS b c ms x = false := bearS_no (by have := HN.out; omega) hjn
        rw [HR.out] at hno'
        subst hno'
        clear hno hIT hW5 r15 r25
        gi_wp2_with (fail)
        refine ⟨by simp, .inl ⟨_, _, rfl, run_takeDeferred hDf, ?_⟩⟩
        have hg := grownBy_putObj' W B4.heap.size (.deferred none)
        exact ⟨_, results_cell1 Try.results61 rfl (row_grown hf hg (by omega)), rfl, below_grown hBl hg hBl.size (by omega)⟩
end Go.Proofs.Ytafdcbdbllpcnaa
/- Contract of package camel's greatest at whole numbers, over a function that leaves what was there as it was. -/
namespace Go.Proofs.Ytafdcbdbllpcnaa
open Go.RowKit
open Go.Proofs

set_option maxHeartbeats 2000000 in
theorem greatest_any (p : Int → Bool) (g1 g2 : Nat) (w : World) (R : Int) (hR : binGo p 1000000 0 1000000 = R)
    (hf : ∀ (x : Int) (W : World), 0 ≤ x → x ≤ 1000000 → Below w.heap.size w W → Calls Try.prog 60 #[.int .i64 x, .pointer (some ⟨g1, 0, none⟩), .pointer (some ⟨g2, 0, none⟩)] W fun e W' => e = .returned (.bool (p x)) ∧ Below W.heap.size W W') :
    Calls Try.prog 59 #[.int .i64 0, .int .i64 1000000, .func (.func 60) #[] #[.pointer (some ⟨g1, 0, none⟩), .pointer (some ⟨g2, 0, none⟩)]] w fun e w' => e = .returned (.tuple #[.int .i64 (if p 0 = true then R else 0), .bool (p 0)]) ∧ Below w.heap.size w w' := by
  have HR := Lib.hid hR
  clear hR
  obtain ⟨q, hq⟩ : ∃ q, p 0 = q := ⟨_, rfl⟩
  rw [hq]
  go_enter Try.func59, Try.ntmps59
  go_wp2_with fail
  refine (hf 0 w (by omega) (by omega) (Below.refl _ _)).mono ?_
  rintro e W1 ⟨rfl, hW1⟩
  rw [hq]
  cases q with
  | false =>
    go_wp2
    go_returns
    exact ⟨rfl, hW1⟩
  | true =>
    go_wp2
    go_loopw [0, 1] (fun l h wr => ∃ (n : Nat) (lo hi : Int), l = .int .i64 lo ∧ h = .int .i64 hi ∧ 0 ≤ lo ∧ lo ≤ hi ∧ hi ≤ 1000000 ∧ hi - lo ≤ n ∧ Hid (binGo p n lo hi = R) ∧ Below w.heap.size w wr) (fun l h _ => (intOf h - intOf l).toNat)
    case atStart => exact ⟨1000000, 0, 1000000, rfl, rfl, by omega, by omega, by omega, by omega, HR, hW1⟩
    case round =>
      obtain ⟨n, lo, hi, rfl, rfl, h1, h2, h3, h4, hr, hB⟩ := hrel
      by_cases hlt : lo < hi
      · go_wp2_with fail
        obtain ⟨m, hm⟩ : ∃ m, hi - (hi - lo) / 2 = m := ⟨_, rfl⟩
        have hm' : m = (lo + hi + 1) / 2 := by omega
        rw [hm]
        have m1 : lo < m := by omega
        have m2 : m ≤ hi := by omega
        have HM := Lib.hid hm'
        clear hm hm'
        cases n with
        | zero => omega
        | succ n =>
          refine (hf m wr (by omega) (by omega) hB).mono ?_
          rintro e W2 ⟨rfl, hW2⟩
          have hB2 := hB.trans (hW2.mono hB.size)
          cases hpm : p m with
          | true =>
            have hr' := Lib.hid ((binGo_yes hlt HM.out hpm).symm.trans hr.out)
            go_wp2
            case roundEnd => exact ⟨⟨n, m, hi, rfl, rfl, by omega, by omega, by omega, by omega, hr', hB2⟩, by simp [intOf]; omega⟩
          | false =>
            have hr' := Lib.hid ((binGo_no hlt HM.out hpm).symm.trans hr.out)
            go_wp2
            case roundEnd => exact ⟨⟨n, lo, m - 1, rfl, rfl, by omega, by omega, by omega, by omega, hr', hB2⟩, by simp [intOf]; omega⟩
      · go_wp2
        go_returns
        have h := hr.out
        rw [binGo_end (by omega)] at h
        exact ⟨by rw [h]; rfl, hB⟩
end Go.Proofs.Ytafdcbdbllpcnaa
