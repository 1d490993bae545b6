/- An animal as it is at first; whether it is as is told. -/
import Derived.Test.YtafdcbdbllpcnaaTrueS
import Derived.Test.YtafdcbdbllpcnaaLeafI
import Derived.Test.YtafdcbdbllpcnaaRefD
set_option linter.unusedVariables false
set_option linter.unusedSimpArgs false
namespace Go.Proofs.Ytafdcbdbllpcnaa
open Go.RowKit
open Go.Proofs

attribute [local go_sem ↓] exec39s
attribute [local go_sem] store39 rowOf_alloc rowOf_drew setRow_alloc one_int one_bool
attribute [local irreducible] wpQuiet

theorem res85 {fn : Func} {p : Tmp} (h : fn.results = #[.cell p 85]) {tmps : Array Value} {w : World} {g : Nat} (hp : tmps.getD p undef = .pointer (some ⟨g, 0, none⟩)) {cs : Array Value} (hg : rowOf w g = some cs) (hs : cs.size = 3) : (results fn tmps).run Try.prog w = .ok (.agg cs) w :=
  results_row h 3 Try.underlying85 rfl (by kernel_rfl) hp hg hs
def begT (c : Cm) (xs : List Int) : Tr := ⟨100000 * pickS c.water (atS xs 0), 100000 * pickS c.fat (atS xs 1), 1000000 * pickS c.sore (atS xs 2)⟩
theorem begT_in {b : Br} {c : Cm} (hc : BdC b c) (xs : List Int) : Tin (begT c xs) c := by
  have p1 := pickS_in hc.water.2.1 (atS xs 0)
  have p2 := pickS_in hc.fat.2.1 (atS xs 1)
  have p3 := pickS_in hc.sore.2.1 (atS xs 2)
  constructor <;> simp only [begT] <;> omega
theorem at_n (k : Nat) (a : Option Addr) (cap n : Nat) (xs : List Int) (z v : Int) (w : World) (hz : z = (k : Int)) (hk : k < 100000) (hn : n = xs.length) (h : WordsIn w a cap xs) (hv : atS xs k = v) :
    Calls Try.prog 50 #[.slice a n cap, .int .i64 z] w fun e w' => e = .returned (.int .u32 v) ∧ Below w.heap.size w w' := by
  subst hz; exact at_any a cap n xs k v w hn h hk hv

set_option maxRecDepth 100000 in
set_option maxHeartbeats 8000000 in
theorem begin_any (b : Br) (c : Cm) (a : Option Addr) (cap n : Nat) (xs : List Int) (t : Tr) (w : World) (ht : begT c xs = t) (hn : n = xs.length) (hw : WordsIn w a cap xs) (hu : ∀ x ∈ xs, inU x) (hb : BdB b) (hc : BdC b c) :
    Calls Try.prog 45 #[.agg #[.int .i64 c.water.1, .int .i64 c.water.2, .int .i64 c.fat.1, .int .i64 c.fat.2, .int .i64 c.sore.1, .int .i64 c.sore.2, .bool c.milks], .slice a n cap] w fun e w' => e = .returned (.agg #[.int .i64 t.water, .int .i64 t.fat, .int .i64 t.sore]) ∧ Below w.heap.size w w' := by
  have HN := Lib.hid hn
  have HW := Lib.hid hw
  obtain ⟨x0, hx0⟩ : ∃ v, atS xs 0 = v := ⟨_, rfl⟩
  obtain ⟨x1, hx1⟩ : ∃ v, atS xs 1 = v := ⟨_, rfl⟩
  obtain ⟨x2, hx2⟩ : ∃ v, atS xs 2 = v := ⟨_, rfl⟩
  obtain ⟨p0, hp0⟩ : ∃ v, pickS c.water x0 = v := ⟨_, rfl⟩
  obtain ⟨p1, hp1⟩ : ∃ v, pickS c.fat x1 = v := ⟨_, rfl⟩
  obtain ⟨p2, hp2⟩ : ∃ v, pickS c.sore x2 = v := ⟨_, rfl⟩
  have U0 := Lib.hid (show inU x0 from hx0 ▸ atS_in hu 0)
  have U1 := Lib.hid (show inU x1 from hx1 ▸ atS_in hu 1)
  have U2 := Lib.hid (show inU x2 from hx2 ▸ atS_in hu 2)
  have X0 := Lib.hid hx0
  have X1 := Lib.hid hx1
  have X2 := Lib.hid hx2
  have P0 := Lib.hid hp0
  have P1 := Lib.hid hp1
  have P2 := Lib.hid hp2
  have HT := Lib.hid (show t = ⟨100000 * p0, 100000 * p1, 1000000 * p2⟩ by rw [← ht, begT, hx0, hx1, hx2, hp0, hp1, hp2])
  have b1 := hb.full
  have b2 := hb.fed
  obtain ⟨c1, c2, c3⟩ := hc.water
  obtain ⟨c4, c5, c6⟩ := hc.fat
  obtain ⟨c7, c8, c9⟩ := hc.sore
  have i0 := pickS_in c2 x0
  have i1 := pickS_in c5 x1
  have i2 := pickS_in c8 x2
  rw [hp0] at i0
  rw [hp1] at i1
  rw [hp2] at i2
  obtain ⟨i01, i02⟩ := i0
  obtain ⟨i11, i12⟩ := i1
  obtain ⟨i21, i22⟩ := i2
  clear ht hn hw hu hb hc hx0 hx1 hx2 hp0 hp1 hp2
  go_enter Try.func45, Try.ntmps45
  go_wp2_with fail
  have rcW0 : rowOf ((w.alloc (.cells #[.int .i64 c.water.1, .int .i64 c.water.2, .int .i64 c.fat.1, .int .i64 c.fat.2, .int .i64 c.sore.1, .int .i64 c.sore.2, .bool c.milks] 39)).alloc (.cells #[.int .i64 0, .int .i64 0, .int .i64 0] 85)) w.heap.size = some #[.int .i64 c.water.1, .int .i64 c.water.2, .int .i64 c.fat.1, .int .i64 c.fat.2, .int .i64 c.sore.1, .int .i64 c.sore.2, .bool c.milks] := (by repeat (first | with_reducible assumption | with_reducible apply row_here0 | with_reducible apply row_here1 | with_reducible apply row_here2 | with_reducible apply row_here3 | with_reducible apply rowSkip))
  have rtW0 : rowOf ((w.alloc (.cells #[.int .i64 c.water.1, .int .i64 c.water.2, .int .i64 c.fat.1, .int .i64 c.fat.2, .int .i64 c.sore.1, .int .i64 c.sore.2, .bool c.milks] 39)).alloc (.cells #[.int .i64 0, .int .i64 0, .int .i64 0] 85)) (w.heap.size + 1) = some #[.int .i64 0, .int .i64 0, .int .i64 0] := (by repeat (first | with_reducible assumption | with_reducible apply row_here0 | with_reducible apply row_here1 | with_reducible apply row_here2 | with_reducible apply row_here3 | with_reducible apply rowSkip))
  have hB0 : Below w.heap.size w ((w.alloc (.cells #[.int .i64 c.water.1, .int .i64 c.water.2, .int .i64 c.fat.1, .int .i64 c.fat.2, .int .i64 c.sore.1, .int .i64 c.sore.2, .bool c.milks] 39)).alloc (.cells #[.int .i64 0, .int .i64 0, .int .i64 0] 85)) := by go_grown
  generalize ((w.alloc (.cells #[.int .i64 c.water.1, .int .i64 c.water.2, .int .i64 c.fat.1, .int .i64 c.fat.2, .int .i64 c.sore.1, .int .i64 c.sore.2, .bool c.milks] 39)).alloc (.cells #[.int .i64 0, .int .i64 0, .int .i64 0] 85)) = W0 at *
  refine wp_drawsR (by kernel_rfl) [] [some 5, some 6, some 7, some 8, some 9, some 10, some 11, some 12, some 13, some 14, some 15, some 16, some 17, some 18, some 19, some 20, some 21, some 22, some 23] (by kernel_rfl) (fun ix v W => match ix with
    | 0 => v = .pointer (some ⟨w.heap.size, 0, none⟩)
    | 1 => v = .agg #[.int .i64 c.water.1, .int .i64 c.water.2]
    | 2 => v = .slice a n cap
    | 3 => v = .int .u32 x0
    | 4 => v = .int .i64 p0
    | 5 => v = .int .i64 (100000 * p0)
    | 6 => v = .pointer (some ⟨w.heap.size, 2, none⟩)
    | 7 => v = .agg #[.int .i64 c.fat.1, .int .i64 c.fat.2]
    | 8 => v = .slice a n cap
    | 9 => v = .int .u32 x1
    | 10 => v = .int .i64 p1
    | 11 => v = .int .i64 (100000 * p1)
    | 12 => v = .pointer (some ⟨w.heap.size, 4, none⟩)
    | 13 => v = .agg #[.int .i64 c.sore.1, .int .i64 c.sore.2]
    | 14 => v = .slice a n cap
    | 15 => v = .int .u32 x2
    | 16 => v = .int .i64 p2
    | 17 => v = .int .i64 (1000000 * p2)
    | 18 => v = .agg #[.int .i64 (100000 * p0), .int .i64 (100000 * p1), .int .i64 (1000000 * p2)]
    | _ => True) ⟨⟨?_, ?_⟩, ⟨?_, ?_⟩, ⟨?_, ?_⟩, ⟨?_, ?_⟩, ⟨?_, ?_⟩, ⟨?_, ?_⟩, ⟨?_, ?_⟩, ⟨?_, ?_⟩, ⟨?_, ?_⟩, ⟨?_, ?_⟩, ⟨?_, ?_⟩, ⟨?_, ?_⟩, ⟨?_, ?_⟩, ⟨?_, ?_⟩, ⟨?_, ?_⟩, ⟨?_, ?_⟩, ⟨?_, ?_⟩, ⟨?_, ?_⟩, ⟨?_, ?_⟩, ?_⟩
  · intro g h; cases h
  · intro b' W hE hb hdep K hK
    have e2 : b'.tmps[2]?.getD undef = .pointer (some ⟨w.heap.size, 0, none⟩) := hb 2 (by decide)
    clear hdep hb
    go_wp2
    exact hK _ _ (XT.refl _ _) rfl
  · intro g h; cases h
  · intro b' W hE hb hdep K hK
    have e5 : b'.tmps[5]?.getD undef = .pointer (some ⟨w.heap.size, 0, none⟩) := pureX (hdep 0 (some 5) (by kernel_rfl) rfl)
    clear hdep hb
    obtain ⟨_, _, -, _⟩ := row_facts (hE.row ((rowOf_drew _ _).trans rcW0) (by first | (simp; done) | (simp; omega)))
    go_wp2
    exact hK _ _ (XT.refl _ _) rfl
  · intro g h; cases h
  · intro b' W hE hb hdep K hK
    have e1 : b'.tmps[1]?.getD undef = .slice a n cap := hb 1 (by decide)
    clear hdep hb
    go_wp2
    exact hK _ _ (XT.refl _ _) rfl
  · intro g h; cases h
  · intro b' W hE hb hdep K hK
    have e7 : b'.tmps[7]?.getD undef = .slice a n cap := pureX (hdep 2 (some 7) (by kernel_rfl) rfl)
    clear hdep hb
    go_wp2_with fail
    refine (at_n 0 a cap n xs 0 x0 _ rfl (by omega) HN.out (HW.out.behind hB0 (xt_ext2 hE)) X0.out).mono ?_
    rintro e W' ⟨rfl, hB⟩
    exact hK _ _ (Ext.xt hB) rfl
  · intro g h; cases h
  · intro b' W hE hb hdep K hK
    have e6 : b'.tmps[6]?.getD undef = .agg #[.int .i64 c.water.1, .int .i64 c.water.2] := pureX (hdep 1 (some 6) (by kernel_rfl) rfl)
    have e8 : b'.tmps[8]?.getD undef = .int .u32 x0 := pureX (hdep 3 (some 8) (by kernel_rfl) rfl)
    clear hdep hb
    go_wp2_with fail
    refine (pick_any c.water x0 p0 _ (by omega) (by omega) (by omega) U0.out P0.out).mono ?_
    rintro e W' ⟨rfl, hB⟩
    exact hK _ _ (Ext.xt hB) rfl
  · intro g h; cases h
  · intro b' W hE hb hdep K hK
    have e9 : b'.tmps[9]?.getD undef = .int .i64 p0 := pureX (hdep 4 (some 9) (by kernel_rfl) rfl)
    clear hdep hb
    go_wp2
    exact hK _ _ (XT.refl _ _) rfl
  · intro g h; cases h
  · intro b' W hE hb hdep K hK
    have e2 : b'.tmps[2]?.getD undef = .pointer (some ⟨w.heap.size, 0, none⟩) := hb 2 (by decide)
    clear hdep hb
    go_wp2
    exact hK _ _ (XT.refl _ _) rfl
  · intro g h; cases h
  · intro b' W hE hb hdep K hK
    have e11 : b'.tmps[11]?.getD undef = .pointer (some ⟨w.heap.size, 2, none⟩) := pureX (hdep 6 (some 11) (by kernel_rfl) rfl)
    clear hdep hb
    obtain ⟨_, _, -, _⟩ := row_facts (hE.row ((rowOf_drew _ _).trans rcW0) (by first | (simp; done) | (simp; omega)))
    go_wp2
    exact hK _ _ (XT.refl _ _) rfl
  · intro g h; cases h
  · intro b' W hE hb hdep K hK
    have e1 : b'.tmps[1]?.getD undef = .slice a n cap := hb 1 (by decide)
    clear hdep hb
    go_wp2
    exact hK _ _ (XT.refl _ _) rfl
  · intro g h; cases h
  · intro b' W hE hb hdep K hK
    have e13 : b'.tmps[13]?.getD undef = .slice a n cap := pureX (hdep 8 (some 13) (by kernel_rfl) rfl)
    clear hdep hb
    go_wp2_with fail
    refine (at_n 1 a cap n xs 1 x1 _ rfl (by omega) HN.out (HW.out.behind hB0 (xt_ext2 hE)) X1.out).mono ?_
    rintro e W' ⟨rfl, hB⟩
    exact hK _ _ (Ext.xt hB) rfl
  · intro g h; cases h
  · intro b' W hE hb hdep K hK
    have e12 : b'.tmps[12]?.getD undef = .agg #[.int .i64 c.fat.1, .int .i64 c.fat.2] := pureX (hdep 7 (some 12) (by kernel_rfl) rfl)
    have e14 : b'.tmps[14]?.getD undef = .int .u32 x1 := pureX (hdep 9 (some 14) (by kernel_rfl) rfl)
    clear hdep hb
    go_wp2_with fail
    refine (pick_any c.fat x1 p1 _ (by omega) (by omega) (by omega) U1.out P1.out).mono ?_
    rintro e W' ⟨rfl, hB⟩
    exact hK _ _ (Ext.xt hB) rfl
  · intro g h; cases h
  · intro b' W hE hb hdep K hK
    have e15 : b'.tmps[15]?.getD undef = .int .i64 p1 := pureX (hdep 10 (some 15) (by kernel_rfl) rfl)
    clear hdep hb
    go_wp2
    exact hK _ _ (XT.refl _ _) rfl
  · intro g h; cases h
  · intro b' W hE hb hdep K hK
    have e2 : b'.tmps[2]?.getD undef = .pointer (some ⟨w.heap.size, 0, none⟩) := hb 2 (by decide)
    clear hdep hb
    go_wp2
    exact hK _ _ (XT.refl _ _) rfl
  · intro g h; cases h
  · intro b' W hE hb hdep K hK
    have e17 : b'.tmps[17]?.getD undef = .pointer (some ⟨w.heap.size, 4, none⟩) := pureX (hdep 12 (some 17) (by kernel_rfl) rfl)
    clear hdep hb
    obtain ⟨_, _, -, _⟩ := row_facts (hE.row ((rowOf_drew _ _).trans rcW0) (by first | (simp; done) | (simp; omega)))
    go_wp2
    exact hK _ _ (XT.refl _ _) rfl
  · intro g h; cases h
  · intro b' W hE hb hdep K hK
    have e1 : b'.tmps[1]?.getD undef = .slice a n cap := hb 1 (by decide)
    clear hdep hb
    go_wp2
    exact hK _ _ (XT.refl _ _) rfl
  · intro g h; cases h
  · intro b' W hE hb hdep K hK
    have e19 : b'.tmps[19]?.getD undef = .slice a n cap := pureX (hdep 14 (some 19) (by kernel_rfl) rfl)
    clear hdep hb
    go_wp2_with fail
    refine (at_n 2 a cap n xs 2 x2 _ rfl (by omega) HN.out (HW.out.behind hB0 (xt_ext2 hE)) X2.out).mono ?_
    rintro e W' ⟨rfl, hB⟩
    exact hK _ _ (Ext.xt hB) rfl
  · intro g h; cases h
  · intro b' W hE hb hdep K hK
    have e18 : b'.tmps[18]?.getD undef = .agg #[.int .i64 c.sore.1, .int .i64 c.sore.2] := pureX (hdep 13 (some 18) (by kernel_rfl) rfl)
    have e20 : b'.tmps[20]?.getD undef = .int .u32 x2 := pureX (hdep 15 (some 20) (by kernel_rfl) rfl)
    clear hdep hb
    go_wp2_with fail
    refine (pick_any c.sore x2 p2 _ (by omega) (by omega) (by omega) U2.out P2.out).mono ?_
    rintro e W' ⟨rfl, hB⟩
    exact hK _ _ (Ext.xt hB) rfl
  · intro g h; cases h
  · intro b' W hE hb hdep K hK
    have e21 : b'.tmps[21]?.getD undef = .int .i64 p2 := pureX (hdep 16 (some 21) (by kernel_rfl) rfl)
    clear hdep hb
    go_wp2
    exact hK _ _ (XT.refl _ _) rfl
  · intro g h; cases h
  · intro b' W hE hb hdep K hK
    have e10 : b'.tmps[10]?.getD undef = .int .i64 (100000 * p0) := pureX (hdep 5 (some 10) (by kernel_rfl) rfl)
    have e16 : b'.tmps[16]?.getD undef = .int .i64 (100000 * p1) := pureX (hdep 11 (some 16) (by kernel_rfl) rfl)
    have e22 : b'.tmps[22]?.getD undef = .int .i64 (1000000 * p2) := pureX (hdep 17 (some 22) (by kernel_rfl) rfl)
    clear hdep hb
    go_wp2
    exact hK _ _ (XT.refl _ _) rfl
  intro f W hE hR
  have e5 : f 5 = .pointer (some ⟨w.heap.size, 0, none⟩) := pureX (hR 0 (some 5) rfl)
  have e6 : f 6 = .agg #[.int .i64 c.water.1, .int .i64 c.water.2] := pureX (hR 1 (some 6) rfl)
  have e7 : f 7 = .slice a n cap := pureX (hR 2 (some 7) rfl)
  have e8 : f 8 = .int .u32 x0 := pureX (hR 3 (some 8) rfl)
  have e9 : f 9 = .int .i64 p0 := pureX (hR 4 (some 9) rfl)
  have e10 : f 10 = .int .i64 (100000 * p0) := pureX (hR 5 (some 10) rfl)
  have e11 : f 11 = .pointer (some ⟨w.heap.size, 2, none⟩) := pureX (hR 6 (some 11) rfl)
  have e12 : f 12 = .agg #[.int .i64 c.fat.1, .int .i64 c.fat.2] := pureX (hR 7 (some 12) rfl)
  have e13 : f 13 = .slice a n cap := pureX (hR 8 (some 13) rfl)
  have e14 : f 14 = .int .u32 x1 := pureX (hR 9 (some 14) rfl)
  have e15 : f 15 = .int .i64 p1 := pureX (hR 10 (some 15) rfl)
  have e16 : f 16 = .int .i64 (100000 * p1) := pureX (hR 11 (some 16) rfl)
  have e17 : f 17 = .pointer (some ⟨w.heap.size, 4, none⟩) := pureX (hR 12 (some 17) rfl)
  have e18 : f 18 = .agg #[.int .i64 c.sore.1, .int .i64 c.sore.2] := pureX (hR 13 (some 18) rfl)
  have e19 : f 19 = .slice a n cap := pureX (hR 14 (some 19) rfl)
  have e20 : f 20 = .int .u32 x2 := pureX (hR 15 (some 20) rfl)
  have e21 : f 21 = .int .i64 p2 := pureX (hR 16 (some 21) rfl)
  have e22 : f 22 = .int .i64 (1000000 * p2) := pureX (hR 17 (some 22) rfl)
  have e23 : f 23 = .agg #[.int .i64 (100000 * p0), .int .i64 (100000 * p1), .int .i64 (1000000 * p2)] := pureX (hR 18 (some 23) rfl)
  clear hR
  have xE := drew_ext (xt_ext2 hE)
  refine wpL_store_known rfl 85 (.tmp 4) (.tmp 23) rfl (vs := #[.int .i64 (100000 * p0), .int .i64 (100000 * p1), .int .i64 (1000000 * p2)]) (h := w.heap.size + 1) ((puts_eval (by decide) rfl).trans e23) (puts_other (by decide)) (xE.row rtW0) (by kernel_rfl) rfl (by simp [one_int]) ?_
  intro W1 hS
  have hW1 : Below w.heap.size w W1 := (hB0.trans (Below.mono xE hB0.size)).trans (hS.below _ (by omega))
  simp only [List.filterMap_cons, List.filterMap_nil, id, puts, Act.put, List.setIfInBounds_toArray, List.set_cons_succ, List.set_cons_zero, e5, e6, e7, e8, e9, e10, e11, e12, e13, e14, e15, e16, e17, e18, e19, e20, e21, e22, e23]
  go_wp2
  exact bodyPost_ret (res85 Try.results45 rfl hS.row rfl) rfl ⟨by rw [HT.out], hW1⟩

set_option maxRecDepth 100000 in
set_option maxHeartbeats 8000000 in
theorem in_yes (b : Br) (c : Cm) (t : Tr) (gt : Nat) (w : World) (rt : rowOf w gt = some #[.int .i64 t.water, .int .i64 t.fat, .int .i64 t.sore]) (hb : BdB b) (hc : BdC b c) (ht : Tin t c) :
    Calls Try.prog 48 #[.pointer (some ⟨gt, 0, none⟩), .agg #[.int .i64 c.water.1, .int .i64 c.water.2, .int .i64 c.fat.1, .int .i64 c.fat.2, .int .i64 c.sore.1, .int .i64 c.sore.2, .bool c.milks]] w fun e w' => e = .returned (.bool true) ∧ Below w.heap.size w w' := by
  have b1 := hb.full
  have b2 := hb.fed
  obtain ⟨c1, c2, c3⟩ := hc.water
  obtain ⟨c4, c5, c6⟩ := hc.fat
  obtain ⟨c7, c8, c9⟩ := hc.sore
  obtain ⟨t1, t2, t3, t4, t5, t6⟩ := ht
  obtain ⟨rtE, ctE, gtE, ztE⟩ := row_facts rt
  have hne : gt ≠ w.heap.size := by omega
  clear rt hb hc
  go_enter Try.func48, Try.ntmps48
  go_wp2
  have rcW0 : rowOf (w.alloc (.cells #[.int .i64 c.water.1, .int .i64 c.water.2, .int .i64 c.fat.1, .int .i64 c.fat.2, .int .i64 c.sore.1, .int .i64 c.sore.2, .bool c.milks] 39)) w.heap.size = some #[.int .i64 c.water.1, .int .i64 c.water.2, .int .i64 c.fat.1, .int .i64 c.fat.2, .int .i64 c.sore.1, .int .i64 c.sore.2, .bool c.milks] := (by repeat (first | with_reducible assumption | with_reducible apply row_here0 | with_reducible apply row_here1 | with_reducible apply row_here2 | with_reducible apply row_here3 | with_reducible apply rowSkip))
  have rtW0 : rowOf (w.alloc (.cells #[.int .i64 c.water.1, .int .i64 c.water.2, .int .i64 c.fat.1, .int .i64 c.fat.2, .int .i64 c.sore.1, .int .i64 c.sore.2, .bool c.milks] 39)) gt = some #[.int .i64 t.water, .int .i64 t.fat, .int .i64 t.sore] := rowSkip rtE
  have hB0 : Below w.heap.size w (w.alloc (.cells #[.int .i64 c.water.1, .int .i64 c.water.2, .int .i64 c.fat.1, .int .i64 c.fat.2, .int .i64 c.sore.1, .int .i64 c.sore.2, .bool c.milks] 39)) := by go_grown
  clear rtE ctE gtE
  generalize (w.alloc (.cells #[.int .i64 c.water.1, .int .i64 c.water.2, .int .i64 c.fat.1, .int .i64 c.fat.2, .int .i64 c.sore.1, .int .i64 c.sore.2, .bool c.milks] 39)) = W0 at *
  refine quiet_wp (by kernel_rfl) (by kernel_rfl) ?_
  refine quiet_step rfl (.pointer (some ⟨gt, 0, none⟩)) (fun W hE => ?_) ?_
  · show Oper.quietUpon _ _ _ _ _
    go_simp
    try exact ⟨rfl, rfl⟩
  simp only [Act.put, List.setIfInBounds_toArray, List.set_cons_succ, List.set_cons_zero]
  refine quiet_step rfl (.pointer (some ⟨gt, 0, none⟩)) (fun W hE => ?_) ?_
  · show Oper.quietUpon _ _ _ _ _
    go_simp
    try exact ⟨rfl, rfl⟩
  simp only [Act.put, List.setIfInBounds_toArray, List.set_cons_succ, List.set_cons_zero]
  refine quiet_step rfl (.pointer (some ⟨gt, 0, none⟩)) (fun W hE => ?_) ?_
  · show Oper.quietUpon _ _ _ _ _
    go_simp
    try exact ⟨rfl, rfl⟩
  simp only [Act.put, List.setIfInBounds_toArray, List.set_cons_succ, List.set_cons_zero]
  refine quiet_step rfl (.int .i64 t.water) (fun W hE => ?_) ?_
  · show Oper.quietUpon _ _ _ _ _
    obtain ⟨_, _, -, _⟩ := keep_row hE (rcW0 : rowOf _ _ = _)
    obtain ⟨_, _, -, _⟩ := keep_row hE (rtW0 : rowOf _ _ = _)
    go_simp
    try exact ⟨rfl, rfl⟩
  simp only [Act.put, List.setIfInBounds_toArray, List.set_cons_succ, List.set_cons_zero]
  refine quiet_step rfl (.pointer (some ⟨w.heap.size, 0, none⟩)) (fun W hE => ?_) ?_
  · show Oper.quietUpon _ _ _ _ _
    go_simp
    try exact ⟨rfl, rfl⟩
  simp only [Act.put, List.setIfInBounds_toArray, List.set_cons_succ, List.set_cons_zero]
  refine quiet_step rfl (.pointer (some ⟨w.heap.size, 0, none⟩)) (fun W hE => ?_) ?_
  · show Oper.quietUpon _ _ _ _ _
    go_simp
    try exact ⟨rfl, rfl⟩
  simp only [Act.put, List.setIfInBounds_toArray, List.set_cons_succ, List.set_cons_zero]
  refine quiet_step rfl (.int .i64 c.water.1) (fun W hE => ?_) ?_
  · show Oper.quietUpon _ _ _ _ _
    obtain ⟨_, _, -, _⟩ := keep_row hE (rcW0 : rowOf _ _ = _)
    obtain ⟨_, _, -, _⟩ := keep_row hE (rtW0 : rowOf _ _ = _)
    go_simp
    try exact ⟨rfl, rfl⟩
  simp only [Act.put, List.setIfInBounds_toArray, List.set_cons_succ, List.set_cons_zero]
  refine quiet_step rfl (.int .i64 (100000 * c.water.1)) (fun W hE => ?_) ?_
  · show Oper.quietUpon _ _ _ _ _
    go_simp
    exact IntWalk.i64_in _ ⟨by omega, by omega⟩
  simp only [Act.put, List.setIfInBounds_toArray, List.set_cons_succ, List.set_cons_zero]
  refine quiet_step rfl (.bool true) (fun W hE => ?_) ?_
  · show Oper.quietUpon _ _ _ _ _
    go_simp
    try exact ⟨rfl, rfl⟩
  simp only [Act.put, List.setIfInBounds_toArray, List.set_cons_succ, List.set_cons_zero]
  refine quiet_step rfl (.bool true) (fun W hE => ?_) ?_
  · show Oper.quietUpon _ _ _ _ _
    go_simp
    try exact ⟨rfl, rfl⟩
  simp only [Act.put, List.setIfInBounds_toArray, List.set_cons_succ, List.set_cons_zero]
  refine quiet_step rfl (.pointer (some ⟨gt, 0, none⟩)) (fun W hE => ?_) ?_
  · show Oper.quietUpon _ _ _ _ _
    go_simp
    try exact ⟨rfl, rfl⟩
  simp only [Act.put, List.setIfInBounds_toArray, List.set_cons_succ, List.set_cons_zero]
  refine quiet_step rfl (.pointer (some ⟨gt, 0, none⟩)) (fun W hE => ?_) ?_
  · show Oper.quietUpon _ _ _ _ _
    go_simp
    try exact ⟨rfl, rfl⟩
  simp only [Act.put, List.setIfInBounds_toArray, List.set_cons_succ, List.set_cons_zero]
  refine quiet_step rfl (.pointer (some ⟨gt, 0, none⟩)) (fun W hE => ?_) ?_
  · show Oper.quietUpon _ _ _ _ _
    go_simp
    try exact ⟨rfl, rfl⟩
  simp only [Act.put, List.setIfInBounds_toArray, List.set_cons_succ, List.set_cons_zero]
  refine quiet_step rfl (.int .i64 t.water) (fun W hE => ?_) ?_
  · show Oper.quietUpon _ _ _ _ _
    obtain ⟨_, _, -, _⟩ := keep_row hE (rcW0 : rowOf _ _ = _)
    obtain ⟨_, _, -, _⟩ := keep_row hE (rtW0 : rowOf _ _ = _)
    go_simp
    try exact ⟨rfl, rfl⟩
  simp only [Act.put, List.setIfInBounds_toArray, List.set_cons_succ, List.set_cons_zero]
  refine quiet_step rfl (.pointer (some ⟨w.heap.size, 0, none⟩)) (fun W hE => ?_) ?_
  · show Oper.quietUpon _ _ _ _ _
    go_simp
    try exact ⟨rfl, rfl⟩
  simp only [Act.put, List.setIfInBounds_toArray, List.set_cons_succ, List.set_cons_zero]
  refine quiet_step rfl (.pointer (some ⟨w.heap.size, 1, none⟩)) (fun W hE => ?_) ?_
  · show Oper.quietUpon _ _ _ _ _
    go_simp
    try exact ⟨rfl, rfl⟩
  simp only [Act.put, List.setIfInBounds_toArray, List.set_cons_succ, List.set_cons_zero]
  refine quiet_step rfl (.int .i64 c.water.2) (fun W hE => ?_) ?_
  · show Oper.quietUpon _ _ _ _ _
    obtain ⟨_, _, -, _⟩ := keep_row hE (rcW0 : rowOf _ _ = _)
    obtain ⟨_, _, -, _⟩ := keep_row hE (rtW0 : rowOf _ _ = _)
    go_simp
    try exact ⟨rfl, rfl⟩
  simp only [Act.put, List.setIfInBounds_toArray, List.set_cons_succ, List.set_cons_zero]
  refine quiet_step rfl (.int .i64 (100000 * c.water.2)) (fun W hE => ?_) ?_
  · show Oper.quietUpon _ _ _ _ _
    go_simp
    exact IntWalk.i64_in _ ⟨by omega, by omega⟩
  simp only [Act.put, List.setIfInBounds_toArray, List.set_cons_succ, List.set_cons_zero]
  refine quiet_step rfl (.bool true) (fun W hE => ?_) ?_
  · show Oper.quietUpon _ _ _ _ _
    go_simp
    try exact ⟨rfl, rfl⟩
  simp only [Act.put, List.setIfInBounds_toArray, List.set_cons_succ, List.set_cons_zero]
  refine quiet_step rfl (.bool true) (fun W hE => ?_) ?_
  · show Oper.quietUpon _ _ _ _ _
    go_simp
    try exact ⟨rfl, rfl⟩
  simp only [Act.put, List.setIfInBounds_toArray, List.set_cons_succ, List.set_cons_zero]
  refine quiet_step rfl (.bool true) (fun W hE => ?_) ?_
  · show Oper.quietUpon _ _ _ _ _
    go_simp
    try exact ⟨rfl, rfl⟩
  simp only [Act.put, List.setIfInBounds_toArray, List.set_cons_succ, List.set_cons_zero]
  refine quiet_step rfl (.pointer (some ⟨gt, 0, none⟩)) (fun W hE => ?_) ?_
  · show Oper.quietUpon _ _ _ _ _
    go_simp
    try exact ⟨rfl, rfl⟩
  simp only [Act.put, List.setIfInBounds_toArray, List.set_cons_succ, List.set_cons_zero]
  refine quiet_step rfl (.pointer (some ⟨gt, 0, none⟩)) (fun W hE => ?_) ?_
  · show Oper.quietUpon _ _ _ _ _
    go_simp
    try exact ⟨rfl, rfl⟩
  simp only [Act.put, List.setIfInBounds_toArray, List.set_cons_succ, List.set_cons_zero]
  refine quiet_step rfl (.pointer (some ⟨gt, 1, none⟩)) (fun W hE => ?_) ?_
  · show Oper.quietUpon _ _ _ _ _
    go_simp
    try exact ⟨rfl, rfl⟩
  simp only [Act.put, List.setIfInBounds_toArray, List.set_cons_succ, List.set_cons_zero]
  refine quiet_step rfl (.int .i64 t.fat) (fun W hE => ?_) ?_
  · show Oper.quietUpon _ _ _ _ _
    obtain ⟨_, _, -, _⟩ := keep_row hE (rcW0 : rowOf _ _ = _)
    obtain ⟨_, _, -, _⟩ := keep_row hE (rtW0 : rowOf _ _ = _)
    go_simp
    try exact ⟨rfl, rfl⟩
  simp only [Act.put, List.setIfInBounds_toArray, List.set_cons_succ, List.set_cons_zero]
  refine quiet_step rfl (.pointer (some ⟨w.heap.size, 2, none⟩)) (fun W hE => ?_) ?_
  · show Oper.quietUpon _ _ _ _ _
    go_simp
    try exact ⟨rfl, rfl⟩
  simp only [Act.put, List.setIfInBounds_toArray, List.set_cons_succ, List.set_cons_zero]
  refine quiet_step rfl (.pointer (some ⟨w.heap.size, 2, none⟩)) (fun W hE => ?_) ?_
  · show Oper.quietUpon _ _ _ _ _
    go_simp
    try exact ⟨rfl, rfl⟩
  simp only [Act.put, List.setIfInBounds_toArray, List.set_cons_succ, List.set_cons_zero]
  refine quiet_step rfl (.int .i64 c.fat.1) (fun W hE => ?_) ?_
  · show Oper.quietUpon _ _ _ _ _
    obtain ⟨_, _, -, _⟩ := keep_row hE (rcW0 : rowOf _ _ = _)
    obtain ⟨_, _, -, _⟩ := keep_row hE (rtW0 : rowOf _ _ = _)
    go_simp
    try exact ⟨rfl, rfl⟩
  simp only [Act.put, List.setIfInBounds_toArray, List.set_cons_succ, List.set_cons_zero]
  refine quiet_step rfl (.int .i64 (100000 * c.fat.1)) (fun W hE => ?_) ?_
  · show Oper.quietUpon _ _ _ _ _
    go_simp
    exact IntWalk.i64_in _ ⟨by omega, by omega⟩
  simp only [Act.put, List.setIfInBounds_toArray, List.set_cons_succ, List.set_cons_zero]
  refine quiet_step rfl (.bool true) (fun W hE => ?_) ?_
  · show Oper.quietUpon _ _ _ _ _
    go_simp
    try exact ⟨rfl, rfl⟩
  simp only [Act.put, List.setIfInBounds_toArray, List.set_cons_succ, List.set_cons_zero]
  refine quiet_step rfl (.bool true) (fun W hE => ?_) ?_
  · show Oper.quietUpon _ _ _ _ _
    go_simp
    try exact ⟨rfl, rfl⟩
  simp only [Act.put, List.setIfInBounds_toArray, List.set_cons_succ, List.set_cons_zero]
  refine quiet_step rfl (.bool true) (fun W hE => ?_) ?_
  · show Oper.quietUpon _ _ _ _ _
    go_simp
    try exact ⟨rfl, rfl⟩
  simp only [Act.put, List.setIfInBounds_toArray, List.set_cons_succ, List.set_cons_zero]
  refine quiet_step rfl (.pointer (some ⟨gt, 0, none⟩)) (fun W hE => ?_) ?_
  · show Oper.quietUpon _ _ _ _ _
    go_simp
    try exact ⟨rfl, rfl⟩
  simp only [Act.put, List.setIfInBounds_toArray, List.set_cons_succ, List.set_cons_zero]
  refine quiet_step rfl (.pointer (some ⟨gt, 0, none⟩)) (fun W hE => ?_) ?_
  · show Oper.quietUpon _ _ _ _ _
    go_simp
    try exact ⟨rfl, rfl⟩
  simp only [Act.put, List.setIfInBounds_toArray, List.set_cons_succ, List.set_cons_zero]
  refine quiet_step rfl (.pointer (some ⟨gt, 1, none⟩)) (fun W hE => ?_) ?_
  · show Oper.quietUpon _ _ _ _ _
    go_simp
    try exact ⟨rfl, rfl⟩
  simp only [Act.put, List.setIfInBounds_toArray, List.set_cons_succ, List.set_cons_zero]
  refine quiet_step rfl (.int .i64 t.fat) (fun W hE => ?_) ?_
  · show Oper.quietUpon _ _ _ _ _
    obtain ⟨_, _, -, _⟩ := keep_row hE (rcW0 : rowOf _ _ = _)
    obtain ⟨_, _, -, _⟩ := keep_row hE (rtW0 : rowOf _ _ = _)
    go_simp
    try exact ⟨rfl, rfl⟩
  simp only [Act.put, List.setIfInBounds_toArray, List.set_cons_succ, List.set_cons_zero]
  refine quiet_step rfl (.pointer (some ⟨w.heap.size, 2, none⟩)) (fun W hE => ?_) ?_
  · show Oper.quietUpon _ _ _ _ _
    go_simp
    try exact ⟨rfl, rfl⟩
  simp only [Act.put, List.setIfInBounds_toArray, List.set_cons_succ, List.set_cons_zero]
  refine quiet_step rfl (.pointer (some ⟨w.heap.size, 3, none⟩)) (fun W hE => ?_) ?_
  · show Oper.quietUpon _ _ _ _ _
    go_simp
    try exact ⟨rfl, rfl⟩
  simp only [Act.put, List.setIfInBounds_toArray, List.set_cons_succ, List.set_cons_zero]
  refine quiet_step rfl (.int .i64 c.fat.2) (fun W hE => ?_) ?_
  · show Oper.quietUpon _ _ _ _ _
    obtain ⟨_, _, -, _⟩ := keep_row hE (rcW0 : rowOf _ _ = _)
    obtain ⟨_, _, -, _⟩ := keep_row hE (rtW0 : rowOf _ _ = _)
    go_simp
    try exact ⟨rfl, rfl⟩
  simp only [Act.put, List.setIfInBounds_toArray, List.set_cons_succ, List.set_cons_zero]
  refine quiet_step rfl (.int .i64 (100000 * c.fat.2)) (fun W hE => ?_) ?_
  · show Oper.quietUpon _ _ _ _ _
    go_simp
    exact IntWalk.i64_in _ ⟨by omega, by omega⟩
  simp only [Act.put, List.setIfInBounds_toArray, List.set_cons_succ, List.set_cons_zero]
  refine quiet_step rfl (.bool true) (fun W hE => ?_) ?_
  · show Oper.quietUpon _ _ _ _ _
    go_simp
    try exact ⟨rfl, rfl⟩
  simp only [Act.put, List.setIfInBounds_toArray, List.set_cons_succ, List.set_cons_zero]
  refine quiet_step rfl (.bool true) (fun W hE => ?_) ?_
  · show Oper.quietUpon _ _ _ _ _
    go_simp
    try exact ⟨rfl, rfl⟩
  simp only [Act.put, List.setIfInBounds_toArray, List.set_cons_succ, List.set_cons_zero]
  refine quiet_step rfl (.bool true) (fun W hE => ?_) ?_
  · show Oper.quietUpon _ _ _ _ _
    go_simp
    try exact ⟨rfl, rfl⟩
  simp only [Act.put, List.setIfInBounds_toArray, List.set_cons_succ, List.set_cons_zero]
  refine quiet_step rfl (.pointer (some ⟨gt, 0, none⟩)) (fun W hE => ?_) ?_
  · show Oper.quietUpon _ _ _ _ _
    go_simp
    try exact ⟨rfl, rfl⟩
  simp only [Act.put, List.setIfInBounds_toArray, List.set_cons_succ, List.set_cons_zero]
  refine quiet_step rfl (.pointer (some ⟨gt, 0, none⟩)) (fun W hE => ?_) ?_
  · show Oper.quietUpon _ _ _ _ _
    go_simp
    try exact ⟨rfl, rfl⟩
  simp only [Act.put, List.setIfInBounds_toArray, List.set_cons_succ, List.set_cons_zero]
  refine quiet_step rfl (.pointer (some ⟨gt, 2, none⟩)) (fun W hE => ?_) ?_
  · show Oper.quietUpon _ _ _ _ _
    go_simp
    try exact ⟨rfl, rfl⟩
  simp only [Act.put, List.setIfInBounds_toArray, List.set_cons_succ, List.set_cons_zero]
  refine quiet_step rfl (.int .i64 t.sore) (fun W hE => ?_) ?_
  · show Oper.quietUpon _ _ _ _ _
    obtain ⟨_, _, -, _⟩ := keep_row hE (rcW0 : rowOf _ _ = _)
    obtain ⟨_, _, -, _⟩ := keep_row hE (rtW0 : rowOf _ _ = _)
    go_simp
    try exact ⟨rfl, rfl⟩
  simp only [Act.put, List.setIfInBounds_toArray, List.set_cons_succ, List.set_cons_zero]
  refine quiet_step rfl (.pointer (some ⟨w.heap.size, 4, none⟩)) (fun W hE => ?_) ?_
  · show Oper.quietUpon _ _ _ _ _
    go_simp
    try exact ⟨rfl, rfl⟩
  simp only [Act.put, List.setIfInBounds_toArray, List.set_cons_succ, List.set_cons_zero]
  refine quiet_step rfl (.pointer (some ⟨w.heap.size, 4, none⟩)) (fun W hE => ?_) ?_
  · show Oper.quietUpon _ _ _ _ _
    go_simp
    try exact ⟨rfl, rfl⟩
  simp only [Act.put, List.setIfInBounds_toArray, List.set_cons_succ, List.set_cons_zero]
  refine quiet_step rfl (.int .i64 c.sore.1) (fun W hE => ?_) ?_
  · show Oper.quietUpon _ _ _ _ _
    obtain ⟨_, _, -, _⟩ := keep_row hE (rcW0 : rowOf _ _ = _)
    obtain ⟨_, _, -, _⟩ := keep_row hE (rtW0 : rowOf _ _ = _)
    go_simp
    try exact ⟨rfl, rfl⟩
  simp only [Act.put, List.setIfInBounds_toArray, List.set_cons_succ, List.set_cons_zero]
  refine quiet_step rfl (.int .i64 (1000000 * c.sore.1)) (fun W hE => ?_) ?_
  · show Oper.quietUpon _ _ _ _ _
    go_simp
    exact IntWalk.i64_in _ ⟨by omega, by omega⟩
  simp only [Act.put, List.setIfInBounds_toArray, List.set_cons_succ, List.set_cons_zero]
  refine quiet_step rfl (.bool true) (fun W hE => ?_) ?_
  · show Oper.quietUpon _ _ _ _ _
    go_simp
    try exact ⟨rfl, rfl⟩
  simp only [Act.put, List.setIfInBounds_toArray, List.set_cons_succ, List.set_cons_zero]
  refine quiet_step rfl (.bool true) (fun W hE => ?_) ?_
  · show Oper.quietUpon _ _ _ _ _
    go_simp
    try exact ⟨rfl, rfl⟩
  simp only [Act.put, List.setIfInBounds_toArray, List.set_cons_succ, List.set_cons_zero]
  refine quiet_step rfl (.bool true) (fun W hE => ?_) ?_
  · show Oper.quietUpon _ _ _ _ _
    go_simp
    try exact ⟨rfl, rfl⟩
  simp only [Act.put, List.setIfInBounds_toArray, List.set_cons_succ, List.set_cons_zero]
  refine quiet_step rfl (.pointer (some ⟨gt, 0, none⟩)) (fun W hE => ?_) ?_
  · show Oper.quietUpon _ _ _ _ _
    go_simp
    try exact ⟨rfl, rfl⟩
  simp only [Act.put, List.setIfInBounds_toArray, List.set_cons_succ, List.set_cons_zero]
  refine quiet_step rfl (.pointer (some ⟨gt, 0, none⟩)) (fun W hE => ?_) ?_
  · show Oper.quietUpon _ _ _ _ _
    go_simp
    try exact ⟨rfl, rfl⟩
  simp only [Act.put, List.setIfInBounds_toArray, List.set_cons_succ, List.set_cons_zero]
  refine quiet_step rfl (.pointer (some ⟨gt, 2, none⟩)) (fun W hE => ?_) ?_
  · show Oper.quietUpon _ _ _ _ _
    go_simp
    try exact ⟨rfl, rfl⟩
  simp only [Act.put, List.setIfInBounds_toArray, List.set_cons_succ, List.set_cons_zero]
  refine quiet_step rfl (.int .i64 t.sore) (fun W hE => ?_) ?_
  · show Oper.quietUpon _ _ _ _ _
    obtain ⟨_, _, -, _⟩ := keep_row hE (rcW0 : rowOf _ _ = _)
    obtain ⟨_, _, -, _⟩ := keep_row hE (rtW0 : rowOf _ _ = _)
    go_simp
    try exact ⟨rfl, rfl⟩
  simp only [Act.put, List.setIfInBounds_toArray, List.set_cons_succ, List.set_cons_zero]
  refine quiet_step rfl (.pointer (some ⟨w.heap.size, 4, none⟩)) (fun W hE => ?_) ?_
  · show Oper.quietUpon _ _ _ _ _
    go_simp
    try exact ⟨rfl, rfl⟩
  simp only [Act.put, List.setIfInBounds_toArray, List.set_cons_succ, List.set_cons_zero]
  refine quiet_step rfl (.pointer (some ⟨w.heap.size, 5, none⟩)) (fun W hE => ?_) ?_
  · show Oper.quietUpon _ _ _ _ _
    go_simp
    try exact ⟨rfl, rfl⟩
  simp only [Act.put, List.setIfInBounds_toArray, List.set_cons_succ, List.set_cons_zero]
  refine quiet_step rfl (.int .i64 c.sore.2) (fun W hE => ?_) ?_
  · show Oper.quietUpon _ _ _ _ _
    obtain ⟨_, _, -, _⟩ := keep_row hE (rcW0 : rowOf _ _ = _)
    obtain ⟨_, _, -, _⟩ := keep_row hE (rtW0 : rowOf _ _ = _)
    go_simp
    try exact ⟨rfl, rfl⟩
  simp only [Act.put, List.setIfInBounds_toArray, List.set_cons_succ, List.set_cons_zero]
  refine quiet_step rfl (.int .i64 (1000000 * c.sore.2)) (fun W hE => ?_) ?_
  · show Oper.quietUpon _ _ _ _ _
    go_simp
    exact IntWalk.i64_in _ ⟨by omega, by omega⟩
  simp only [Act.put, List.setIfInBounds_toArray, List.set_cons_succ, List.set_cons_zero]
  refine quiet_step rfl (.bool true) (fun W hE => ?_) ?_
  · show Oper.quietUpon _ _ _ _ _
    go_simp
    try exact ⟨rfl, rfl⟩
  simp only [Act.put, List.setIfInBounds_toArray, List.set_cons_succ, List.set_cons_zero]
  refine quiet_step rfl (.bool true) (fun W hE => ?_) ?_
  · show Oper.quietUpon _ _ _ _ _
    go_simp
    try exact ⟨rfl, rfl⟩
  simp only [Act.put, List.setIfInBounds_toArray, List.set_cons_succ, List.set_cons_zero]
  refine quiet_step rfl (.bool true) (fun W hE => ?_) ?_
  · show Oper.quietUpon _ _ _ _ _
    go_simp
    try exact ⟨rfl, rfl⟩
  simp only [Act.put, List.setIfInBounds_toArray, List.set_cons_succ, List.set_cons_zero]
  refine wpQuiet_nil ?_
  intro W hE
  go_wp2
  go_returns
  exact ⟨rfl, hB0.trans (Below.mono hE hB0.size)⟩
end Go.Proofs.Ytafdcbdbllpcnaa
