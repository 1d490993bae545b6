/- Contract of the reference's Days. -/
import Derived.Test.YtafdcbdbllpcnaaRefI
import Derived.Test.YtafdcbdbllpcnaaLeafQ
import Derived.Test.YtafdcbdbllpcnaaRefA
set_option linter.unusedVariables false
set_option linter.unusedSimpArgs false
namespace Go.Proofs.Ytafdcbdbllpcnaa
open Go.RowKit
open Go.Proofs

attribute [local go_sem ↓] exec36l exec112l exec36s exec112s exec31s exec39s exec39l run_min2 run_max2
attribute [local go_sem] load36 load112 store36 store112 store39 load39 store31at List.setIfInBounds_toArray List.set_cons_succ List.set_cons_zero build39z rowOf_alloc rowOf_drew setRow_alloc one_int one_bool

theorem asked_x (b : Br) (c : Cm) (a : Option Addr) (cap : Nat) (ms : List Mr) (x : Int) (hx : chkT b c ms = x) (w : World) (h : DaysIn w a cap ms) (hl : ms.length ≤ 100000) :
    Calls Try.prog 76 #[.agg #[.int .i64 b.full, .int .i64 b.fed, .int .i64 b.rest.1, .int .i64 b.rest.2, .int .i64 b.heat.1, .int .i64 b.heat.2, .int .i64 b.toil.1, .int .i64 b.toil.2, .int .i64 b.burn.1, .int .i64 b.burn.2, .int .i64 b.rub.1, .int .i64 b.rub.2, .int .i64 b.milk.1, .int .i64 b.milk.2, .int .i64 b.heal, .int .i64 b.strong.1, .int .i64 b.strong.2], .agg #[.int .i64 c.water.1, .int .i64 c.water.2, .int .i64 c.fat.1, .int .i64 c.fat.2, .int .i64 c.sore.1, .int .i64 c.sore.2, .bool c.milks], .slice a ms.length cap] w fun e w' => e = .returned (.int .i64 x) ∧ Below w.heap.size w w' := by
  subst hx; exact asked_any b c a cap ms w h hl

theorem owns_block {A A' : World} {base e size n : Nat} {v : Value} {xs : List Value} (h : A.ownsRow base e size v n xs) (hb : ∀ i, v.ownBlock = some i → A'.heap[i]? = A.heap[i]?) : A'.ownsRow base e size v n xs := by
  obtain ⟨h1, h2⟩ := h
  refine ⟨h1, ?_⟩
  rcases h2 with h2 | ⟨g, cap, cur, q1, q2, q3, q4⟩
  · exact .inl h2
  · exact .inr ⟨g, cap, cur, q1, q2, (hb g (by rw [q1]; rfl)).trans q3, q4⟩

/-- What the reference's Days returns. -/
def rDaysOut (b : Br) (c : Cm) (ms : List Mr) (n₀ : Nat) (e : Ending) (W : World) : Prop :=
  ((∀ j, j < ms.length → dieK b c ms j = false) ∧ ∃ v, e = .returned (.tuple #[v, .int .i64 (fatN b c ms ms.length), .int .i64 0, .int .i64 0]) ∧ W.ownsRow n₀ 39 7 v ms.length (evs b c ms ms.length) ∧ (v = .slice none 0 0 ↔ ms.length = 0)) ∨
  (∃ k, k < ms.length ∧ dieK b c ms k = true ∧ (∀ j, j < k → dieK b c ms j = false) ∧ e = .returned (.tuple #[.slice none 0 0, .int .i64 2, .int .i64 (k : Int), .int .i64 13]))

theorem rDays_bad (b : Br) (c : Cm) (a : Option Addr) (cap : Nat) (ms : List Mr) (x : Int) (w : World) (h : DaysIn w a cap ms) (hl : ms.length ≤ 100000) (hx : chkT b c ms = x) (h0 : x ≠ 0) :
    Calls Try.prog 36 #[.agg #[.int .i64 b.full, .int .i64 b.fed, .int .i64 b.rest.1, .int .i64 b.rest.2, .int .i64 b.heat.1, .int .i64 b.heat.2, .int .i64 b.toil.1, .int .i64 b.toil.2, .int .i64 b.burn.1, .int .i64 b.burn.2, .int .i64 b.rub.1, .int .i64 b.rub.2, .int .i64 b.milk.1, .int .i64 b.milk.2, .int .i64 b.heal, .int .i64 b.strong.1, .int .i64 b.strong.2], .agg #[.int .i64 c.water.1, .int .i64 c.water.2, .int .i64 c.fat.1, .int .i64 c.fat.2, .int .i64 c.sore.1, .int .i64 c.sore.2, .bool c.milks], .slice a ms.length cap] w fun e w' => e = .returned (.tuple #[.slice none 0 0, .int .i64 0, .int .i64 0, .int .i64 x]) ∧ Below w.heap.size w w' := by
  have HX := Lib.hid hx
  have HD := Lib.hid h
  have hne : (x == 0) = false := by simpa using h0
  clear hx h
  go_enter Try.func36, Try.ntmps36
  go_wp2_with fail
  refine (asked_x b c a cap ms x HX.out _ (HD.out.below (B := w.heap.size) (by go_grown) (Nat.le_refl _) (by simp; omega)) hl).mono ?_
  rintro e W1 ⟨rfl, hB⟩
  have hW1 : Below w.heap.size w W1 := Below.trans (by go_grown) (hB.mono (by simp; try omega))
  have zW1 := hW1.size
  clear hB
  go_wp2
  go_returns
  exact ⟨rfl, hW1⟩

set_option maxRecDepth 100000 in
set_option maxHeartbeats 8000000 in
theorem rDays_ok (b : Br) (c : Cm) (a : Option Addr) (cap : Nat) (ms : List Mr) (w : World) (h : DaysIn w a cap ms) (hl : ms.length ≤ 100000) (hx : chkT b c ms = 0) :
    Calls Try.prog 36 #[.agg #[.int .i64 b.full, .int .i64 b.fed, .int .i64 b.rest.1, .int .i64 b.rest.2, .int .i64 b.heat.1, .int .i64 b.heat.2, .int .i64 b.toil.1, .int .i64 b.toil.2, .int .i64 b.burn.1, .int .i64 b.burn.2, .int .i64 b.rub.1, .int .i64 b.rub.2, .int .i64 b.milk.1, .int .i64 b.milk.2, .int .i64 b.heal, .int .i64 b.strong.1, .int .i64 b.strong.2], .agg #[.int .i64 c.water.1, .int .i64 c.water.2, .int .i64 c.fat.1, .int .i64 c.fat.2, .int .i64 c.sore.1, .int .i64 c.sore.2, .bool c.milks], .slice a ms.length cap] w fun e w' => rDaysOut b c ms w.heap.size e w' ∧ Below w.heap.size w w' := by
  have HX := Lib.hid hx
  have HD := Lib.hid h
  obtain ⟨hb, hc, hall, h6⟩ := chkT_ok hx
  have HB := Lib.hid hb
  have HM := Lib.hid (mornC_bd hb hc hall)
  have HO := Lib.hid (fun k hk => okM_bd (mdS_ok hall (k := k) hk))
  clear hx h hb hc hall
  go_enter Try.func36, Try.ntmps36
  go_wp2_with fail
  refine (asked_x b c a cap ms 0 HX.out _ (HD.out.below (B := w.heap.size) (by go_grown) (Nat.le_refl _) (by simp; omega)) hl).mono ?_
  rintro e W1 ⟨rfl, hB⟩
  have hW1 : Below w.heap.size w W1 := Below.trans (by go_grown) (hB.mono (by simp; try omega))
  have zW1 := hW1.size
  obtain ⟨raW1, caW1, gaW1, zaW1⟩ := keep_row hB (g := w.heap.size) (by repeat (first | with_reducible assumption | with_reducible apply row_here0 | with_reducible apply row_here1 | with_reducible apply row_here2 | with_reducible apply row_here3 | with_reducible apply rowSkip))
  obtain ⟨rbW1, cbW1, gbW1, zbW1⟩ := keep_row hB (g := w.heap.size + 1) (by repeat (first | with_reducible assumption | with_reducible apply row_here0 | with_reducible apply row_here1 | with_reducible apply row_here2 | with_reducible apply row_here3 | with_reducible apply rowSkip))
  clear hB
  go_wp2_with fail
  have hD1 := Lib.hid (HD.out.below hW1 (Nat.le_refl _) zW1)
  go_loopw [11, 12, 13] (fun v f i wr => ∃ (k : Nat) (fn : Int), k ≤ ms.length ∧ i = .int .i64 (k : Int) ∧ f = .int .i64 fn ∧ Hid (fatN b c ms k = fn) ∧ Hid (wr.ownsRow (w.heap.size + 2) 39 7 v k (evs b c ms k)) ∧ Hid (v = .slice none 0 0 ↔ k = 0) ∧ rowOf wr w.heap.size = some #[.int .i64 b.full, .int .i64 b.fed, .int .i64 b.rest.1, .int .i64 b.rest.2, .int .i64 b.heat.1, .int .i64 b.heat.2, .int .i64 b.toil.1, .int .i64 b.toil.2, .int .i64 b.burn.1, .int .i64 b.burn.2, .int .i64 b.rub.1, .int .i64 b.rub.2, .int .i64 b.milk.1, .int .i64 b.milk.2, .int .i64 b.heal, .int .i64 b.strong.1, .int .i64 b.strong.2] ∧ rowOf wr (w.heap.size + 1) = some #[.int .i64 (mornC b c ms k).water.1, .int .i64 (mornC b c ms k).water.2, .int .i64 (mornC b c ms k).fat.1, .int .i64 (mornC b c ms k).fat.2, .int .i64 (mornC b c ms k).sore.1, .int .i64 (mornC b c ms k).sore.2, .bool (mornC b c ms k).milks] ∧ Below w.heap.size w wr ∧ Hid (∀ j, j < k → dieK b c ms j = false)) (fun _ _ i _ => ms.length - (intOf i).toNat)
  case atStart => exact ⟨0, 0, Nat.zero_le _, rfl, rfl, rfl, World.ownsRow_nil _ _ _ _, by simp [Hid], raW1, rbW1, hW1, fun j hj => by omega⟩
  case round =>
    obtain ⟨k, fn, hk, rfl, rfl, hfn, hown, hnil, q1, q2, hB0, hal⟩ := hrel
    obtain ⟨raR, caR, gaR, zaR⟩ := row_facts q1
    obtain ⟨rbR, cbR, gbR, zbR⟩ := row_facts q2
    have zR := hB0.size
    clear q1 q2 raW1 caW1 gaW1 rbW1 cbW1 gbW1
    by_cases hlt : k < ms.length
    · obtain ⟨g, off, rfl, hMs, hg⟩ : ∃ g off, a = some ⟨g, off, none⟩ ∧ MarchesAt W1 g off ms ∧ g < W1.heap.size := by
        rcases hD1.out with ⟨-, -, h⟩ | h
        · subst h; simp at hlt
        · exact h
      have hg0 : g < w.heap.size := by
        rcases HD.out with ⟨h, -⟩ | ⟨g', off', h1, -, h3⟩
        · cases h
        · cases h1; exact h3
      have hMw : MarchesAt w g off ms := by
        rcases HD.out with ⟨h, -⟩ | ⟨g', off', h1, h2, h3⟩
        · cases h
        · cases h1; exact h2
      have hm1 := march_block (hB0.block g hg0) (hMw k hlt)
      rw [mdS_get hlt] at hm1
      obtain ⟨mo, hmo⟩ : ∃ mo, mornC b c ms k = mo := ⟨_, rfl⟩
      obtain ⟨md, hmd⟩ : ∃ md, mdS ms k = md := ⟨_, rfl⟩
      obtain ⟨ce, hce⟩ : ∃ ce, (if diesS b mo md = true then zc false else eveC b mo md) = ce := ⟨_, rfl⟩
      obtain ⟨ff, hff⟩ : ∃ ff, fateS b mo md = ff := ⟨_, rfl⟩
      have hbm : BdC b mo := by rw [← hmo]; exact HM.out k hk
      have hbd : BdM md := by rw [← hmd]; exact HO.out k hlt
      rw [hmo] at rbR cbR
      rw [hmd] at hm1
      have HM1 := Lib.hid hm1
      have HBM := Lib.hid hbm
      have HBD := Lib.hid hbd
      have HMO := Lib.hid hmo
      have HMD := Lib.hid hmd
      have HCE := Lib.hid hce
      have HF := Lib.hid hff
      have hlt' : (k : Int) < (ms.length : Int) := by omega
      clear hMs hg hMw hm1 hbm hbd hmo hmd hce hff
      go_wp2_with fail
      refine wp_drawy (by kernel_rfl) (XN (wr.heap.size) #[.int .i64 0, .int .i64 0, .int .i64 0, .int .i64 0, .int .i64 0, .int .i64 0, .bool false] #[.int .i64 ce.water.1, .int .i64 ce.water.2, .int .i64 ce.fat.1, .int .i64 ce.fat.2, .int .i64 ce.sore.1, .int .i64 ce.sore.2, .bool ce.milks]) (fun j => match j with | 11 => 14 | _ => 0) XN.refl (fun _ _ _ => XN.trans) [some 30, some 31, some 32, some 33, some 34, some 35, some 36, some 29, some 37, some 38, some 14, none] (by kernel_rfl) (by kernel_rfl) (fun ix v W => match ix with
        | 0 => v = .agg #[.int .i64 b.full, .int .i64 b.fed, .int .i64 b.rest.1, .int .i64 b.rest.2, .int .i64 b.heat.1, .int .i64 b.heat.2, .int .i64 b.toil.1, .int .i64 b.toil.2, .int .i64 b.burn.1, .int .i64 b.burn.2, .int .i64 b.rub.1, .int .i64 b.rub.2, .int .i64 b.milk.1, .int .i64 b.milk.2, .int .i64 b.heal, .int .i64 b.strong.1, .int .i64 b.strong.2]
        | 1 => v = .agg #[.int .i64 mo.water.1, .int .i64 mo.water.2, .int .i64 mo.fat.1, .int .i64 mo.fat.2, .int .i64 mo.sore.1, .int .i64 mo.sore.2, .bool mo.milks]
        | 2 => v = .slice (some ⟨g, off, none⟩) ms.length cap
        | 3 => v = .int .i64 (k : Int)
        | 4 => v = .pointer (some ⟨g, off + k * 8, none⟩)
        | 5 => v = .agg #[.int .i64 md.hours, .int .i64 md.load, .int .i64 md.heat.1, .int .i64 md.heat.2, .int .i64 md.grass.1, .int .i64 md.grass.2, .int .i64 md.drinks.1, .int .i64 md.drinks.2]
        | 6 => v = .tuple #[.agg #[.int .i64 ce.water.1, .int .i64 ce.water.2, .int .i64 ce.fat.1, .int .i64 ce.fat.2, .int .i64 ce.sore.1, .int .i64 ce.sore.2, .bool ce.milks], .int .i64 ff]
        | 7 => v = .tuple #[.agg #[.int .i64 ce.water.1, .int .i64 ce.water.2, .int .i64 ce.fat.1, .int .i64 ce.fat.2, .int .i64 ce.sore.1, .int .i64 ce.sore.2, .bool ce.milks], .int .i64 ff]
        | 8 => v = .agg #[.int .i64 ce.water.1, .int .i64 ce.water.2, .int .i64 ce.fat.1, .int .i64 ce.fat.2, .int .i64 ce.sore.1, .int .i64 ce.sore.2, .bool ce.milks]
        | 9 => v = .int .i64 ff
        | 10 => NB (wr.heap.size) #[.int .i64 0, .int .i64 0, .int .i64 0, .int .i64 0, .int .i64 0, .int .i64 0, .bool false] #[.int .i64 ce.water.1, .int .i64 ce.water.2, .int .i64 ce.fat.1, .int .i64 ce.fat.2, .int .i64 ce.sore.1, .int .i64 ce.sore.2, .bool ce.milks] v W
        | 11 => SB #[.int .i64 ce.water.1, .int .i64 ce.water.2, .int .i64 ce.fat.1, .int .i64 ce.fat.2, .int .i64 ce.sore.1, .int .i64 ce.sore.2, .bool ce.milks] v W
        | _ => True) ⟨⟨?_, ?_⟩, ⟨?_, ?_⟩, ⟨?_, ?_⟩, ⟨?_, ?_⟩, ⟨?_, ?_⟩, ⟨?_, ?_⟩, ⟨?_, ?_⟩, ⟨?_, ?_⟩, ⟨?_, ?_⟩, ⟨?_, ?_⟩, ⟨?_, ?_⟩, ⟨?_, ?_⟩, ?_⟩
      · intro g h; cases h
      · intro b' W hE hb hdep K hK
        have e3 : b'.tmps[3]?.getD undef = .pointer (some ⟨w.heap.size, 0, none⟩) := hb 3 (by decide)
        clear hdep hb
        obtain ⟨_, _, -, _⟩ := row_facts (hE.row ((rowOf_drew _ _).trans raR) (by omega))
        obtain ⟨_, _, -, _⟩ := row_facts (hE.row ((rowOf_drew _ _).trans rbR) (by omega))
        go_wp2
        exact hK _ _ (XN.refl _) rfl
      · intro g h; cases h
      · intro b' W hE hb hdep K hK
        have e4 : b'.tmps[4]?.getD undef = .pointer (some ⟨w.heap.size + 1, 0, none⟩) := hb 4 (by decide)
        clear hdep hb
        obtain ⟨_, _, -, _⟩ := row_facts (hE.row ((rowOf_drew _ _).trans raR) (by omega))
        obtain ⟨_, _, -, _⟩ := row_facts (hE.row ((rowOf_drew _ _).trans rbR) (by omega))
        go_wp2
        exact hK _ _ (XN.refl _) rfl
      · intro g h; cases h
      · intro b' W hE hb hdep K hK
        have e2 : b'.tmps[2]?.getD undef = .slice (some ⟨g, off, none⟩) ms.length cap := hb 2 (by decide)
        clear hdep hb
        go_wp2
        exact hK _ _ (XN.refl _) rfl
      · intro g h; cases h
      · intro b' W hE hb hdep K hK
        have e13 : b'.tmps[13]?.getD undef = .int .i64 (k : Int) := hb 13 (by decide)
        clear hdep hb
        go_wp2
        exact hK _ _ (XN.refl _) rfl
      · intro g h; cases h
      · intro b' W hE hb hdep K hK
        have e32 : b'.tmps[32]?.getD undef = .slice (some ⟨g, off, none⟩) ms.length cap := pureN (hdep 2 (some 32) (by kernel_rfl) rfl)
        have e33 : b'.tmps[33]?.getD undef = .int .i64 (k : Int) := pureN (hdep 3 (some 33) (by kernel_rfl) rfl)
        clear hdep hb
        go_wp2
        exact hK _ _ (XN.refl _) rfl
      · intro g h; cases h
      · intro b' W hE hb hdep K hK
        have e34 : b'.tmps[34]?.getD undef = .pointer (some ⟨g, off + k * 8, none⟩) := pureN (hdep 4 (some 34) (by kernel_rfl) rfl)
        clear hdep hb
        obtain ⟨m0, m1, m2, m3, m4, m5, m6, m7⟩ := march_block (hE.block g (by show g < wr.heap.size; omega) (.inl (by omega))) (show MarchAt wr.drew g (off + k * 8) md from HM1.out)
        obtain ⟨_, _, -, _⟩ := row_facts (hE.row ((rowOf_drew _ _).trans raR) (by omega))
        obtain ⟨_, _, -, _⟩ := row_facts (hE.row ((rowOf_drew _ _).trans rbR) (by omega))
        go_wp2
        exact hK _ _ (XN.refl _) rfl
      · intro g h; cases h
      · intro b' W hE hb hdep K hK
        have e30 : b'.tmps[30]?.getD undef = .agg #[.int .i64 b.full, .int .i64 b.fed, .int .i64 b.rest.1, .int .i64 b.rest.2, .int .i64 b.heat.1, .int .i64 b.heat.2, .int .i64 b.toil.1, .int .i64 b.toil.2, .int .i64 b.burn.1, .int .i64 b.burn.2, .int .i64 b.rub.1, .int .i64 b.rub.2, .int .i64 b.milk.1, .int .i64 b.milk.2, .int .i64 b.heal, .int .i64 b.strong.1, .int .i64 b.strong.2] := pureN (hdep 0 (some 30) (by kernel_rfl) rfl)
        have e31 : b'.tmps[31]?.getD undef = .agg #[.int .i64 mo.water.1, .int .i64 mo.water.2, .int .i64 mo.fat.1, .int .i64 mo.fat.2, .int .i64 mo.sore.1, .int .i64 mo.sore.2, .bool mo.milks] := pureN (hdep 1 (some 31) (by kernel_rfl) rfl)
        have e35 : b'.tmps[35]?.getD undef = .agg #[.int .i64 md.hours, .int .i64 md.load, .int .i64 md.heat.1, .int .i64 md.heat.2, .int .i64 md.grass.1, .int .i64 md.grass.2, .int .i64 md.drinks.1, .int .i64 md.drinks.2] := pureN (hdep 5 (some 35) (by kernel_rfl) rfl)
        clear hdep hb
        go_wp2_with fail
        refine (rafter_x b mo md ce ff HCE.out HF.out _ HB.out HBM.out HBD.out).mono ?_
        rintro e W' ⟨rfl, hB⟩
        exact hK _ _ (Ext.xn hB) rfl
      · intro g h; cases h
      · intro b' W hE hb hdep K hK
        have e36 : b'.tmps[36]?.getD undef = .tuple #[.agg #[.int .i64 ce.water.1, .int .i64 ce.water.2, .int .i64 ce.fat.1, .int .i64 ce.fat.2, .int .i64 ce.sore.1, .int .i64 ce.sore.2, .bool ce.milks], .int .i64 ff] := pureN (hdep 6 (some 36) (by kernel_rfl) rfl)
        clear hdep hb
        go_wp2
        exact hK _ _ (XN.refl _) rfl
      · intro g h; cases h
      · intro b' W hE hb hdep K hK
        have e29 : b'.tmps[29]?.getD undef = .tuple #[.agg #[.int .i64 ce.water.1, .int .i64 ce.water.2, .int .i64 ce.fat.1, .int .i64 ce.fat.2, .int .i64 ce.sore.1, .int .i64 ce.sore.2, .bool ce.milks], .int .i64 ff] := pureN (hdep 7 (some 29) (by kernel_rfl) rfl)
        clear hdep hb
        go_wp2
        exact hK _ _ (XN.refl _) rfl
      · intro g h; cases h
      · intro b' W hE hb hdep K hK
        have e29 : b'.tmps[29]?.getD undef = .tuple #[.agg #[.int .i64 ce.water.1, .int .i64 ce.water.2, .int .i64 ce.fat.1, .int .i64 ce.fat.2, .int .i64 ce.sore.1, .int .i64 ce.sore.2, .bool ce.milks], .int .i64 ff] := pureN (hdep 7 (some 29) (by kernel_rfl) rfl)
        clear hdep hb
        go_wp2
        exact hK _ _ (XN.refl _) rfl
      · intro g h; cases h
      · intro b' W hE hb hdep K hK
        clear hdep hb
        go_wp2
        exact hK _ _ (Ext.xn (ext_alloc _ _)) ⟨rfl, by have := hE.size; simp at this; simp [blk]; omega, .inl (row_here0 _ _ _)⟩
      · intro g h; cases h
      · intro b' W hE hb hdep K hK
        have n14 : NB (wr.heap.size) #[.int .i64 0, .int .i64 0, .int .i64 0, .int .i64 0, .int .i64 0, .int .i64 0, .bool false] #[.int .i64 ce.water.1, .int .i64 ce.water.2, .int .i64 ce.fat.1, .int .i64 ce.fat.2, .int .i64 ce.sore.1, .int .i64 ce.sore.2, .bool ce.milks] (b'.tmps[14]?.getD undef) W := nbR (hdep 10 (some 14) (by kernel_rfl) rfl)
        have e37 : b'.tmps[37]?.getD undef = .agg #[.int .i64 ce.water.1, .int .i64 ce.water.2, .int .i64 ce.fat.1, .int .i64 ce.fat.2, .int .i64 ce.sore.1, .int .i64 ce.sore.2, .bool ce.milks] := pureN (hdep 8 (some 37) (by kernel_rfl) rfl)
        clear hdep hb
        exact wp_store_nb 39 14 (.tmp 37) rfl rfl n14 ((eval_tmp _ _).trans e37) (by kernel_rfl) rfl (by simp [one_int, one_bool]) (fun W' h1 h2 => hK W' h1 h2)
      intro f W hE hR
      have e30 : f 30 = .agg #[.int .i64 b.full, .int .i64 b.fed, .int .i64 b.rest.1, .int .i64 b.rest.2, .int .i64 b.heat.1, .int .i64 b.heat.2, .int .i64 b.toil.1, .int .i64 b.toil.2, .int .i64 b.burn.1, .int .i64 b.burn.2, .int .i64 b.rub.1, .int .i64 b.rub.2, .int .i64 b.milk.1, .int .i64 b.milk.2, .int .i64 b.heal, .int .i64 b.strong.1, .int .i64 b.strong.2] := pureN (hR 0 (some 30) rfl)
      have e31 : f 31 = .agg #[.int .i64 mo.water.1, .int .i64 mo.water.2, .int .i64 mo.fat.1, .int .i64 mo.fat.2, .int .i64 mo.sore.1, .int .i64 mo.sore.2, .bool mo.milks] := pureN (hR 1 (some 31) rfl)
      have e32 : f 32 = .slice (some ⟨g, off, none⟩) ms.length cap := pureN (hR 2 (some 32) rfl)
      have e33 : f 33 = .int .i64 (k : Int) := pureN (hR 3 (some 33) rfl)
      have e34 : f 34 = .pointer (some ⟨g, off + k * 8, none⟩) := pureN (hR 4 (some 34) rfl)
      have e35 : f 35 = .agg #[.int .i64 md.hours, .int .i64 md.load, .int .i64 md.heat.1, .int .i64 md.heat.2, .int .i64 md.grass.1, .int .i64 md.grass.2, .int .i64 md.drinks.1, .int .i64 md.drinks.2] := pureN (hR 5 (some 35) rfl)
      have e36 : f 36 = .tuple #[.agg #[.int .i64 ce.water.1, .int .i64 ce.water.2, .int .i64 ce.fat.1, .int .i64 ce.fat.2, .int .i64 ce.sore.1, .int .i64 ce.sore.2, .bool ce.milks], .int .i64 ff] := pureN (hR 6 (some 36) rfl)
      have e29 : f 29 = .tuple #[.agg #[.int .i64 ce.water.1, .int .i64 ce.water.2, .int .i64 ce.fat.1, .int .i64 ce.fat.2, .int .i64 ce.sore.1, .int .i64 ce.sore.2, .bool ce.milks], .int .i64 ff] := pureN (hR 7 (some 29) rfl)
      have e37 : f 37 = .agg #[.int .i64 ce.water.1, .int .i64 ce.water.2, .int .i64 ce.fat.1, .int .i64 ce.fat.2, .int .i64 ce.sore.1, .int .i64 ce.sore.2, .bool ce.milks] := pureN (hR 8 (some 37) rfl)
      have e38 : f 38 = .int .i64 ff := pureN (hR 9 (some 38) rfl)
      have n14 : NB (wr.heap.size) #[.int .i64 0, .int .i64 0, .int .i64 0, .int .i64 0, .int .i64 0, .int .i64 0, .bool false] #[.int .i64 ce.water.1, .int .i64 ce.water.2, .int .i64 ce.fat.1, .int .i64 ce.fat.2, .int .i64 ce.sore.1, .int .i64 ce.sore.2, .bool ce.milks] (f 14) W := nbR (hR 10 (some 14) rfl)
      have q14 : SB #[.int .i64 ce.water.1, .int .i64 ce.water.2, .int .i64 ce.fat.1, .int .i64 ce.fat.2, .int .i64 ce.sore.1, .int .i64 ce.sore.2, .bool ce.milks] (f 14) W := sbR (hR 11 none rfl)
      clear hR
      obtain ⟨h, e14, hbase, rhW⟩ : ∃ h, f 14 = .pointer (some ⟨h, 0, none⟩) ∧ wr.heap.size ≤ h ∧ rowOf W h = some #[.int .i64 ce.water.1, .int .i64 ce.water.2, .int .i64 ce.fat.1, .int .i64 ce.fat.2, .int .i64 ce.sore.1, .int .i64 ce.sore.2, .bool ce.milks] := ⟨blk (f 14), q14.eq, n14.base, q14.row⟩
      have hW2 : Below w.heap.size w W := hE.below hB0.drew zR zR
      obtain ⟨raW2, caW2, gaW2, zaW2⟩ := row_facts (hE.row ((rowOf_drew _ _).trans raR) zaR)
      obtain ⟨rbW2, cbW2, gbW2, zbW2⟩ := row_facts (hE.row ((rowOf_drew _ _).trans rbR) zbR)
      have zW2 := hW2.size
      have hown2 := owns_block hown.out (fun i hi => (hE.block i (hown.out.lt i hi).2 (.inl (hown.out.lt i hi).2)))
      have hob := fun i hi => (hown.out.lt i hi).2
      have hzE := hE.size
      clear hE n14 q14 raR caR gaR rbR cbR gbR
      simp only [List.filterMap_cons, List.filterMap_nil, id, puts, Act.put, List.setIfInBounds_toArray, List.set_cons_succ, List.set_cons_zero, e30, e31, e32, e33, e34, e35, e36, e29, e37, e38, e14]
      by_cases hd : ff = 2
      · have HDI := Lib.hid (show dieK b c ms k = true by unfold dieK; rw [HMO.out, HMD.out]; exact fate2.1 (HF.out.trans hd))
        clear HF
        subst hd
        go_wp2
        go_returns
        exact ⟨.inr ⟨k, hlt, HDI.out, hal.out, rfl⟩, hW2⟩
      · have hdd : diesS b mo md = false := by
          cases h : diesS b mo md with
          | false => rfl
          | true => exact absurd (HF.out.symm.trans (fate2.2 h)) hd
        have HDI := Lib.hid (show dieK b c ms k = false by unfold dieK; rw [HMO.out, HMD.out]; exact hdd)
        have HFK := Lib.hid (show mx fn ff = fatN b c ms (k + 1) by rw [← hfn.out, ← HF.out, ← HMO.out, ← HMD.out]; exact fatN_succ HDI.out)
        have HCM := Lib.hid (show ce = mornC b c ms (k + 1) by rw [← HCE.out, mornC, HMO.out, HMD.out]; simp [hdd])
        have hfn2 : (ff == 2) = false := by simpa using hd
        obtain ⟨ch, gh, zh⟩ := cell_of_rowOf rhW
        obtain ⟨i0, hi0, hz0, hz1, hz2⟩ := info_parts info39z
        have HOW := Lib.hid hown2
        clear hdd HCE HF HMO HMD hown2 hown
        go_wp2_with (first
          | (at_builtin; refine wpList_append_own _ rfl _ _ 41 rfl (w.heap.size + 2) 39 i0 (.agg #[.int .i64 0, .int .i64 0, .int .i64 0, .int .i64 0, .int .i64 0, .int .i64 0, .bool false]) 7 56 Try.underlying41 hi0 hz0 hz1 hz2 rfl (by decide) _ _ _ rfl (HOW.out.alloc _) ⟨W.heap.size, 0, none⟩ 1 1 (camCells ce) rfl rfl (camCells_at (row_here0 _ _ _)) (camCells_one ce) (by unfold maxLen; omega) (by omega) (by simp; omega) ?_)
          | fail)
        intro v' w1 hown' hgrow hnil'
        have rh1 := row_grownO (rowSkip rhW) hgrow (fun i e => by have := hob i e; omega)
        have ra1 := row_grownO (rowSkip raW2) hgrow (fun i e => by have := (HOW.out.lt i e).1; omega)
        have rb1 := row_grownO (rowSkip rbW2) hgrow (fun i e => by have := (HOW.out.lt i e).1; omega)
        have hB1 : Below w.heap.size w w1 := (hW2.alloc zW2 _).grown hgrow (by simp; omega) (fun i e => by have := (HOW.out.lt i e).1; omega)
        have HO1 := Lib.hid hown'
        have HN1 := Lib.hid hnil'
        clear hown' hgrow hnil' raW2 caW2 gaW2 rbW2 cbW2 gbW2 rhW ch gh hi0 hz0 hz1 hz2 HOW
        go_wp2
        have s8 := stored_setRow rb1 #[.int .i64 ce.water.1, .int .i64 ce.water.2, .int .i64 ce.fat.1, .int .i64 ce.fat.2, .int .i64 ce.sore.1, .int .i64 ce.sore.2, .bool ce.milks]
        refine ⟨⟨k + 1, mx fn ff, hlt, by go_num, rfl, HFK.out.symm, ?_, ?_, s8.keeps (by omega) ra1, by rw [s8.row, HCM.out], hB1.trans (s8.below _ (by omega)), ?_⟩, by simp [intOf]; omega⟩
        · show World.ownsRow _ _ _ _ _ _ _
          rw [evs_succ, ← HCM.out]
          exact owns_grown HO1.out (grown_setRow w1 (w.heap.size + 1) _) (by omega)
        · exact ⟨fun h => (HN1.out h).elim, fun h => by omega⟩
        · intro j hj
          rcases Nat.lt_or_ge j k with h | h
          · exact hal.out j h
          · obtain rfl : j = k := by omega
            exact HDI.out
    · obtain rfl : k = ms.length := by omega
      go_wp2
      go_returns
      exact ⟨.inl ⟨hal.out, u11, by rw [hfn.out], owns_mono hown.out (by omega), hnil.out⟩, hB0⟩
end Go.Proofs.Ytafdcbdbllpcnaa
/- Contract of package camel's Days where an error is returned at once. -/
namespace Go.Proofs.Ytafdcbdbllpcnaa
open Go.RowKit
open Go.Proofs

attribute [local go_sem ↓] exec36l exec112l exec36s exec112s exec31s run_min2 run_max2
attribute [local go_sem] load36 load112 store36 store112 store31 build112 rowOf_alloc rowOf_drew setRow_alloc one_int one_bool run_min4
attribute [local go_sem ↓] exec39s
attribute [local go_sem] store39 rowOf_setCell_if Option.map_some

set_option maxRecDepth 100000 in
set_option maxHeartbeats 2000000 in
theorem Days_bad (b : Br) (c : Cm) (a : Option Addr) (cap : Nat) (ms : List Mr) (x : Int) (w : World) (h : DaysIn w a cap ms) (hl : ms.length ≤ 100000) (hx : chkT b c ms = x) (h0 : x ≠ 0) :
    Calls Try.prog 26 #[.agg #[.int .i64 b.full, .int .i64 b.fed, .int .i64 b.rest.1, .int .i64 b.rest.2, .int .i64 b.heat.1, .int .i64 b.heat.2, .int .i64 b.toil.1, .int .i64 b.toil.2, .int .i64 b.burn.1, .int .i64 b.burn.2, .int .i64 b.rub.1, .int .i64 b.rub.2, .int .i64 b.milk.1, .int .i64 b.milk.2, .int .i64 b.heal, .int .i64 b.strong.1, .int .i64 b.strong.2], .agg #[.int .i64 c.water.1, .int .i64 c.water.2, .int .i64 c.fat.1, .int .i64 c.fat.2, .int .i64 c.sore.1, .int .i64 c.sore.2, .bool c.milks], .slice a ms.length cap] w fun e w' => e = .returned (.tuple #[.slice none 0 0, .int .u8 0, .int .i64 0, .int .i64 x]) ∧ Below w.heap.size w w' := by
  have HX := Lib.hid hx
  have HD := Lib.hid h
  have hne : (x == 0) = false := by simpa using h0
  clear hx h
  go_enter Try.func26, Try.ntmps26
  go_wp2_with fail
  refine (chkT_x b c a cap ms x HX.out _ (HD.out.below (B := w.heap.size) (by go_grown) (Nat.le_refl _) (by simp; omega)) hl).mono ?_
  rintro e W1 ⟨rfl, hB⟩
  have hW1 : Below w.heap.size w W1 := Below.trans (by go_grown) (hB.mono (by simp; try omega))
  have zW1 := hW1.size
  obtain ⟨rrW1, crW1, grW1, zrW1⟩ := keep_row hB (g := w.heap.size + 1 + 1) (by repeat (first | with_reducible assumption | with_reducible apply row_here0 | with_reducible apply row_here1 | with_reducible apply row_here2 | with_reducible apply row_here3 | with_reducible apply row_here4 | with_reducible apply row_here5 | with_reducible apply row_here6 | with_reducible apply rowSkip))
  obtain ⟨rfW1, cfW1, gfW1, zfW1⟩ := keep_row hB (g := w.heap.size + 1 + 1 + 1) (by repeat (first | with_reducible assumption | with_reducible apply row_here0 | with_reducible apply row_here1 | with_reducible apply row_here2 | with_reducible apply row_here3 | with_reducible apply row_here4 | with_reducible apply row_here5 | with_reducible apply row_here6 | with_reducible apply rowSkip))
  obtain ⟨riW1, ciW1, giW1, ziW1⟩ := keep_row hB (g := w.heap.size + 1 + 1 + 1 + 1) (by repeat (first | with_reducible assumption | with_reducible apply row_here0 | with_reducible apply row_here1 | with_reducible apply row_here2 | with_reducible apply row_here3 | with_reducible apply row_here4 | with_reducible apply row_here5 | with_reducible apply row_here6 | with_reducible apply rowSkip))
  obtain ⟨reW1, ceW1, geW1, zeW1⟩ := keep_row hB (g := w.heap.size + 1 + 1 + 1 + 1 + 1) (by repeat (first | with_reducible assumption | with_reducible apply row_here0 | with_reducible apply row_here1 | with_reducible apply row_here2 | with_reducible apply row_here3 | with_reducible apply row_here4 | with_reducible apply row_here5 | with_reducible apply row_here6 | with_reducible apply rowSkip))
  clear hB
  go_wp2
  have s1 := stored_cell rrW1 (.slice none 0 0)
  have s2 := stored_cell (s1.keeps (g := w.heap.size + 1 + 1 + 1) (by omega) rfW1) (.int .u8 0)
  have s3 := stored_cell (s2.keeps (g := w.heap.size + 1 + 1 + 1 + 1) (by omega) (s1.keeps (by omega) riW1)) (.int .i64 0)
  have s4 := stored_cell (s3.keeps (g := w.heap.size + 1 + 1 + 1 + 1 + 1) (by omega) (s2.keeps (by omega) (s1.keeps (by omega) reW1))) (.int .i64 x)
  exact bodyPost_ret (results_cells4 Try.results26 rfl (s4.keeps (by omega) (s3.keeps (by omega) (s2.keeps (by omega) s1.row))) rfl (s4.keeps (by omega) (s3.keeps (by omega) s2.row)) rfl (s4.keeps (by omega) s3.row) rfl s4.row) rfl
    ⟨rfl, (((hW1.trans (s1.below _ (by omega))).trans (s2.below _ (by omega))).trans (s3.below _ (by omega))).trans (s4.below _ (by omega))⟩
end Go.Proofs.Ytafdcbdbllpcnaa
/- How many days like one an animal lasts, day by day. -/
namespace Go.Proofs.Ytafdcbdbllpcnaa

/-- The ends of the span behind the first k days. -/
def loK (b : Br) (c : Cm) (ms : List Mr) : Nat → Int
  | 0 => 60
  | k + 1 => if fatK b c ms k = 0 then loK b c ms k else mn (loK b c ms k) k
def hiK (b : Br) (c : Cm) (ms : List Mr) : Nat → Int
  | 0 => 60
  | k + 1 => if fatK b c ms k = 2 then (k : Int) else hiK b c ms k

theorem loK_zero {b : Br} {c : Cm} {ms : List Mr} {k : Nat} (h : fatK b c ms k = 0) : loK b c ms (k + 1) = loK b c ms k := by rw [loK, if_pos h]
theorem loK_more {b : Br} {c : Cm} {ms : List Mr} {k : Nat} (h : fatK b c ms k ≠ 0) : loK b c ms (k + 1) = mn (loK b c ms k) k := by rw [loK, if_neg h]
theorem hiK_two {b : Br} {c : Cm} {ms : List Mr} {k : Nat} (h : fatK b c ms k = 2) : hiK b c ms (k + 1) = (k : Int) := by rw [hiK, if_pos h]
theorem hiK_less {b : Br} {c : Cm} {ms : List Mr} {k : Nat} (h : fatK b c ms k ≠ 2) : hiK b c ms (k + 1) = hiK b c ms k := by rw [hiK, if_neg h]
theorem fat012 (b : Br) (c : Cm) (ms : List Mr) (k : Nat) : fatK b c ms k = 0 ∨ fatK b c ms k = 1 ∨ fatK b c ms k = 2 := by
  unfold fatK fateS
  split
  · exact .inr (.inr rfl)
  · split
    · exact .inr (.inl rfl)
    · exact .inl rfl
theorem hiK_alive {b : Br} {c : Cm} {ms : List Mr} : ∀ k, (∀ j, j < k → dieK b c ms j = false) → hiK b c ms k = 60
  | 0, _ => rfl
  | k + 1, h => by
    have h1 := h k (by omega)
    unfold hiK
    rw [if_neg, hiK_alive k (fun j hj => h j (by omega))]
    intro h2
    have := fate2.1 h2
    unfold dieK at h1
    rw [h1] at this; cases this

theorem lasts_from (b : Br) (c : Cm) (m : Mr) (ms : List Mr) (hlen : ms.length = 60) (hget : ∀ k, k < 60 → mdS ms k = m) : ∀ (n k : Nat), k + n = 60 → (∀ j, j < k → dieK b c ms j = false) → ∀ K, SDay b c ms K → k ≤ K →
    lastsGo b m n (k : Int) (mornC b c ms k) (loK b c ms k) = (loK b c ms K, hiK b c ms K)
  | 0, k, hk, hal, K, ⟨hK, hd, he⟩, hkK => by
    obtain rfl : K = k := by omega
    rw [hiK_alive K hal]
    rfl
  | n + 1, k, hk, hal, K, hS, hkK => by
    obtain ⟨hK, hd, he⟩ := hS
    have hm := hget k (by omega)
    cases hdk : dieK b c ms k with
    | true =>
      have hKk : K = k + 1 := by
        rcases Nat.lt_trichotomy K (k + 1) with h | h | h
        · exfalso
          obtain rfl : K = k := by omega
          rcases he with he | ⟨he1, he2⟩
          · omega
          · rw [hal (K - 1) (by omega)] at he2; cases he2
        · exact h
        · rw [hd k h] at hdk; cases hdk
      subst hKk
      have hf := fatK_dies hdk
      have hdie : diesS b (mornC b c ms k) m = true := by unfold dieK at hdk; rw [hm] at hdk; exact hdk
      rw [lastsGo_dies hdie]
      rw [loK_more (by omega), hiK_two hf]
    | false =>
      have hf := fatK_lives hdk
      have hdie : diesS b (mornC b c ms k) m = false := by unfold dieK at hdk; rw [hm] at hdk; exact hdk
      have hlt : k + 1 ≤ K := by
        rcases Nat.lt_or_ge k K with h | h
        · exact h
        · exfalso
          obtain rfl : K = k := by omega
          rcases he with he | ⟨he1, he2⟩
          · omega
          · rw [hal (K - 1) (by omega)] at he2; cases he2
      have ih := lasts_from b c m ms hlen hget n (k + 1) (by omega) (fun j hj => by
        rcases Nat.lt_or_ge j k with h | h
        · exact hal j h
        · obtain rfl : j = k := by omega
          exact hdk) K ⟨hK, hd, he⟩ hlt
      have em : mornC b c ms (k + 1) = eveC b (mornC b c ms k) m := by rw [mornC, hm]
      have ek : ((k + 1 : Nat) : Int) = (k : Int) + 1 := by omega
      rw [em, ek] at ih
      cases ho : openS b (mornC b c ms k) m with
      | true =>
        have h1 : fatK b c ms k = 1 := by rw [hf]; unfold opnK; rw [hm, ho]; rfl
        have h2 : loK b c ms (k + 1) = mn (loK b c ms k) k := loK_more (by omega)
        rw [h2] at ih
        rw [lastsGo_open hdie ho]
        exact ih
      | false =>
        have h1 : fatK b c ms k = 0 := by rw [hf]; unfold opnK; rw [hm, ho]; rfl
        have h2 : loK b c ms (k + 1) = loK b c ms k := loK_zero h1
        rw [h2] at ih
        rw [lastsGo_lives hdie ho]
        exact ih
theorem lasts_eq {b : Br} {c : Cm} {m : Mr} {ms : List Mr} (hlen : ms.length = 60) (hget : ∀ k, k < 60 → mdS ms k = m) {K : Nat} (h : SDay b c ms K) : lastsGo b m 60 0 c 60 = (loK b c ms K, hiK b c ms K) :=
  lasts_from b c m ms hlen hget 60 0 rfl (fun j hj => by omega) K h (by omega)
end Go.Proofs.Ytafdcbdbllpcnaa
