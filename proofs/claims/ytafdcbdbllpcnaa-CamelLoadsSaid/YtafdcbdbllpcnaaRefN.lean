/- Contract of the reference's bears. -/
import Derived.Test.YtafdcbdbllpcnaaRefH
import Derived.Test.YtafdcbdbllpcnaaSpec
import Derived.Test.YtafdcbdbllpcnaaLeafM
import Derived.Test.YtafdcbdbllpcnaaDraws
import Derived.Test.YtafdcbdbllpcnaaIter
import Derived.Test.YtafdcbdbllpcnaaDayT
namespace Go.Proofs.Ytafdcbdbllpcnaa
open Go.RowKit
open Go.Proofs

attribute [local go_sem ↓] exec36l exec112l exec36s exec112s exec31s exec39s exec39l exec45s
attribute [local go_sem] load36 load112 store36 store112 store39 load39 store31at store45 List.setIfInBounds_toArray List.set_cons_succ List.set_cons_zero build39z rowOf_alloc rowOf_drew setRow_alloc one_int one_bool

attribute [local irreducible] wpQuiet
theorem rfitness_x (b : Br) (c : Cm) (s : Int × Int) (hs : fitS b c = s) (w : World) (hb : BdB b) (hc : BdC b c) :
    Calls Try.prog 68 #[.agg #[.int .i64 b.full, .int .i64 b.fed, .int .i64 b.rest.1, .int .i64 b.rest.2, .int .i64 b.heat.1, .int .i64 b.heat.2, .int .i64 b.toil.1, .int .i64 b.toil.2, .int .i64 b.burn.1, .int .i64 b.burn.2, .int .i64 b.rub.1, .int .i64 b.rub.2, .int .i64 b.milk.1, .int .i64 b.milk.2, .int .i64 b.heal, .int .i64 b.strong.1, .int .i64 b.strong.2], .agg #[.int .i64 c.water.1, .int .i64 c.water.2, .int .i64 c.fat.1, .int .i64 c.fat.2, .int .i64 c.sore.1, .int .i64 c.sore.2, .bool c.milks]] w fun e w' => e = .returned (.agg #[.int .i64 s.1, .int .i64 s.2]) ∧ Below w.heap.size w w' := by
  subst hs; exact rfitness_any b c w hb hc

set_option maxRecDepth 100000 in
set_option maxHeartbeats 8000000 in
theorem rbears_any (b : Br) (c : Cm) (a : Option Addr) (cap n : Nat) (ms : List Mr) (x : Int) (r : Bool) (hr : bearS b c ms x = r) (w : World) (hn : n = ms.length) (h : DaysIn w a cap ms) (h6 : ms.length ≤ 60) (hb : BdB b) (hc : BdC b c) (hall : ms.all okM = true) (hx1 : 0 ≤ x) (hx2 : x ≤ 1000000) :
    Calls Try.prog 79 #[.agg #[.int .i64 b.full, .int .i64 b.fed, .int .i64 b.rest.1, .int .i64 b.rest.2, .int .i64 b.heat.1, .int .i64 b.heat.2, .int .i64 b.toil.1, .int .i64 b.toil.2, .int .i64 b.burn.1, .int .i64 b.burn.2, .int .i64 b.rub.1, .int .i64 b.rub.2, .int .i64 b.milk.1, .int .i64 b.milk.2, .int .i64 b.heal, .int .i64 b.strong.1, .int .i64 b.strong.2], .agg #[.int .i64 c.water.1, .int .i64 c.water.2, .int .i64 c.fat.1, .int .i64 c.fat.2, .int .i64 c.sore.1, .int .i64 c.sore.2, .bool c.milks], .slice a n cap, .int .i64 x] w fun e w' => e = .returned (.bool r) ∧ Below w.heap.size w w' := by
  have hok := ldS_ok hall hx1 hx2
  have HR := Lib.hid hr
  have HN := Lib.hid hn
  have HD := Lib.hid h
  have HB := Lib.hid hb
  have HMB := Lib.hid (mornC_bd hb hc hok)
  have HO := Lib.hid (fun k hk => okM_bd (mdS_ok hok (k := k) hk))
  obtain ⟨s1, s2, s3⟩ := hb.strong
  have hn60 : (n : Int) ≤ 60 := by omega
  clear hr hn h hb hc hall hok h6
  go_enter Try.func79, Try.ntmps79
  go_wp2_with fail
  go_loopw [9] (fun i wr => ∃ k : Nat, k ≤ n ∧ i = .int .i64 (k : Int) ∧ rowOf wr w.heap.size = some #[.int .i64 b.full, .int .i64 b.fed, .int .i64 b.rest.1, .int .i64 b.rest.2, .int .i64 b.heat.1, .int .i64 b.heat.2, .int .i64 b.toil.1, .int .i64 b.toil.2, .int .i64 b.burn.1, .int .i64 b.burn.2, .int .i64 b.rub.1, .int .i64 b.rub.2, .int .i64 b.milk.1, .int .i64 b.milk.2, .int .i64 b.heal, .int .i64 b.strong.1, .int .i64 b.strong.2] ∧ rowOf wr (w.heap.size + 1) = some #[.int .i64 (mornC b c (ldS x ms) k).water.1, .int .i64 (mornC b c (ldS x ms) k).water.2, .int .i64 (mornC b c (ldS x ms) k).fat.1, .int .i64 (mornC b c (ldS x ms) k).fat.2, .int .i64 (mornC b c (ldS x ms) k).sore.1, .int .i64 (mornC b c (ldS x ms) k).sore.2, .bool (mornC b c (ldS x ms) k).milks] ∧ Below w.heap.size w wr ∧ w.heap.size + 1 + 1 ≤ wr.heap.size ∧ Hid (∀ j, j < k → okDay b c (ldS x ms) x j = true)) (fun i _ => n - (intOf i).toNat)
  case atStart => exact ⟨0, Nat.zero_le _, rfl, (by repeat (first | with_reducible assumption | with_reducible apply row_here0 | with_reducible apply row_here1 | with_reducible apply row_here2 | with_reducible apply row_here3 | with_reducible apply rowSkip)), (show rowOf _ (w.heap.size + 1) = some #[.int .i64 c.water.1, .int .i64 c.water.2, .int .i64 c.fat.1, .int .i64 c.fat.2, .int .i64 c.sore.1, .int .i64 c.sore.2, .bool c.milks] from (by repeat (first | with_reducible assumption | with_reducible apply row_here0 | with_reducible apply row_here1 | with_reducible apply row_here2 | with_reducible apply row_here3 | with_reducible apply rowSkip))), by go_grown, by simp, fun j hj => by omega⟩
  case round =>
    obtain ⟨k, hk, rfl, q1, q2, hB0, zR, hal⟩ := hrel
    obtain ⟨raR, caR, gaR, zaR⟩ := row_facts q1
    by_cases hlt : k < n
    · obtain ⟨g, off, rfl, hMs, hg⟩ : ∃ g off, a = some ⟨g, off, none⟩ ∧ MarchesAt w g off ms ∧ g < w.heap.size := by
        rcases HD.out with ⟨_, _, h⟩ | h
        · subst h; have : n = 0 := HN.out; omega
        · exact h
      have hkm : k < ms.length := by have := HN.out; omega
      have hm1 := march_below hB0 hg (hMs k hkm)
      rw [mdS_get hkm] at hm1
      have hls : (ldS x ms).length = ms.length := ldS_len x ms
      have hml : mdS (ldS x ms) k = ldM x (mdS ms k) := mdS_ld hkm
      obtain ⟨mo, hmo⟩ : ∃ mo, mornC b c (ldS x ms) k = mo := ⟨_, rfl⟩
      rw [hmo] at q2
      obtain ⟨md, hmd⟩ : ∃ md, mdS ms k = md := ⟨_, rfl⟩
      rw [hmd] at hm1 hml
      obtain ⟨fs, hfs⟩ : ∃ fs, fitS b mo = fs := ⟨_, rfl⟩
      have hbm : BdC b mo := by rw [← hmo]; exact HMB.out k (by omega)
      have hbd : BdM (ldM x md) := by rw [← hml]; exact HO.out k (by omega)
      obtain ⟨f1, f2, f3, f4⟩ := fitS_bd HB.out hbm
      rw [hfs] at f1 f2 f3 f4
      obtain ⟨p1, p2⟩ := mul_le s1 f1 (by omega : b.strong.1 ≤ 1000000) f2
      have HCA := Lib.hid (show (carS b mo).1 = b.strong.1 * fs.1 / 1000 by rw [← hfs]; rfl)
      have HFS := Lib.hid hfs
      have HBM := Lib.hid hbm
      have HBD := Lib.hid hbd
      have HMO := Lib.hid hmo
      have HML := Lib.hid hml
      have HG := Lib.hid hg
      obtain ⟨rbR, cbR, gbR, zbR⟩ := row_facts q2
      obtain ⟨m0, m1, m2, m3, m4, m5, m6, m7⟩ := hm1
      have hlt' : (k : Int) < (n : Int) := by omega
      clear hMs hg hmo hmd hfs hbm hbd hml hls q1 q2
      go_wp2_with fail
      obtain ⟨ce, hce⟩ : ∃ ce, (if diesS b mo (ldM x md) = true then zc false else eveC b mo (ldM x md)) = ce := ⟨_, rfl⟩
      obtain ⟨ff, hff⟩ : ∃ ff, fateS b mo (ldM x md) = ff := ⟨_, rfl⟩
      have HCE := Lib.hid hce
      have HF := Lib.hid hff
      clear hce hff m0 m1 m2 m3 m4 m5 m6 m7
      have rdD' : rowOf (wr.alloc (.cells #[.int .i64 md.hours, .int .i64 x, .int .i64 md.heat.1, .int .i64 md.heat.2, .int .i64 md.grass.1, .int .i64 md.grass.2, .int .i64 md.drinks.1, .int .i64 md.drinks.2] 45)) wr.heap.size = some #[.int .i64 md.hours, .int .i64 x, .int .i64 md.heat.1, .int .i64 md.heat.2, .int .i64 md.grass.1, .int .i64 md.grass.2, .int .i64 md.drinks.1, .int .i64 md.drinks.2] := row_here0 _ _ _
      have raD' : rowOf (wr.alloc (.cells #[.int .i64 md.hours, .int .i64 x, .int .i64 md.heat.1, .int .i64 md.heat.2, .int .i64 md.grass.1, .int .i64 md.grass.2, .int .i64 md.drinks.1, .int .i64 md.drinks.2] 45)) w.heap.size = some #[.int .i64 b.full, .int .i64 b.fed, .int .i64 b.rest.1, .int .i64 b.rest.2, .int .i64 b.heat.1, .int .i64 b.heat.2, .int .i64 b.toil.1, .int .i64 b.toil.2, .int .i64 b.burn.1, .int .i64 b.burn.2, .int .i64 b.rub.1, .int .i64 b.rub.2, .int .i64 b.milk.1, .int .i64 b.milk.2, .int .i64 b.heal, .int .i64 b.strong.1, .int .i64 b.strong.2] := rowSkip raR
      have rbD' : rowOf (wr.alloc (.cells #[.int .i64 md.hours, .int .i64 x, .int .i64 md.heat.1, .int .i64 md.heat.2, .int .i64 md.grass.1, .int .i64 md.grass.2, .int .i64 md.drinks.1, .int .i64 md.drinks.2] 45)) (w.heap.size + 1) = some #[.int .i64 mo.water.1, .int .i64 mo.water.2, .int .i64 mo.fat.1, .int .i64 mo.fat.2, .int .i64 mo.sore.1, .int .i64 mo.sore.2, .bool mo.milks] := rowSkip rbR
      have hBD : Below w.heap.size w (wr.alloc (.cells #[.int .i64 md.hours, .int .i64 x, .int .i64 md.heat.1, .int .i64 md.heat.2, .int .i64 md.grass.1, .int .i64 md.grass.2, .int .i64 md.drinks.1, .int .i64 md.drinks.2] 45)) := hB0.alloc hB0.size _
      clear raR caR gaR rbR cbR gbR
      generalize hgd : wr.heap.size = gd at *
      generalize (wr.alloc (.cells #[.int .i64 md.hours, .int .i64 x, .int .i64 md.heat.1, .int .i64 md.heat.2, .int .i64 md.grass.1, .int .i64 md.grass.2, .int .i64 md.drinks.1, .int .i64 md.drinks.2] 45)) = D0 at *
      obtain ⟨rdD, cdD, gdD, zdD⟩ := row_facts rdD'
      obtain ⟨raD, caD, gaD, zaD⟩ := row_facts raD'
      obtain ⟨rbD, cbD, gbD, zbD⟩ := row_facts rbD'
      have zD := hBD.size
      by_cases hh : 0 < md.hours
      · have hlh := hh
        refine quiet_wp (by kernel_rfl) (by kernel_rfl) ?_
        refine quiet_step rfl (.pointer (some ⟨gd, 0, none⟩)) (fun W hE => ?_) ?_
        · show Oper.quietUpon _ _ _ _ _
          go_simp
          try exact ⟨rfl, rfl⟩
        simp only [Act.put, List.setIfInBounds_toArray, List.set_cons_succ, List.set_cons_zero]
        refine quiet_step rfl (.int .i64 md.hours) (fun W hE => ?_) ?_
        · show Oper.quietUpon _ _ _ _ _
          obtain ⟨_, _, -, _⟩ := keep_row hE (rdD' : rowOf _ _ = _)
          obtain ⟨_, _, -, _⟩ := keep_row hE (raD' : rowOf _ _ = _)
          obtain ⟨_, _, -, _⟩ := keep_row hE (rbD' : rowOf _ _ = _)
          go_simp
          try exact ⟨rfl, rfl⟩
        simp only [Act.put, List.setIfInBounds_toArray, List.set_cons_succ, List.set_cons_zero]
        refine quiet_step rfl (.bool true) (fun W hE => ?_) ?_
        · show Oper.quietUpon _ _ _ _ _
          go_simp
          try exact ⟨rfl, rfl⟩
        simp only [Act.put, List.setIfInBounds_toArray, List.set_cons_succ, List.set_cons_zero]
        refine quiet_step rfl (.bool true) (fun W hE => ?_) ?_
        · show Oper.quietUpon _ _ _ _ _
          go_simp
          try exact ⟨rfl, rfl⟩
        simp only [Act.put, List.setIfInBounds_toArray, List.set_cons_succ, List.set_cons_zero]
        refine quiet_step rfl (.int .i64 x) (fun W hE => ?_) ?_
        · show Oper.quietUpon _ _ _ _ _
          go_simp
          try exact ⟨rfl, rfl⟩
        simp only [Act.put, List.setIfInBounds_toArray, List.set_cons_succ, List.set_cons_zero]
        refine quiet_step rfl (.pointer (some ⟨w.heap.size, 15, none⟩)) (fun W hE => ?_) ?_
        · show Oper.quietUpon _ _ _ _ _
          go_simp
          try exact ⟨rfl, rfl⟩
        simp only [Act.put, List.setIfInBounds_toArray, List.set_cons_succ, List.set_cons_zero]
        refine quiet_step rfl (.pointer (some ⟨w.heap.size, 15, none⟩)) (fun W hE => ?_) ?_
        · show Oper.quietUpon _ _ _ _ _
          go_simp
          try exact ⟨rfl, rfl⟩
        simp only [Act.put, List.setIfInBounds_toArray, List.set_cons_succ, List.set_cons_zero]
        refine quiet_step rfl (.int .i64 b.strong.1) (fun W hE => ?_) ?_
        · show Oper.quietUpon _ _ _ _ _
          obtain ⟨_, _, -, _⟩ := keep_row hE (rdD' : rowOf _ _ = _)
          obtain ⟨_, _, -, _⟩ := keep_row hE (raD' : rowOf _ _ = _)
          obtain ⟨_, _, -, _⟩ := keep_row hE (rbD' : rowOf _ _ = _)
          go_simp
          try exact ⟨rfl, rfl⟩
        simp only [Act.put, List.setIfInBounds_toArray, List.set_cons_succ, List.set_cons_zero]
        refine quiet_step rfl (.agg #[.int .i64 b.full, .int .i64 b.fed, .int .i64 b.rest.1, .int .i64 b.rest.2, .int .i64 b.heat.1, .int .i64 b.heat.2, .int .i64 b.toil.1, .int .i64 b.toil.2, .int .i64 b.burn.1, .int .i64 b.burn.2, .int .i64 b.rub.1, .int .i64 b.rub.2, .int .i64 b.milk.1, .int .i64 b.milk.2, .int .i64 b.heal, .int .i64 b.strong.1, .int .i64 b.strong.2]) (fun W hE => ?_) ?_
        · show Oper.quietUpon _ _ _ _ _
          obtain ⟨_, _, -, _⟩ := keep_row hE (rdD' : rowOf _ _ = _)
          obtain ⟨_, _, -, _⟩ := keep_row hE (raD' : rowOf _ _ = _)
          obtain ⟨_, _, -, _⟩ := keep_row hE (rbD' : rowOf _ _ = _)
          go_simp
          try exact ⟨rfl, rfl⟩
        simp only [Act.put, List.setIfInBounds_toArray, List.set_cons_succ, List.set_cons_zero]
        refine quiet_step rfl (.agg #[.int .i64 mo.water.1, .int .i64 mo.water.2, .int .i64 mo.fat.1, .int .i64 mo.fat.2, .int .i64 mo.sore.1, .int .i64 mo.sore.2, .bool mo.milks]) (fun W hE => ?_) ?_
        · show Oper.quietUpon _ _ _ _ _
          obtain ⟨_, _, -, _⟩ := keep_row hE (rdD' : rowOf _ _ = _)
          obtain ⟨_, _, -, _⟩ := keep_row hE (raD' : rowOf _ _ = _)
          obtain ⟨_, _, -, _⟩ := keep_row hE (rbD' : rowOf _ _ = _)
          go_simp
          try exact ⟨rfl, rfl⟩
        simp only [Act.put, List.setIfInBounds_toArray, List.set_cons_succ, List.set_cons_zero]
        refine quiet_step rfl (.agg #[.int .i64 fs.1, .int .i64 fs.2]) (fun W hE => ?_) ?_
        · show Oper.quietUpon _ _ _ _ _
          go_simp
          first | exact ⟨rfl, (rfitness_x b mo fs HFS.out W HB.out HBM.out).mono fun e w'' ⟨he, hB⟩ => ⟨he, Ext.trans hE hB⟩⟩ | exact (rfitness_x b mo fs HFS.out W HB.out HBM.out).mono fun e w'' ⟨he, hB⟩ => ⟨he, Ext.trans hE hB⟩
        simp only [Act.put, List.setIfInBounds_toArray, List.set_cons_succ, List.set_cons_zero]
        refine quiet_step rfl (.int .i64 fs.1) (fun W hE => ?_) ?_
        · show Oper.quietUpon _ _ _ _ _
          go_simp
          try exact ⟨rfl, rfl⟩
        simp only [Act.put, List.setIfInBounds_toArray, List.set_cons_succ, List.set_cons_zero]
        refine quiet_step rfl (.int .i64 (b.strong.1 * fs.1)) (fun W hE => ?_) ?_
        · show Oper.quietUpon _ _ _ _ _
          go_simp
          exact IntWalk.i64_in _ ⟨by omega, by omega⟩
        simp only [Act.put, List.setIfInBounds_toArray, List.set_cons_succ, List.set_cons_zero]
        refine quiet_step rfl (.int .i64 (b.strong.1 * fs.1 / 1000)) (fun W hE => ?_) ?_
        · show Oper.quietUpon _ _ _ _ _
          go_simp
          rw [Int.tdiv_eq_ediv_of_nonneg p1]
          exact IntWalk.i64_in _ ⟨by omega, by omega⟩
        simp only [Act.put, List.setIfInBounds_toArray, List.set_cons_succ, List.set_cons_zero]
        refine quiet_step rfl (.bool (decide (b.strong.1 * fs.1 / 1000 < x))) (fun W hE => ?_) ?_
        · show Oper.quietUpon _ _ _ _ _
          go_simp
          try exact ⟨rfl, rfl⟩
        simp only [Act.put, List.setIfInBounds_toArray, List.set_cons_succ, List.set_cons_zero]
        refine quiet_step rfl (.bool (decide (b.strong.1 * fs.1 / 1000 < x))) (fun W hE => ?_) ?_
        · show Oper.quietUpon _ _ _ _ _
          go_simp
          try exact ⟨rfl, rfl⟩
        simp only [Act.put, List.setIfInBounds_toArray, List.set_cons_succ, List.set_cons_zero]
        refine wpQuiet_nil ?_
        intro W hE
        obtain ⟨raW, caW, gaW, zaW⟩ := keep_row hE raD'
        obtain ⟨rbW, cbW, gbW, zbW⟩ := keep_row hE rbD'
        obtain ⟨rdW, cdW, gdW, zdW⟩ := keep_row hE rdD'
        have hBW : Below w.heap.size w W := hBD.trans (Below.mono hE zD)
        have zW := hBW.size
        clear hE raD' rbD' rdD' raD rbD rdD caD cbD cdD gaD gbD gdD hBD hB0
        by_cases hl : b.strong.1 * fs.1 / 1000 < x
        · have hld : decide (b.strong.1 * fs.1 / 1000 < x) = true := decide_eq_true hl
          have hno := bearS_no (x := x) hkm (okDay_load (by rw [HML.out]; exact hh) (by rw [HMO.out, HCA.out]; exact hl))
          rw [HR.out] at hno
          subst hno
          go_wp2
          go_returns
          exact ⟨rfl, hBW⟩
        · have hld : decide (b.strong.1 * fs.1 / 1000 < x) = false := decide_eq_false hl
          go_wp2_with fail
          refine (rafter_x b mo (ldM x md) ce ff HCE.out HF.out _ HB.out HBM.out HBD.out).mono ?_
          rintro e W2 ⟨rfl, hB2⟩
          obtain ⟨ra2, ca2, ga2, za2⟩ := keep_row hB2 raW
          obtain ⟨rb2, cb2, gb2, zb2⟩ := keep_row hB2 rbW
          have hW2 : Below w.heap.size w W2 := hBW.trans (hB2.mono zW)
          have z2 := hW2.size
          clear hB2 raW caW gaW rbW cbW gbW rdW cdW gdW hBW
          by_cases hf0 : ff = 0
          · have hdd : diesS b mo (ldM x md) = false := by
              cases h : diesS b mo (ldM x md) with
              | false => rfl
              | true => have := HF.out.symm.trans (fate2.2 h); omega
            have HY := Lib.hid (show okDay b c (ldS x ms) x k = true from okDay_yes (by unfold fatK; rw [HMO.out, HML.out, HF.out]; exact hf0) (fun _ => by rw [HMO.out, HCA.out]; omega))
            have HCM := Lib.hid (show mornC b c (ldS x ms) (k + 1) = ce by rw [← HCE.out, mornC, HMO.out, HML.out]; simp [hdd])
            subst hf0
            clear hdd
            go_wp2
            have s8 := stored_setRow (rowSkip (o := .cells #[.int .i64 ce.water.1, .int .i64 ce.water.2, .int .i64 ce.fat.1, .int .i64 ce.fat.2, .int .i64 ce.sore.1, .int .i64 ce.sore.2, .bool ce.milks] 39) rb2) #[.int .i64 ce.water.1, .int .i64 ce.water.2, .int .i64 ce.fat.1, .int .i64 ce.fat.2, .int .i64 ce.sore.1, .int .i64 ce.sore.2, .bool ce.milks]
            refine ⟨⟨k + 1, hlt, by go_num, s8.keeps (by omega) (rowSkip ra2), by rw [HCM.out]; exact s8.row, (hW2.alloc z2 _).trans (s8.below _ (by omega)), by simp [World.setRow]; omega, ?_⟩, by simp [intOf]; omega⟩
            intro j hj
            rcases Nat.lt_or_ge j k with h | h
            · exact hal.out j h
            · obtain rfl : j = k := by omega
              exact HY.out
          · have hf1 : (ff == 0) = false := by simpa using hf0
            have hno := bearS_no (x := x) hkm (okDay_fate (by unfold fatK; rw [HMO.out, HML.out, HF.out]; exact hf0))
            rw [HR.out] at hno
            subst hno
            go_wp2
            go_returns
            exact ⟨rfl, hW2.alloc z2 _⟩
      · have hlh : decide (0 < md.hours) = false := decide_eq_false hh
        refine quiet_wp (by kernel_rfl) (by kernel_rfl) ?_
        refine quiet_step rfl (.pointer (some ⟨gd, 0, none⟩)) (fun W hE => ?_) ?_
        · show Oper.quietUpon _ _ _ _ _
          go_simp
          try exact ⟨rfl, rfl⟩
        simp only [Act.put, List.setIfInBounds_toArray, List.set_cons_succ, List.set_cons_zero]
        refine quiet_step rfl (.int .i64 md.hours) (fun W hE => ?_) ?_
        · show Oper.quietUpon _ _ _ _ _
          obtain ⟨_, _, -, _⟩ := keep_row hE (rdD' : rowOf _ _ = _)
          obtain ⟨_, _, -, _⟩ := keep_row hE (raD' : rowOf _ _ = _)
          obtain ⟨_, _, -, _⟩ := keep_row hE (rbD' : rowOf _ _ = _)
          go_simp
          try exact ⟨rfl, rfl⟩
        simp only [Act.put, List.setIfInBounds_toArray, List.set_cons_succ, List.set_cons_zero]
        refine quiet_step rfl (.bool false) (fun W hE => ?_) ?_
        · show Oper.quietUpon _ _ _ _ _
          go_simp
          try exact ⟨rfl, rfl⟩
        simp only [Act.put, List.setIfInBounds_toArray, List.set_cons_succ, List.set_cons_zero]
        refine quiet_step rfl (.bool false) (fun W hE => ?_) ?_
        · show Oper.quietUpon _ _ _ _ _
          go_simp
          try exact ⟨rfl, rfl⟩
        simp only [Act.put, List.setIfInBounds_toArray, List.set_cons_succ, List.set_cons_zero]
        refine Go.BigFrame.wpQuiet_skip rfl ?_
        simp only [Act.put, List.setIfInBounds_toArray, List.set_cons_succ, List.set_cons_zero]
        refine Go.BigFrame.wpQuiet_skip rfl ?_
        simp only [Act.put, List.setIfInBounds_toArray, List.set_cons_succ, List.set_cons_zero]
        refine Go.BigFrame.wpQuiet_skip rfl ?_
        simp only [Act.put, List.setIfInBounds_toArray, List.set_cons_succ, List.set_cons_zero]
        refine Go.BigFrame.wpQuiet_skip rfl ?_
        simp only [Act.put, List.setIfInBounds_toArray, List.set_cons_succ, List.set_cons_zero]
        refine Go.BigFrame.wpQuiet_skip rfl ?_
        simp only [Act.put, List.setIfInBounds_toArray, List.set_cons_succ, List.set_cons_zero]
        refine Go.BigFrame.wpQuiet_skip rfl ?_
        simp only [Act.put, List.setIfInBounds_toArray, List.set_cons_succ, List.set_cons_zero]
        refine Go.BigFrame.wpQuiet_skip rfl ?_
        simp only [Act.put, List.setIfInBounds_toArray, List.set_cons_succ, List.set_cons_zero]
        refine Go.BigFrame.wpQuiet_skip rfl ?_
        simp only [Act.put, List.setIfInBounds_toArray, List.set_cons_succ, List.set_cons_zero]
        refine Go.BigFrame.wpQuiet_skip rfl ?_
        simp only [Act.put, List.setIfInBounds_toArray, List.set_cons_succ, List.set_cons_zero]
        refine Go.BigFrame.wpQuiet_skip rfl ?_
        simp only [Act.put, List.setIfInBounds_toArray, List.set_cons_succ, List.set_cons_zero]
        refine Go.BigFrame.wpQuiet_skip rfl ?_
        simp only [Act.put, List.setIfInBounds_toArray, List.set_cons_succ, List.set_cons_zero]
        refine quiet_step rfl (.bool false) (fun W hE => ?_) ?_
        · show Oper.quietUpon _ _ _ _ _
          go_simp
          try exact ⟨rfl, rfl⟩
        simp only [Act.put, List.setIfInBounds_toArray, List.set_cons_succ, List.set_cons_zero]
        refine wpQuiet_nil ?_
        intro W hE
        obtain ⟨raW, caW, gaW, zaW⟩ := keep_row hE raD'
        obtain ⟨rbW, cbW, gbW, zbW⟩ := keep_row hE rbD'
        obtain ⟨rdW, cdW, gdW, zdW⟩ := keep_row hE rdD'
        have hBW : Below w.heap.size w W := hBD.trans (Below.mono hE zD)
        have zW := hBW.size
        clear hE raD' rbD' rdD' raD rbD rdD caD cbD cdD gaD gbD gdD hBD hB0
        go_wp2_with fail
        refine (rafter_x b mo (ldM x md) ce ff HCE.out HF.out _ HB.out HBM.out HBD.out).mono ?_
        rintro e W2 ⟨rfl, hB2⟩
        obtain ⟨ra2, ca2, ga2, za2⟩ := keep_row hB2 raW
        obtain ⟨rb2, cb2, gb2, zb2⟩ := keep_row hB2 rbW
        have hW2 : Below w.heap.size w W2 := hBW.trans (hB2.mono zW)
        have z2 := hW2.size
        clear hB2 raW caW gaW rbW cbW gbW rdW cdW gdW hBW
        by_cases hf0 : ff = 0
        · have hdd : diesS b mo (ldM x md) = false := by
            cases h : diesS b mo (ldM x md) with
            | false => rfl
            | true => have := HF.out.symm.trans (fate2.2 h); omega
          have HY := Lib.hid (show okDay b c (ldS x ms) x k = true from okDay_yes (by unfold fatK; rw [HMO.out, HML.out, HF.out]; exact hf0) (fun h => by rw [HML.out] at h; exact absurd (show 0 < md.hours from h) (by omega)))
          have HCM := Lib.hid (show mornC b c (ldS x ms) (k + 1) = ce by rw [← HCE.out, mornC, HMO.out, HML.out]; simp [hdd])
          subst hf0
          clear hdd
          go_wp2
          have s8 := stored_setRow (rowSkip (o := .cells #[.int .i64 ce.water.1, .int .i64 ce.water.2, .int .i64 ce.fat.1, .int .i64 ce.fat.2, .int .i64 ce.sore.1, .int .i64 ce.sore.2, .bool ce.milks] 39) rb2) #[.int .i64 ce.water.1, .int .i64 ce.water.2, .int .i64 ce.fat.1, .int .i64 ce.fat.2, .int .i64 ce.sore.1, .int .i64 ce.sore.2, .bool ce.milks]
          refine ⟨⟨k + 1, hlt, by go_num, s8.keeps (by omega) (rowSkip ra2), by rw [HCM.out]; exact s8.row, (hW2.alloc z2 _).trans (s8.below _ (by omega)), by simp [World.setRow]; omega, ?_⟩, by simp [intOf]; omega⟩
          intro j hj
          rcases Nat.lt_or_ge j k with h | h
          · exact hal.out j h
          · obtain rfl : j = k := by omega
            exact HY.out
        · have hf1 : (ff == 0) = false := by simpa using hf0
          have hno := bearS_no (x := x) hkm (okDay_fate (by unfold fatK; rw [HMO.out, HML.out, HF.out]; exact hf0))
          rw [HR.out] at hno
          subst hno
          go_wp2
          go_returns
          exact ⟨rfl, hW2.alloc z2 _⟩
    · obtain rfl : k = n := by omega
      have hyes : bearS b c ms x = true := bearS_yes (fun j hj => hal.out j (by rw [HN.out]; exact hj))
      rw [HR.out] at hyes
      subst hyes
      go_wp2
      go_returns
      exact ⟨rfl, hB0⟩
end Go.Proofs.Ytafdcbdbllpcnaa
