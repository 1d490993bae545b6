/- The chapter's other examples: what is told of them. -/
import Derived.Test.YtafdcbdbllpcnaaLeafO
import Derived.Test.YtafdcbdbllpcnaaLeafU
set_option linter.unusedVariables false
set_option linter.unusedSimpArgs false
namespace Go.Proofs.Ytafdcbdbllpcnaa
open Go.RowKit
open Go.Proofs

def dryE : Cm := ⟨(0, 6999), (20000, 30000), (0, 100), false⟩
def soreE : Cm := ⟨(0, 0), (0, 0), (0, 1001), false⟩
def brZ : Br := ⟨0, 0, (0, 0), (0, 0), (0, 0), (0, 0), (0, 0), (0, 0), 0, (0, 0)⟩
def mrZ : Mr := ⟨0, 0, (0, 0), (0, 0), (0, 0)⟩
def mr25 : Mr := ⟨25, 0, (0, 0), (0, 0), (0, 0)⟩

theorem eq_thirst : thR brE [cmE, cmE] = ((60000, 80000), 0) := by decide +kernel
theorem eqs_heav : chkT brE cmE [mrE] = 0 ∧ heaS brE cmE [mrE] 0 = (120000, 0) := by decide +kernel
theorem eqs_fitz : chkC brZ dryE = 10 ∧ fitR brZ dryE = (0, 0) := by decide +kernel
theorem eqs_fits : chkC brE soreE = 11 ∧ fitR brE soreE = (0, 0) := by decide +kernel
theorem eqs_cost25 : chkM brE mr25 = 12 ∧ coW brE false mr25 = (0, 0) ∧ coF brE mr25 = (0, 0) := by decide +kernel
theorem eqs_dry : chkA brE dryE mrE = 13 := by decide +kernel
theorem eqs_die : chkT brE dryE [mrZ, mrE] = 0 ∧ firstDie brE dryE [mrZ, mrE] = some 1 := by decide +kernel
theorem eqs_many : chkT brE cmE (List.replicate 61 mrZ) = 4 := by decide +kernel
theorem eqs_heavd : chkT brE dryE [mrE] = 0 ∧ heaS brE dryE [mrE] 0 = (0, 13) := by decide +kernel

theorem thirst_x (b : Br) (c : Cm) (hb : b = brE) (hc : c = cmE) (w : World) (g : Nat) (h : rowOf w g = some #[.int .i64 c.water.1, .int .i64 c.water.2, .int .i64 c.fat.1, .int .i64 c.fat.2, .int .i64 c.sore.1, .int .i64 c.sore.2, .bool c.milks, .int .i64 c.water.1, .int .i64 c.water.2, .int .i64 c.fat.1, .int .i64 c.fat.2, .int .i64 c.sore.1, .int .i64 c.sore.2, .bool c.milks]) :
    Calls Try.prog 18 #[.agg #[.int .i64 b.full, .int .i64 b.fed, .int .i64 b.rest.1, .int .i64 b.rest.2, .int .i64 b.heat.1, .int .i64 b.heat.2, .int .i64 b.toil.1, .int .i64 b.toil.2, .int .i64 b.burn.1, .int .i64 b.burn.2, .int .i64 b.rub.1, .int .i64 b.rub.2, .int .i64 b.milk.1, .int .i64 b.milk.2, .int .i64 b.heal, .int .i64 b.strong.1, .int .i64 b.strong.2], .slice (some ⟨g, 0, none⟩) 2 2] w fun e w' => e = .returned (.tuple #[.agg #[.int .i64 60000, .int .i64 80000], .int .i64 0]) ∧ Below w.heap.size w w' := by
  subst hb hc
  have h := Thirst_any brE (some ⟨g, 0, none⟩) 2 [cmE, cmE] w (.inr ⟨g, 0, rfl, cams_row h, (cell_of_rowOf h).2.2⟩) (by decide)
  rw [eq_thirst] at h
  exact h
theorem heav_x (b : Br) (c : Cm) (m : Mr) (hb : b = brE) (hc : c = cmE) (hm : m = mrE) (w : World) (g : Nat) (h : rowOf w g = some #[.int .i64 m.hours, .int .i64 m.load, .int .i64 m.heat.1, .int .i64 m.heat.2, .int .i64 m.grass.1, .int .i64 m.grass.2, .int .i64 m.drinks.1, .int .i64 m.drinks.2]) :
    Calls Try.prog 21 #[.agg #[.int .i64 b.full, .int .i64 b.fed, .int .i64 b.rest.1, .int .i64 b.rest.2, .int .i64 b.heat.1, .int .i64 b.heat.2, .int .i64 b.toil.1, .int .i64 b.toil.2, .int .i64 b.burn.1, .int .i64 b.burn.2, .int .i64 b.rub.1, .int .i64 b.rub.2, .int .i64 b.milk.1, .int .i64 b.milk.2, .int .i64 b.heal, .int .i64 b.strong.1, .int .i64 b.strong.2], .agg #[.int .i64 c.water.1, .int .i64 c.water.2, .int .i64 c.fat.1, .int .i64 c.fat.2, .int .i64 c.sore.1, .int .i64 c.sore.2, .bool c.milks], .slice (some ⟨g, 0, none⟩) 1 1] w fun e w' => e = .returned (.tuple #[.int .i64 120000, .int .i64 0]) ∧ Below w.heap.size w w' := by
  subst hb hc hm
  exact Heaviest_any brE cmE (some ⟨g, 0, none⟩) 1 1 [mrE] (120000, 0) (by rw [eqs_heav.1]; exact eqs_heav.2) w rfl (days_row 1 h) (by decide)
theorem heavd_x (b : Br) (d : Cm) (m : Mr) (hb : b = brE) (hd : d = dryE) (hm : m = mrE) (w : World) (g : Nat) (h : rowOf w g = some #[.int .i64 m.hours, .int .i64 m.load, .int .i64 m.heat.1, .int .i64 m.heat.2, .int .i64 m.grass.1, .int .i64 m.grass.2, .int .i64 m.drinks.1, .int .i64 m.drinks.2]) :
    Calls Try.prog 21 #[.agg #[.int .i64 b.full, .int .i64 b.fed, .int .i64 b.rest.1, .int .i64 b.rest.2, .int .i64 b.heat.1, .int .i64 b.heat.2, .int .i64 b.toil.1, .int .i64 b.toil.2, .int .i64 b.burn.1, .int .i64 b.burn.2, .int .i64 b.rub.1, .int .i64 b.rub.2, .int .i64 b.milk.1, .int .i64 b.milk.2, .int .i64 b.heal, .int .i64 b.strong.1, .int .i64 b.strong.2], .agg #[.int .i64 d.water.1, .int .i64 d.water.2, .int .i64 d.fat.1, .int .i64 d.fat.2, .int .i64 d.sore.1, .int .i64 d.sore.2, .bool d.milks], .slice (some ⟨g, 0, none⟩) 1 1] w fun e w' => e = .returned (.tuple #[.int .i64 0, .int .i64 13]) ∧ Below w.heap.size w w' := by
  subst hb hd hm
  exact Heaviest_any brE dryE (some ⟨g, 0, none⟩) 1 1 [mrE] (0, 13) (by rw [eqs_heavd.1]; exact eqs_heavd.2) w rfl (days_row 1 h) (by decide)
theorem fitz_x (d : Cm) (hd : d = dryE) (w : World) : Calls Try.prog 23 #[.agg #[.int .i64 0, .int .i64 0, .int .i64 0, .int .i64 0, .int .i64 0, .int .i64 0, .int .i64 0, .int .i64 0, .int .i64 0, .int .i64 0, .int .i64 0, .int .i64 0, .int .i64 0, .int .i64 0, .int .i64 0, .int .i64 0, .int .i64 0], .agg #[.int .i64 d.water.1, .int .i64 d.water.2, .int .i64 d.fat.1, .int .i64 d.fat.2, .int .i64 d.sore.1, .int .i64 d.sore.2, .bool d.milks]] w fun e w' => e = .returned (.tuple #[.agg #[.int .i64 0, .int .i64 0], .int .i64 10]) ∧ Below w.heap.size w w' := by
  subst hd
  have h := Fitness_any brZ dryE w
  rw [eqs_fitz.1, eqs_fitz.2] at h
  exact h
theorem fits_x (b : Br) (hb : b = brE) (w : World) : Calls Try.prog 23 #[.agg #[.int .i64 b.full, .int .i64 b.fed, .int .i64 b.rest.1, .int .i64 b.rest.2, .int .i64 b.heat.1, .int .i64 b.heat.2, .int .i64 b.toil.1, .int .i64 b.toil.2, .int .i64 b.burn.1, .int .i64 b.burn.2, .int .i64 b.rub.1, .int .i64 b.rub.2, .int .i64 b.milk.1, .int .i64 b.milk.2, .int .i64 b.heal, .int .i64 b.strong.1, .int .i64 b.strong.2], .agg #[.int .i64 0, .int .i64 0, .int .i64 0, .int .i64 0, .int .i64 0, .int .i64 1001, .bool false]] w fun e w' => e = .returned (.tuple #[.agg #[.int .i64 0, .int .i64 0], .int .i64 11]) ∧ Below w.heap.size w w' := by
  subst hb
  have h := Fitness_any brE soreE w
  rw [eqs_fits.1, eqs_fits.2] at h
  exact h
theorem cost25_x (b : Br) (hb : b = brE) (w : World) : Calls Try.prog 24 #[.agg #[.int .i64 b.full, .int .i64 b.fed, .int .i64 b.rest.1, .int .i64 b.rest.2, .int .i64 b.heat.1, .int .i64 b.heat.2, .int .i64 b.toil.1, .int .i64 b.toil.2, .int .i64 b.burn.1, .int .i64 b.burn.2, .int .i64 b.rub.1, .int .i64 b.rub.2, .int .i64 b.milk.1, .int .i64 b.milk.2, .int .i64 b.heal, .int .i64 b.strong.1, .int .i64 b.strong.2], .bool false, .agg #[.int .i64 25, .int .i64 0, .int .i64 0, .int .i64 0, .int .i64 0, .int .i64 0, .int .i64 0, .int .i64 0]] w fun e w' => e = .returned (.tuple #[.agg #[.int .i64 0, .int .i64 0], .agg #[.int .i64 0, .int .i64 0], .int .i64 12]) ∧ Below w.heap.size w w' := by
  subst hb
  have h := Cost_any brE false mr25 w
  rw [eqs_cost25.1, eqs_cost25.2.1, eqs_cost25.2.2] at h
  exact h
theorem aftd_x (b : Br) (d : Cm) (m : Mr) (hb : b = brE) (hd : d = dryE) (hm : m = mrE) (w : World) : Calls Try.prog 25 #[.agg #[.int .i64 b.full, .int .i64 b.fed, .int .i64 b.rest.1, .int .i64 b.rest.2, .int .i64 b.heat.1, .int .i64 b.heat.2, .int .i64 b.toil.1, .int .i64 b.toil.2, .int .i64 b.burn.1, .int .i64 b.burn.2, .int .i64 b.rub.1, .int .i64 b.rub.2, .int .i64 b.milk.1, .int .i64 b.milk.2, .int .i64 b.heal, .int .i64 b.strong.1, .int .i64 b.strong.2], .agg #[.int .i64 d.water.1, .int .i64 d.water.2, .int .i64 d.fat.1, .int .i64 d.fat.2, .int .i64 d.sore.1, .int .i64 d.sore.2, .bool d.milks], .agg #[.int .i64 m.hours, .int .i64 m.load, .int .i64 m.heat.1, .int .i64 m.heat.2, .int .i64 m.grass.1, .int .i64 m.grass.2, .int .i64 m.drinks.1, .int .i64 m.drinks.2]] w fun e w' => e = .returned (.tuple #[.agg #[.int .i64 0, .int .i64 0, .int .i64 0, .int .i64 0, .int .i64 0, .int .i64 0, .bool false], .int .u8 0, .int .i64 13]) ∧ Below w.heap.size w w' := by
  subst hb hd hm
  have h := After_any brE dryE mrE w
  have e1 : aftC brE dryE mrE = zc false := by rw [aftC, eqs_dry]; rfl
  have e2 : aftF brE dryE mrE = 0 := by rw [aftF, eqs_dry]; rfl
  rw [eqs_dry, e1, e2] at h
  exact h
theorem daysd_x (b : Br) (d : Cm) (m : Mr) (hb : b = brE) (hd : d = dryE) (hm : m = mrE) (w : World) (g : Nat) (h : rowOf w g = some #[.int .i64 0, .int .i64 0, .int .i64 0, .int .i64 0, .int .i64 0, .int .i64 0, .int .i64 0, .int .i64 0, .int .i64 m.hours, .int .i64 m.load, .int .i64 m.heat.1, .int .i64 m.heat.2, .int .i64 m.grass.1, .int .i64 m.grass.2, .int .i64 m.drinks.1, .int .i64 m.drinks.2]) :
    Calls Try.prog 26 #[.agg #[.int .i64 b.full, .int .i64 b.fed, .int .i64 b.rest.1, .int .i64 b.rest.2, .int .i64 b.heat.1, .int .i64 b.heat.2, .int .i64 b.toil.1, .int .i64 b.toil.2, .int .i64 b.burn.1, .int .i64 b.burn.2, .int .i64 b.rub.1, .int .i64 b.rub.2, .int .i64 b.milk.1, .int .i64 b.milk.2, .int .i64 b.heal, .int .i64 b.strong.1, .int .i64 b.strong.2], .agg #[.int .i64 d.water.1, .int .i64 d.water.2, .int .i64 d.fat.1, .int .i64 d.fat.2, .int .i64 d.sore.1, .int .i64 d.sore.2, .bool d.milks], .slice (some ⟨g, 0, none⟩) 2 2] w fun e w' => e = .returned (.tuple #[.slice none 0 0, .int .u8 2, .int .i64 1, .int .i64 13]) ∧ Below w.heap.size w w' := by
  subst hb hd hm
  have e1 : outF brE dryE [mrZ, mrE] = 2 := by rw [outF, eqs_die.1, eqs_die.2]; rfl
  have e2 : outA brE dryE [mrZ, mrE] = 1 := by rw [outA, eqs_die.1, eqs_die.2]; rfl
  have e3 : outE brE dryE [mrZ, mrE] = 13 := by rw [outE, eqs_die.1, eqs_die.2]; rfl
  have e4 : outL brE dryE [mrZ, mrE] = [] := by rw [outL, eqs_die.1, eqs_die.2]; rfl
  refine (Days_any brE dryE (some ⟨g, 0, none⟩) 2 [mrZ, mrE] w (days_row 2 h) (by decide)).mono ?_
  rintro e w' ⟨⟨v, rfl, hl⟩, hB⟩
  rw [e4] at hl
  rw [e1, e2, e3]
  rcases hl with ⟨rfl, -⟩ | ⟨_, _, _, _, _, h⟩
  · exact ⟨rfl, hB⟩
  · exact absurd rfl h
theorem rep61 : rep (marCells mrZ) 61 = (List.replicate 61 mrZ).flatMap marCells := by
  simp [rep, List.flatMap, List.map_replicate]
theorem daysm_x (b : Br) (c : Cm) (hb : b = brE) (hc : c = cmE) (w : World) (g : Nat) (h : rowOf w g = some (rep (marCells mrZ) 61).toArray) :
    Calls Try.prog 26 #[.agg #[.int .i64 b.full, .int .i64 b.fed, .int .i64 b.rest.1, .int .i64 b.rest.2, .int .i64 b.heat.1, .int .i64 b.heat.2, .int .i64 b.toil.1, .int .i64 b.toil.2, .int .i64 b.burn.1, .int .i64 b.burn.2, .int .i64 b.rub.1, .int .i64 b.rub.2, .int .i64 b.milk.1, .int .i64 b.milk.2, .int .i64 b.heal, .int .i64 b.strong.1, .int .i64 b.strong.2], .agg #[.int .i64 c.water.1, .int .i64 c.water.2, .int .i64 c.fat.1, .int .i64 c.fat.2, .int .i64 c.sore.1, .int .i64 c.sore.2, .bool c.milks], .slice (some ⟨g, 0, none⟩) 61 61] w fun e w' => e = .returned (.tuple #[.slice none 0 0, .int .u8 0, .int .i64 0, .int .i64 4]) ∧ Below w.heap.size w w' := by
  subst hb hc
  rw [rep61] at h
  exact Days_bad brE cmE (some ⟨g, 0, none⟩) 61 (List.replicate 61 mrZ) 4 w (days_row 61 h) (by simp) eqs_many (by decide)
theorem mangez_x (w : World) : Calls Try.prog 15 #[.int .i64 0, .slice none 0 0, .slice none 0 0, .agg #[.int .i64 1, .int .i64 1], .int .i64 0] w fun e w' => (∃ v, e = .returned (.tuple #[v, .int .i64 2]) ∧ Told9 w' v ByteArray.empty) ∧ Below w.heap.size w w' :=
  Mange_x 0 0 (1, 1) none 0 0 [] none 0 0 [] 2 ByteArray.empty w rfl rfl (.inl ⟨rfl, rfl, rfl⟩) (.inl ⟨rfl, rfl, rfl⟩) (by decide) (by rw [bsO, if_neg (by decide)]) (by omega)
theorem mange1_x (w : World) (g : Nat) (h : IntsIn w (some ⟨g, 0, none⟩) 1 [1]) : Calls Try.prog 15 #[.int .i64 1, .slice (some ⟨g, 0, none⟩) 1 1, .slice none 0 0, .agg #[.int .i64 1, .int .i64 1], .int .i64 0] w fun e w' => (∃ v, e = .returned (.tuple #[v, .int .i64 14]) ∧ Told9 w' v ByteArray.empty) ∧ Below w.heap.size w w' :=
  Mange_x 1 0 (1, 1) _ 1 1 [1] none 0 0 [] 14 ByteArray.empty w rfl rfl h (.inl ⟨rfl, rfl, rfl⟩) (by decide) (by rw [bsO, if_neg (by decide)]) (by omega)
end Go.Proofs.Ytafdcbdbllpcnaa
