/- Soundness: maps; interface values. -/
import Derived.Test.YtiailejekbnkgaaGreatJD
import Derived.RangeFuncLeaves
import Derived.Laws.BytesArg
import Derived.Laws.Strings
import Derived.MapKept
import Derived.RecoverIn
set_option linter.unusedVariables false
set_option linter.unusedSimpArgs false
namespace Go.V
open Go.RowKit
variable {P : Program}

/-! New objects, and objects put in the place of others -/
theorem alloc_sim {S : Nat → Prop} {φ : Phi} {h : Mem} {w : World} {nx : Nat} {b : Blk} {o : Obj} (hs : Sim P S φ h w) (hn : φ nx = none)
    (hb : Adv S φ h w S (fun id => if id = nx then some ⟨w.heap.size, 0, 0⟩ else φ id) (fun id => if id = nx then some b else h id) (w.alloc o) → SimBlk P (w.alloc o) S (fun id => if id = nx then some ⟨w.heap.size, 0, 0⟩ else φ id) ⟨w.heap.size, 0, 0⟩ b) :
    Adv S φ h w S (fun id => if id = nx then some ⟨w.heap.size, 0, 0⟩ else φ id) (fun id => if id = nx then some b else h id) (w.alloc o) ∧ Sim P S (fun id => if id = nx then some ⟨w.heap.size, 0, 0⟩ else φ id) (fun id => if id = nx then some b else h id) (w.alloc o) := by
  have hadv : Adv S φ h w S (fun id => if id = nx then some ⟨w.heap.size, 0, 0⟩ else φ id) (fun id => if id = nx then some b else h id) (w.alloc o) := by
    refine ⟨fun id loc e1 => ?_, fun _ e => e, fun _ e => .inl e, rfl, rfl, rfl, by simp, fun b hb _ => Below.heap_alloc w _ b hb, ?_, fun b e n hb => shape_alloc hb⟩
    · have : id ≠ nx := by rintro rfl; rw [hn] at e1; cases e1
      simp [this, e1]
    · rintro b ⟨id, x, loc, e1, e2, e3⟩
      by_cases hid : id = nx
      · subst hid; simp at e2; subst e2; right; simp at e3; omega
      · simp [hid] at e1 e2; exact .inl ⟨id, x, loc, e1, e2, e3⟩
  refine ⟨hadv, ?_, ?_, fun b hb => Nat.lt_of_lt_of_le (hs.bd b hb) (by simp)⟩
  · intro id b' hb'
    by_cases hid : id = nx
    · subst hid
      simp at hb'; subst hb'
      exact ⟨⟨w.heap.size, 0, 0⟩, by simp, hb hadv, fun hS => absurd (hs.bd _ hS) (by simp)⟩
    · simp [hid] at hb'
      obtain ⟨loc, e1, e2, e3⟩ := hs.blk id b' hb'
      exact ⟨loc, by simp [hid, e1], e2.adv hadv hs (Below.heap_alloc w _ _ e2.lt), e3⟩
  · intro id id' b b' loc loc' a1 a2 a3 a4 a5
    by_cases hid : id = nx <;> by_cases hid' : id' = nx
    · rw [hid, hid']
    · subst hid
      simp at a3; subst a3
      simp [hid'] at a2 a4
      have := hs.lt a2 a4
      simp at a5; omega
    · subst hid'
      simp at a4; subst a4
      simp [hid] at a1 a3
      have := hs.lt a1 a3
      simp at a5; omega
    · simp [hid] at a1 a3; simp [hid'] at a2 a4
      exact hs.inj id id' b b' loc loc' a1 a2 a3 a4 a5
theorem put_sim {S : Nat → Prop} {φ : Phi} {h : Mem} {w : World} {id : Nat} {b : Blk} {b' : Option Blk} {loc : Loc} {o : Obj} (hs : Sim P S φ h w) (hb : h id = some b) (hφ : φ id = some loc) (hno : w.shape? loc.blk = none)
    (hnew : ∀ x, b' = some x → Adv S φ h w S φ (fun k => if k = id then b' else h k) (w.putObj loc.blk o) → SimBlk P (w.putObj loc.blk o) S φ loc x) :
    Adv S φ h w S φ (fun k => if k = id then b' else h k) (w.putObj loc.blk o) ∧ Sim P S φ (fun k => if k = id then b' else h k) (w.putObj loc.blk o) := by
  have hlt := hs.lt hb hφ
  have hown : Own φ h loc.blk := ⟨id, _, loc, hb, hφ, rfl⟩
  have hadv : Adv S φ h w S φ (fun k => if k = id then b' else h k) (w.putObj loc.blk o) := by
    refine ⟨fun _ _ e => e, fun _ e => e, fun _ e => .inl e, rfl, rfl, rfl, by simp, fun b _ hn => World.putObj_heap_other (fun e => hn (e ▸ hown)), ?_, fun b e n hbs => ?_⟩
    · rintro b ⟨k, y, l, e1, e2, e3⟩
      by_cases hk : k = id
      · subst hk; rw [hφ] at e2; cases e2; exact .inl (e3 ▸ hown)
      · exact .inl ⟨k, y, l, by simpa [hk] using e1, e2, e3⟩
    · have hne : b ≠ loc.blk := by rintro rfl; rw [hno] at hbs; cases hbs
      unfold World.shape? at *
      rw [World.putObj_heap_other hne]; exact hbs
  obtain ⟨loc', q1, q2, q3⟩ := hs.blk id _ hb
  rw [hφ] at q1; cases q1
  refine ⟨hadv, ?_, ?_, fun b hb => by simpa using hs.bd b hb⟩
  · intro k x hk
    by_cases hid : k = id
    · subst hid
      exact ⟨loc, hφ, hnew x (by simpa using hk) hadv, q3⟩
    · have hk' : h k = some x := by simpa [hid] using hk
      obtain ⟨l, p1, p2, p3⟩ := hs.blk k x hk'
      have hne : l.blk ≠ loc.blk := fun e => hid (hs.inj k id x _ l loc hk' hb p1 hφ e)
      exact ⟨l, p1, p2.adv hadv hs (World.putObj_heap_other hne), p3⟩
  · intro k k' c c' l l' a1 a2 a3 a4 a5
    have key : ∀ k c, (if k = id then b' else h k) = some c → ∃ c, h k = some c := fun k c hk => by
      by_cases hid : k = id
      · exact ⟨_, hid ▸ hb⟩
      · exact ⟨c, by simpa [hid] using hk⟩
    obtain ⟨d, a1'⟩ := key k c a1
    obtain ⟨d', a2'⟩ := key k' c' a2
    exact hs.inj k k' d d' l l' a1' a2' a3 a4 a5

/-! Keys -/
def KD : KK → TypeDesc → Prop
  | .int k, d => d = .int k
  | .bool, d => d = .bool
  | .str, d => d = .string
theorem keyK_spec {t : TypeId} {kk : KK} (h : keyK P t = some kk) : ∃ d, P.underlying t = some d ∧ KD kk d := by
  unfold keyK at h
  split at h
  · rename_i i e; cases h; exact ⟨_, e, rfl⟩
  · rename_i e; cases h; exact ⟨_, e, rfl⟩
  · rename_i e; cases h; exact ⟨_, e, rfl⟩
  · cases h
theorem mapK_spec {t : TypeId} {kk : KK} {e : TypeId} (h : mapK P t = some (kk, e)) : ∃ k d, P.underlying t = some (.map k e) ∧ P.underlying k = some d ∧ KD kk d := by
  unfold mapK at h
  split at h
  · rename_i k e' hu
    cases hk : keyK P k with
    | none => simp [hk] at h
    | some q =>
      simp [hk] at h
      obtain ⟨rfl, rfl⟩ := h
      obtain ⟨d, h1, h2⟩ := keyK_spec hk
      exact ⟨k, d, hu, h1, h2⟩
  · cases h
theorem Rep.inv_str {w : World} {S : Nat → Prop} {φ : Phi} {s : ByteArray} {v : Value} (h : Rep w S φ (.str s) v) : v = .string s := by cases h; rfl
theorem isKey_rep {w : World} {S : Nat → Prop} {φ : Phi} {kk : KK} {d : TypeDesc} {k : AV} {v : Value} (hd : KD kk d) (hk : isKeyA kk k = true) (h : Rep w S φ k v) : MapKept.IsKey d v := by
  unfold isKeyA at hk
  split at hk
  · cases h.inv_int; cases hd
    simpa [MapKept.IsKey] using hk
  · cases h.inv_bool; cases hd; simp [MapKept.IsKey]
  · cases h.inv_str; cases hd; simp [MapKept.IsKey]
  · cases hk
theorem keyA_same {w : World} {S S' : Nat → Prop} {φ φ' : Phi} {kk : KK} {d : TypeDesc} {a b : AV} {va vb : Value} {r : Bool} (hd : KD kk d) (h : keyA kk a b = some r) (h1 : Rep w S φ a va) (h2 : Rep w S' φ' b vb) :
    Instr.sameNow d va vb = some r ∧ (r = true → vb = va) := by
  unfold keyA at h
  split at h
  · cases h1.inv_int; cases h2.inv_int
    cases hd
    split at h
    · rename_i hi
      subst hi
      cases h
      exact ⟨by simp [Instr.sameNow], fun he => by simp at he; rw [he]⟩
    · cases h
  · cases h1.inv_bool; cases h2.inv_bool; cases hd
    cases h
    exact ⟨by simp [Instr.sameNow], fun he => by simp at he; rw [he]⟩
  · cases h1.inv_str; cases h2.inv_str; cases hd
    cases h
    exact ⟨by simp [Instr.sameNow], fun he => by rw [(MapKept.bytes_beq _ _).1 he]⟩
  · cases h
/-- What is found. -/
def Found (l : List MapEntry) (vk : Value) (ms : List MR) (i : Nat) : Option (Nat × AV) → Option (Nat × Value) → Prop
  | none, none => True
  | some (j, v), some (j', vv) => j' = j ∧ ∃ k m e, j = i + k ∧ ms[k]? = some m ∧ m.2.1 = v ∧ l[k]? = some e ∧ e.val = vv ∧ e.key = vk
  | _, _ => False
theorem findA_now {w : World} {S : Nat → Prop} {φ : Phi} {kk : KK} {d : TypeDesc} {k : AV} {vk : Value} (hd : KD kk d) (hk : Rep w S φ k vk) :
    ∀ {ms : List MR} {l : List MapEntry} {i : Nat} {r : Option (Nat × AV)}, l.length = ms.length → (∀ (j : Nat) m e, ms[j]? = some m → l[j]? = some e → ∃ S φ, Rep w S φ m.1 e.key) → findA kk k ms i = some r →
    ∃ r', Instr.findNow d vk l i = some r' ∧ Found l vk ms i r r'
  | [], [], i, r, _, _, h => by cases h; exact ⟨none, rfl, trivial⟩
  | [], _ :: _, _, _, hl, _, _ => by simp at hl
  | _ :: _, [], _, _, hl, _, _ => by simp at hl
  | m :: ms, e :: l, i, r, hl, he, h => by
    obtain ⟨S', φ', h1⟩ := he 0 m e rfl rfl
    simp only [findA] at h
    split at h
    · rename_i e1
      cases h
      obtain ⟨q1, q2⟩ := keyA_same hd e1 hk h1
      exact ⟨some (i, e.val), by simp [Instr.findNow, q1], rfl, 0, m, e, rfl, rfl, rfl, rfl, rfl, q2 rfl⟩
    · rename_i e1
      obtain ⟨q1, q2⟩ := keyA_same hd e1 hk h1
      obtain ⟨r', p1, p2⟩ := findA_now hd hk (by simpa using hl) (fun j m e g1 g2 => he (j + 1) m e (by simpa using g1) (by simpa using g2)) h
      refine ⟨r', by simp [Instr.findNow, q1, p1], ?_⟩
      cases r <;> cases r'
      · trivial
      · exact p2
      · exact p2
      · obtain ⟨a1, k', m', e', a2, a3, a4, a5, a6, a7⟩ := p2
        exact ⟨a1, k' + 1, m', e', by omega, by simpa using a3, a4, by simpa using a5, a6, a7⟩
    · cases h
theorem run_found {w : World} {S : Nat → Prop} {φ : Phi} {kk : KK} {d : TypeDesc} {kt : TypeId} {k : AV} {vk : Value} {ms : List MR} {es : Array MapEntry} {r : Option (Nat × AV)} (hd : KD kk d) (hkt : P.underlying kt = some d) (hk : Rep w S φ k vk)
    (hl : es.size = ms.length) (he : ∀ (j : Nat) m e, ms[j]? = some m → es[j]? = some e → ∃ S φ, Rep w S φ m.1 e.key) (h : findK kk k ms = some r) :
    ∃ r', (∀ em, (Instr.checkKey em 10000 kt vk).run P w = .ok () w) ∧ (Instr.findKey kt vk es.toList).run P w = .ok r' w ∧ Found es.toList vk ms 0 r r' ∧ MapKept.IsKey d vk := by
  unfold findK at h
  split at h
  · rename_i hi
    have hik := isKey_rep hd hi hk
    obtain ⟨r', h1, h2⟩ := findA_now (l := es.toList) hd hk (by simpa using hl) (fun j m e g1 g2 => he j m e g1 (by simpa using g2)) h
    exact ⟨r', fun em => MapKept.run_checkKey hkt hik em 9999, MapKept.run_findKey hkt h1, h2, hik⟩
  · cases h
theorem zeroV_spec {t : TypeId} {z : AV} (h : zeroV P t = some z) : ∃ v, (∀ w, (zeroValue t).run P w = .ok v w) ∧ ofValue v = some z := by
  unfold zeroV at h
  cases hi : P.info? t with
  | none => simp [hi] at h
  | some i =>
    cases hz : i.zero with
    | none => simp [hi, hz] at h
    | some v =>
      simp [hi, hz] at h
      exact ⟨v, fun w => by simp [zeroValue, typeInfo, hi, hz, Result.andThen], h⟩
theorem foundA_rep {w : World} {S : Nat → Prop} {φ : Phi} {ok : Bool} {zero : AV} {zv : Value} (hz : Rep w S φ zero zv) {r : Option (Nat × AV)} {r' : Option (Nat × Value)} (h : match r, r' with
    | none, none => True
    | some (_, v), some (_, u) => Rep w S φ v u
    | _, _ => False) : Rep w S φ (foundA ok zero r) (match r' with
    | some (_, v) => if ok then .tuple #[v, .bool true] else v
    | none => if ok then .tuple #[zv, .bool false] else zv) := by
  have two : ∀ {a : AV} {v : Value} {b : Bool}, Rep w S φ a v → Rep w S φ (.tup [a, .bool b]) (.tuple #[v, .bool b]) := fun {a v b} ha => by
    have : Reps w S φ [a, .bool b] #[v, .bool b] := Reps.cons (vs := [.bool b]) ha (Reps.cons (vs := []) .bool reps_nil)
    exact .tup this.1 this.2
  cases r <;> cases r'
  · cases ok
    · simpa [foundA] using hz
    · simpa [foundA] using two hz
  · exact h.elim
  · exact h.elim
  · cases ok
    · simpa [foundA] using h
    · simpa [foundA] using two h

section ops
variable {S : Nat → Prop} {φ : Phi} {h : Mem} {H : Heap} {w : World} {env : List AV} {a : Act} {o : Oper} {nx : Nat} {T : FuncId → Option IFn} {cb : Cb}
theorem ends_put {v : AV} {vv : Value} {id : Nat} {b b' : Blk} {loc : Loc} {ob : Obj} (hs : Sim P S φ h w) (hb : h id = some b) (hφ : φ id = some loc) (hno : w.shape? loc.blk = none)
    (hnew : Adv S φ h w S φ (fun k => if k = id then some b' else h k) (w.putObj loc.blk ob) → SimBlk P (w.putObj loc.blk ob) S φ loc b') (hv : Rep w S φ v vv) :
    Ends P S φ h w v [(id, some b')] nx nx vv (w.putObj loc.blk ob) := by
  obtain ⟨q1, q2⟩ := put_sim (P := P) (b' := some b') (o := ob) hs hb hφ hno (fun x hx adv => by cases hx; exact hnew adv)
  exact ⟨S, φ, by rw [updH_one]; exact q1, by rw [updH_one]; exact q2, q1.rep hs hv, fun _ _ => rfl⟩
theorem shape_map {w : World} {b : Nat} {es : Array MapEntry} {cl : Nat} (h : w.heap[b]? = some (.map es cl)) : w.shape? b = none := by unfold World.shape?; rw [h]
theorem run_setMap {w : World} {r : Nat} {es : Array MapEntry} {cl : Nat} (o : Obj) (hb : w.heap[r]? = some (.map es cl)) : (setObj r o).run P w = .ok () (w.putObj r o) := MapKept.run_setObj_map o hb
theorem snd_mkM {t : TypeId} (ho : o.op = .makeMap t none) (hs : Sim P S φ h w) (hn : φ nx = none) : OpOK P o a w (Ends P S φ h w (.map nx) [(nx, some (.map [] 0))] nx (nx + 1)) := by
  obtain ⟨q1, q2⟩ := alloc_sim (P := P) (nx := nx) (b := .map [] 0) (o := .map #[] 0) hs hn (fun _ => ⟨#[], World.alloc_heap_new w _, rfl, by simp⟩)
  refine opOK_value (s := Instr.makeMap t none) (vv := .map (some w.heap.size)) (w' := w.alloc (.map #[] 0)) (by unfold execOp; simp only [ho]; rfl) (by simp [Instr.makeMap, Result.andThen]) ⟨S, _, by rw [updH_one]; exact q1, by rw [updH_one]; exact q2, ?_, fun id hid => ?_⟩
  · exact .map (loc := ⟨w.heap.size, 0, 0⟩) (by simp)
  · have : id ≠ nx := by omega
    simp [this]
theorem Rep.inv_map {id : Nat} {v : Value} (h : Rep w S φ (.map id) v) : ∃ loc, φ id = some loc ∧ v = .map (some loc.blk) := by cases h with | map h => exact ⟨_, h, rfl⟩
theorem Rep.inv_mapL {ks vs : List AV} {v : Value} (h : Rep w S φ (.mapL ks vs) v) : ∃ b es cl, v = .map (some b) ∧ S b ∧ w.heap[b]? = some (.map es cl) ∧ es.size = ks.length ∧ es.size = vs.length ∧
    (∀ (i : Nat) k e, ks[i]? = some k → es[i]? = some e → Rep w S (fun _ => none) k e.key) ∧ (∀ (i : Nat) v e, vs[i]? = some v → es[i]? = some e → Rep w S (fun _ => none) v e.val) := by
  cases h with | mapL h1 h2 h3 h4 h5 h6 h7 => exact ⟨_, _, _, rfl, h1, h2, h3, h4, h5, h6⟩
theorem Rep.inv_mapB {ks vs : List AV} {v : Value} (h : Rep w S φ (.mapL ks vs) v) : ∃ b es cl, v = .map (some b) ∧ S b ∧ w.heap[b]? = some (.map es cl) ∧ es.size = ks.length ∧ es.size = vs.length ∧
    (∀ (i : Nat) k e, ks[i]? = some k → es[i]? = some e → Rep w S (fun _ => none) k e.key) ∧ (∀ (i : Nat) v e, vs[i]? = some v → es[i]? = some e → Rep w S (fun _ => none) v e.val) ∧ BornOK (es.toList.map (·.born)) cl := by
  cases h with | mapL h1 h2 h3 h4 h5 h6 h7 => exact ⟨_, _, _, rfl, h1, h2, h3, h4, h5, h6, h7⟩
theorem Rep.ofNone {v : AV} {u : Value} (h : Rep w S (fun _ => none) v u) : Rep w S φ v u := h.mono (fun _ e => e) (fun _ _ => rfl) (fun _ _ _ e => e) (fun _ _ e => by cases e)
theorem lookM {t : TypeId} {x i : Operand} {kk : KK} {e kt : TypeId} {d : TypeDesc} {z : AV} {zv : Value} {ok : Bool} {ax ai : Arg} (ho : o.op = .lookup t x i ok) (hu : P.underlying t = some (.map kt e)) (hkt : P.underlying kt = some d) (hd : KD kk d)
    (hz : ∀ w, (zeroValue e).run P w = .ok zv w) (hzr : Rep w S φ z zv) (hi : Rep w S φ (arg env ai) (a.eval i)) {es : Array MapEntry} {cl : Nat} {b : Nat} {ms : List MR} (hx : a.eval x = .map (some b)) (hb : w.heap[b]? = some (.map es cl)) (hl : es.size = ms.length)
    (he : ∀ (j : Nat) m e, ms[j]? = some m → es[j]? = some e → ∃ S φ, Rep w S φ m.1 e.key) (hv : ∀ (j : Nat) m e, ms[j]? = some m → es[j]? = some e → Rep w S φ m.2.1 e.val) {r : Option (Nat × AV)} (hr : findK kk (arg env ai) ms = some r) (hs : Sim P S φ h w) :
    OpOK P o a w (Ends P S φ h w (foundA ok z r) [] nx nx) := by
  obtain ⟨r', h1, h2, h3, h4⟩ := run_found hd hkt hi hl he hr
  have hf := foundA_rep (ok := ok) (r := r) (r' := r') hzr (by
    cases r <;> cases r'
    · trivial
    · exact h3
    · exact h3
    · obtain ⟨a1, k, m, en, a2, a3, a4, a5, a6, a7⟩ := h3
      have := hv k m en a3 (by simpa using a5)
      rw [a4, a6] at this
      exact this)
  refine opOK_value (s := Instr.lookup t (a.eval x) (a.eval i) ok) (by unfold execOp; simp only [ho]) ?_ (ends_pure hs hf)
  simp only [Instr.lookup, Sem.run_bind, run_underlying hu, Result.andThen_ok, hx, MapKept.run_getObj_map hb, Sem.run_pure, h1, h2]
  cases r' with
  | none => simp [hz, Result.andThen]
  | some p => simp [Result.andThen]
theorem snd_look {t : TypeId} {x i : Operand} {kk : KK} {e : TypeId} {z : AV} {ok : Bool} {ax ai : Arg} {v : AV} {rd : List Nat} {wr : Wr} {nx' : Nat} (ho : o.op = .lookup t x i ok) (hm : mapK P t = some (kk, e)) (hx : cOpd x = some ax) (hi : cOpd i = some ai) (hz : zeroV P e = some z)
    (he : evalOp T cb env H nx (.look kk z ok ax ai) = some (.eff v rd wr nx')) (hrd : ∀ id ∈ rd, h id = hget H id) (hs : Sim P S φ h w) (hr : Reps w S φ env a.tmps) : OpOK P o a w (Ends P S φ h w v wr nx nx') := by
  obtain ⟨kt, d, hu, hkt, hd⟩ := mapK_spec hm
  obtain ⟨zv, hz1, hz2⟩ := zeroV_spec hz
  have hzr := ofValue_rep (w := w) (S := S) (φ := φ) hz2
  have hvx := arg_rep hr hx
  have hvi := arg_rep hr hi
  simp only [evalOp] at he
  split at he
  · rename_i e1
    rw [e1] at hvx
    have hxv : a.eval x = .map none := by
      generalize a.eval x = q at hvx
      cases hvx; rfl
    cases hf : findK kk (arg env ai) [] with
    | none => simp [hf] at he
    | some r =>
      simp [hf] at he
      obtain ⟨rfl, rfl, rfl, rfl⟩ := he
      obtain ⟨r', h1, h2, h3, h4⟩ := run_found (es := #[]) hd hkt hvi rfl (by simp) hf
      have hr0 : r = none := by
        cases r with
        | none => rfl
        | some p => cases r' with
          | none => exact h3.elim
          | some q => obtain ⟨a1, k, m, en, a2, a3, a4⟩ := h3; simp at a3
      subst hr0
      have hr1 : r' = none := by cases r' with
        | none => rfl
        | some q => exact h3.elim
      subst hr1
      refine opOK_value (s := Instr.lookup t (a.eval x) (a.eval i) ok) (by unfold execOp; simp only [ho]) ?_ (ends_pure hs (foundA_rep (r := none) (r' := none) hzr trivial))
      simp only [Instr.lookup, Sem.run_bind, run_underlying hu, Result.andThen_ok, hxv, Sem.run_pure, h1, h2, hz1]
  · rename_i ks vs e1
    rw [e1] at hvx
    obtain ⟨b, es, cl, k1, k2, k3, k4, k5, k6, k7⟩ := hvx.inv_mapL
    cases hf : findK kk (arg env ai) (zipM ks vs) with
    | none => simp [hf] at he
    | some r =>
      simp [hf] at he
      obtain ⟨rfl, rfl, rfl, rfl⟩ := he
      have hget : ∀ (j : Nat) m, (zipM ks vs)[j]? = some m → ks[j]? = some m.1 ∧ vs[j]? = some m.2.1 := fun j m hj => by
        simp only [zipM, List.getElem?_map, Option.map_eq_some_iff] at hj
        obtain ⟨p, hp, rfl⟩ := hj
        rw [List.getElem?_zip_eq_some] at hp
        exact hp
      refine lookM (ax := ax) ho hu hkt hd hz1 hzr hvi k1 k3 (by simp [zipM]; omega) (fun j m e g1 g2 => ⟨_, _, k6 j m.1 e (hget j m g1).1 g2⟩) (fun j m e g1 g2 => (k7 j m.2.1 e (hget j m g1).2 g2).ofNone) hf hs
  · rename_i id e1
    rw [e1] at hvx
    obtain ⟨loc, k1, k2⟩ := hvx.inv_map
    split at he
    · rename_i ms cl e2
      cases hf : findK kk (arg env ai) ms with
      | none => simp [hf] at he
      | some r =>
        simp [hf] at he
        obtain ⟨rfl, rfl, rfl, rfl⟩ := he
        have hb := hrd id (by simp)
        rw [e2] at hb
        obtain ⟨loc', g1, g2, -⟩ := hs.blk id _ hb
        rw [k1] at g1; cases g1
        obtain ⟨es, f1, f2, f3⟩ := g2
        exact lookM (ax := ax) ho hu hkt hd hz1 hzr hvi k2 f1 f2 (fun j m e g1 g2 => ⟨_, _, (f3 j m e g1 g2).1⟩) (fun j m e g1 g2 => (f3 j m e g1 g2).2.1) hf hs
    · cases he
  · cases he
theorem map_upd {v : AV} {vv : Value} {id : Nat} {ms ms' : List MR} {cl cl' : Nat} {loc : Loc} {es es' : Array MapEntry} (hs : Sim P S φ h w) (hb : h id = some (.map ms cl)) (hφ : φ id = some loc) (hw : w.heap[loc.blk]? = some (.map es cl))
    (hsz : es'.size = ms'.length) (hrel : ∀ (j : Nat) m e, ms'[j]? = some m → es'[j]? = some e → Rep w S φ m.1 e.key ∧ Rep w S φ m.2.1 e.val ∧ e.born = m.2.2) (hv : Rep w S φ v vv) :
    Ends P S φ h w v [(id, some (.map ms' cl'))] nx nx vv (w.putObj loc.blk (.map es' cl')) :=
  ends_put hs hb hφ (shape_map hw) (fun adv => ⟨es', World.putObj_heap_same (hs.lt hb hφ), hsz, fun j m e g1 g2 => by
    obtain ⟨r1, r2, r3⟩ := hrel j m e g1 g2
    exact ⟨adv.rep hs r1, adv.rep hs r2, r3⟩⟩) hv
theorem own_map {id : Nat} {ms : List MR} {cl : Nat} {v : Value} (hs : Sim P S φ h w) (hb : h id = some (.map ms cl)) (hv : Rep w S φ (.map id) v) :
    ∃ loc es, φ id = some loc ∧ v = .map (some loc.blk) ∧ w.heap[loc.blk]? = some (.map es cl) ∧ es.size = ms.length ∧ ∀ (i : Nat) m e, ms[i]? = some m → es[i]? = some e → Rep w S φ m.1 e.key ∧ Rep w S φ m.2.1 e.val ∧ e.born = m.2.2 := by
  obtain ⟨loc, k1, k2⟩ := hv.inv_map
  obtain ⟨loc', g1, g2, -⟩ := hs.blk id _ hb
  rw [k1] at g1; cases g1
  obtain ⟨es, f1, f2, f3⟩ := g2
  exact ⟨loc, es, k1, k2, f1, f2, f3⟩
theorem mod_rel {ms : List MR} {es : Array MapEntry} {i : Nat} {x : AV} {vx vk : Value} {e0 : MapEntry} (hrel : ∀ (j : Nat) m e, ms[j]? = some m → es[j]? = some e → Rep w S φ m.1 e.key ∧ Rep w S φ m.2.1 e.val ∧ e.born = m.2.2)
    (he0 : es[i]? = some e0) (hvk : e0.key = vk) (hx : Rep w S φ x vx) : ∀ (j : Nat) m e, (modM ms i x)[j]? = some m → (es.modify i fun e => { e with key := vk, val := vx })[j]? = some e → Rep w S φ m.1 e.key ∧ Rep w S φ m.2.1 e.val ∧ e.born = m.2.2 := by
  intro j m e g1 g2
  simp only [modM, List.getElem?_modify] at g1
  rw [Array.getElem?_modify] at g2
  by_cases hij : i = j
  · subst hij
    simp only [if_true, Option.map_eq_some_iff] at g1 g2
    rw [he0] at g2
    obtain ⟨e1, h1, rfl⟩ := g2
    cases h1
    have g1' : ∃ m0, ms[i]? = some m0 ∧ (m0.1, x, m0.2.2) = m := by simpa using g1
    obtain ⟨m0, h2, rfl⟩ := g1'
    obtain ⟨r1, r2, r3⟩ := hrel i m0 e0 h2 he0
    exact ⟨by rw [← hvk]; exact r1, hx, r3⟩
  · rw [if_neg hij] at g2
    have g1' : ms[j]? = some m := by simpa [hij] using g1
    exact hrel j m e g1' g2
theorem push_rel {ms : List MR} {es : Array MapEntry} {k x : AV} {vk vx : Value} {cl : Nat} (hl : es.size = ms.length) (hrel : ∀ (j : Nat) m e, ms[j]? = some m → es[j]? = some e → Rep w S φ m.1 e.key ∧ Rep w S φ m.2.1 e.val ∧ e.born = m.2.2)
    (hk : Rep w S φ k vk) (hx : Rep w S φ x vx) : ∀ (j : Nat) m e, (ms ++ [(k, x, cl)])[j]? = some m → (es.push { key := vk, val := vx, born := cl })[j]? = some e → Rep w S φ m.1 e.key ∧ Rep w S φ m.2.1 e.val ∧ e.born = m.2.2 := by
  intro j m e g1 g2
  rw [Array.getElem?_push] at g2
  by_cases hj : j = ms.length
  · subst hj
    rw [if_pos hl.symm] at g2
    cases g2
    simp at g1; subst g1
    exact ⟨hk, hx, rfl⟩
  · rw [if_neg (by omega)] at g2
    have : j < ms.length := by
      have := (Array.getElem?_eq_some_iff.1 g2).1
      omega
    rw [List.getElem?_append_left this] at g1
    exact hrel j m e g1 g2
theorem snd_mset {t : TypeId} {m k x : Operand} {kk : KK} {e : TypeId} {am ak ax : Arg} {v : AV} {rd : List Nat} {wr : Wr} {nx' : Nat} (ho : execOp a.eval o = (do Instr.mapUpdate t (a.eval m) (a.eval k) (a.eval x); pure .skip)) (hm : mapK P t = some (kk, e)) (hxm : cOpd m = some am) (hxk : cOpd k = some ak) (hxx : cOpd x = some ax)
    (he : evalOp T cb env H nx (.mset kk am ak ax) = some (.eff v rd wr nx')) (hrd : ∀ id ∈ rd, h id = hget H id) (hs : Sim P S φ h w) (hr : Reps w S φ env a.tmps) : OpOK P o a w (Ends P S φ h w v wr nx nx') := by
  obtain ⟨kt, d, hu, hkt, hd⟩ := mapK_spec hm
  have hvm := arg_rep hr hxm
  have hvk := arg_rep hr hxk
  have hvx := arg_rep hr hxx
  simp only [evalOp] at he
  split at he
  · rename_i id e1
    rw [e1] at hvm
    split at he
    · rename_i ms cl e2
      have main : ∀ r, findK kk (arg env ak) ms = some r → rd = [id] → ∃ loc es r', φ id = some loc ∧ a.eval m = .map (some loc.blk) ∧ w.heap[loc.blk]? = some (.map es cl) ∧ es.size = ms.length ∧ h id = some (.map ms cl) ∧
          (∀ (i : Nat) m e, ms[i]? = some m → es[i]? = some e → Rep w S φ m.1 e.key ∧ Rep w S φ m.2.1 e.val ∧ e.born = m.2.2) ∧
          (∀ em, (Instr.checkKey em 10000 kt (a.eval k)).run P w = .ok () w) ∧ (Instr.findKey kt (a.eval k) es.toList).run P w = .ok r' w ∧ Found es.toList (a.eval k) ms 0 r r' ∧ MapKept.IsKey d (a.eval k) := by
        intro r hf hrd0
        have hb := hrd id (by rw [hrd0]; simp)
        rw [e2] at hb
        obtain ⟨loc, es, k1, k2, k3, k4, k5⟩ := own_map hs hb hvm
        obtain ⟨r', h1, h2, h3, h4⟩ := run_found hd hkt hvk k4 (fun j m e g1 g2 => ⟨_, _, (k5 j m e g1 g2).1⟩) hf
        exact ⟨loc, es, r', k1, k2, k3, k4, hb, k5, h1, h2, h3, h4⟩
      split at he
      · rename_i i v0 e3
        cases he
        obtain ⟨loc, es, r', k1, k2, k3, k4, hb, k5, h1, h2, h3, h4⟩ := main _ e3 rfl
        cases r' with
        | none => exact h3.elim
        | some q =>
          obtain ⟨j', vv⟩ := q
          obtain ⟨rfl, n, mm, en, a2, a3, a4, a5, a6, a7⟩ := h3
          have a2' : j' = n := by omega
          subst a2'
          have a5' : es[j']? = some en := by simpa using a5
          refine opOK_skip ho (w' := w.putObj loc.blk (.map (es.modify j' fun e => { e with key := a.eval k, val := a.eval x }) cl)) ?_ (map_upd hs hb k1 k3 (by simp [modM, k4]) (mod_rel k5 a5' a7 hvx) undef_rep)
          simp only [Instr.mapUpdate, Sem.run_bind, run_underlying hu, Result.andThen_ok, k2, MapKept.run_getObj_map k3, h1, h2]
          simp only [a5', Option.map_some, Option.getD_some, a7, MapKept.run_keyThatStays h4, Result.andThen_ok, run_setMap _ k3]
      · rename_i e3
        cases he
        obtain ⟨loc, es, r', k1, k2, k3, k4, hb, k5, h1, h2, h3, h4⟩ := main _ e3 rfl
        cases r' with
        | some q => exact h3.elim
        | none =>
          refine opOK_skip ho (w' := w.putObj loc.blk (.map (es.push { key := a.eval k, val := a.eval x, born := cl }) (cl + 1))) ?_ (map_upd hs hb k1 k3 (by simp [k4]) (push_rel k4 k5 hvk hvx) undef_rep)
          simp only [Instr.mapUpdate, Sem.run_bind, run_underlying hu, Result.andThen_ok, k2, MapKept.run_getObj_map k3, h1, h2, run_setMap _ k3]
      · cases he
    · cases he
  · cases he
theorem tup2 {x y : AV} {v u : Value} (h1 : Rep w S φ x v) (h2 : Rep w S φ y u) : Rep w S φ (.tup [x, y]) (.tuple #[v, u]) := by
  have : Reps w S φ [x, y] #[v, u] := Reps.cons (vs := [u]) h1 (Reps.cons (vs := []) h2 reps_nil)
  exact .tup this.1 this.2
theorem snd_ment {t : TypeId} {m k : Operand} {kk : KK} {e : TypeId} {z : AV} {am ak : Arg} {v : AV} {rd : List Nat} {wr : Wr} {nx' : Nat} (ho : o.op = .mapEntry t m k) (hm : mapK P t = some (kk, e)) (hxm : cOpd m = some am) (hxk : cOpd k = some ak) (hz : zeroV P e = some z)
    (he : evalOp T cb env H nx (.ment kk z am ak) = some (.eff v rd wr nx')) (hrd : ∀ id ∈ rd, h id = hget H id) (hs : Sim P S φ h w) (hr : Reps w S φ env a.tmps) : OpOK P o a w (Ends P S φ h w v wr nx nx') := by
  obtain ⟨kt, d, hu, hkt, hd⟩ := mapK_spec hm
  obtain ⟨zv, hz1, hz2⟩ := zeroV_spec hz
  have hzr := ofValue_rep (w := w) (S := S) (φ := φ) hz2
  have hvm := arg_rep hr hxm
  have hvk := arg_rep hr hxk
  have hex : execOp a.eval o = (do pure (.value (← Instr.mapEntry t (a.eval m) (a.eval k)))) := by unfold execOp; simp only [ho]
  simp only [evalOp] at he
  split at he
  · rename_i id e1
    rw [e1] at hvm
    split at he
    · rename_i ms cl e2
      have main : ∀ r, findK kk (arg env ak) ms = some r → rd = [id] → ∃ loc es r', φ id = some loc ∧ a.eval m = .map (some loc.blk) ∧ w.heap[loc.blk]? = some (.map es cl) ∧ es.size = ms.length ∧ h id = some (.map ms cl) ∧
          (∀ (i : Nat) m e, ms[i]? = some m → es[i]? = some e → Rep w S φ m.1 e.key ∧ Rep w S φ m.2.1 e.val ∧ e.born = m.2.2) ∧
          (∀ em, (Instr.checkKey em 10000 kt (a.eval k)).run P w = .ok () w) ∧ (Instr.findKey kt (a.eval k) es.toList).run P w = .ok r' w ∧ Found es.toList (a.eval k) ms 0 r r' ∧ MapKept.IsKey d (a.eval k) := by
        intro r hf hrd0
        have hb := hrd id (by rw [hrd0]; simp)
        rw [e2] at hb
        obtain ⟨loc, es, k1, k2, k3, k4, k5⟩ := own_map hs hb hvm
        obtain ⟨r', h1, h2, h3, h4⟩ := run_found hd hkt hvk k4 (fun j m e g1 g2 => ⟨_, _, (k5 j m e g1 g2).1⟩) hf
        exact ⟨loc, es, r', k1, k2, k3, k4, hb, k5, h1, h2, h3, h4⟩
      split at he
      · rename_i i v0 e3
        cases he
        obtain ⟨loc, es, r', k1, k2, k3, k4, hb, k5, h1, h2, h3, h4⟩ := main _ e3 rfl
        cases r' with
        | none => exact h3.elim
        | some q =>
          obtain ⟨j', vv⟩ := q
          obtain ⟨rfl, n, mm, en, a2, a3, a4, a5, a6, a7⟩ := h3
          have a2' : j' = n := by omega
          subst a2'
          have a5' : es[j']? = some en := by simpa using a5
          obtain ⟨r1, r2, r3⟩ := k5 j' mm en a3 a5'
          have hsame : ∀ (j : Nat) m e, ms[j]? = some m → (es.modify j' fun e => { e with key := a.eval k })[j]? = some e → Rep w S φ m.1 e.key ∧ Rep w S φ m.2.1 e.val ∧ e.born = m.2.2 := by
            intro j m e g1 g2
            rw [Array.getElem?_modify] at g2
            by_cases hij : j' = j
            · subst hij
              rw [if_pos rfl, a5'] at g2
              cases g2
              rw [a3] at g1; cases g1
              exact ⟨by rw [← a7]; exact r1, r2, r3⟩
            · rw [if_neg hij] at g2
              exact k5 j m e g1 g2
          refine opOK_value hex (w' := w.putObj loc.blk (.map (es.modify j' fun e => { e with key := a.eval k }) cl)) (vv := .tuple #[vv, .int .i64 (en.born : Nat)]) ?_ (map_upd hs hb k1 k3 (by simp [k4]) hsame (tup2 (by rw [← a4, ← a6]; exact r2) (by rw [bornM, a3, r3]; exact .int)))
          simp only [Instr.mapEntry, Sem.run_bind, run_underlying hu, Result.andThen_ok, k2, MapKept.run_getObj_map k3, h1, h2]
          simp only [a5', Option.map_some, Option.getD_some, a7, MapKept.run_keyThatStays h4, Result.andThen_ok, run_setMap _ k3, Sem.run_pure, goInt]
      · rename_i e3
        cases he
        obtain ⟨loc, es, r', k1, k2, k3, k4, hb, k5, h1, h2, h3, h4⟩ := main _ e3 rfl
        cases r' with
        | some q => exact h3.elim
        | none =>
          refine opOK_value hex (w' := w.putObj loc.blk (.map (es.push { key := a.eval k, val := zv, born := cl }) (cl + 1))) (vv := .tuple #[zv, .int .i64 (cl : Nat)]) ?_ (map_upd hs hb k1 k3 (by simp [k4]) (push_rel k4 k5 hvk hzr) (tup2 hzr .int))
          simp only [Instr.mapEntry, Sem.run_bind, run_underlying hu, Result.andThen_ok, k2, MapKept.run_getObj_map k3, h1, h2, run_setMap _ k3, hz1, Sem.run_pure, goInt]
      · cases he
    · cases he
  · cases he
theorem stamp_find : ∀ {ms : List MR} {l : List MapEntry} {b : Int} {i j : Nat}, l.length = ms.length → (∀ (j : Nat) m e, ms[j]? = some m → l[j]? = some e → e.born = m.2.2) → stampM b ms i = some j →
    ∃ k, j = i + k ∧ l.findIdx? (fun e => (e.born : Int) == b) = some k ∧ k < l.length
  | [], _, _, _, _, _, _, h => by cases h
  | _ :: _, [], _, _, _, hl, _, _ => by simp at hl
  | m :: ms, e :: l, b, i, j, hl, he, h => by
    have h0 := he 0 m e rfl rfl
    simp only [stampM] at h
    split at h
    · rename_i hb
      cases h
      exact ⟨0, rfl, by rw [List.findIdx?_cons, h0, hb]; rfl, by simp⟩
    · rename_i hb
      obtain ⟨k, rfl, h2, h3⟩ := stamp_find (l := l) (by simpa using hl) (fun j m e g1 g2 => he (j + 1) m e (by simpa using g1) (by simpa using g2)) h
      refine ⟨k + 1, by omega, ?_, by simp; omega⟩
      rw [List.findIdx?_cons, h0]
      simp only [hb]
      simp [h2]
theorem snd_mest {t : TypeId} {m s x : Operand} {am as ax : Arg} {v : AV} {rd : List Nat} {wr : Wr} {nx' : Nat} (ho : o.op = .entryStore t m s x) (hxm : cOpd m = some am) (hxs : cOpd s = some as) (hxx : cOpd x = some ax)
    (he : evalOp T cb env H nx (.mest am as ax) = some (.eff v rd wr nx')) (hrd : ∀ id ∈ rd, h id = hget H id) (hs : Sim P S φ h w) (hr : Reps w S φ env a.tmps) : OpOK P o a w (Ends P S φ h w v wr nx nx') := by
  have hvm := arg_rep hr hxm
  have hvs := arg_rep hr hxs
  have hvx := arg_rep hr hxx
  have hex : execOp a.eval o = (do Instr.entryStore t (a.eval m) (a.eval s) (a.eval x); pure .skip) := by unfold execOp; simp only [ho]
  simp only [evalOp] at he
  split at he
  · rename_i id kk b e1 e2
    rw [e1] at hvm
    rw [e2] at hvs
    have hvs := hvs.inv_int
    split at he
    · rename_i ms cl e3
      cases hf : stampM b ms 0 with
      | none => simp [hf] at he
      | some i =>
        simp [hf] at he
        obtain ⟨rfl, rfl, rfl, rfl⟩ := he
        have hb := hrd id (by simp)
        rw [e3] at hb
        obtain ⟨loc, es, k1, k2, k3, k4, k5⟩ := own_map hs hb hvm
        obtain ⟨k, q1, q2, q3⟩ := stamp_find (l := es.toList) (by simpa using k4) (fun j m e g1 g2 => (k5 j m e g1 (by simpa using g2)).2.2) hf
        have q1' : i = k := by omega
        subst q1'
        have hlt : i < es.size := by simpa using q3
        have he0 : es[i]? = some es[i] := by simp [hlt]
        have hfi : es.findIdx? (fun e => (e.born : Int) == b) = some i := by
          have he1 : es.toList.toArray.findIdx? (fun e => (e.born : Int) == b) = some i := by rw [List.findIdx?_toArray]; exact q2
          simpa using he1
        have hmod : (es.modify i fun e => { e with val := a.eval x }) = es.modify i fun e => { e with key := es[i].key, val := a.eval x } := by
          apply Array.ext_getElem?
          intro j
          rw [Array.getElem?_modify, Array.getElem?_modify]
          by_cases hij : i = j
          · subst hij; simp [hlt]
          · simp [hij]
        refine opOK_skip hex (w' := w.putObj loc.blk (.map (es.modify i fun e => { e with val := a.eval x }) cl)) ?_ ?_
        · simp only [Instr.entryStore, k2, Sem.run_bind, MapKept.run_getObj_map k3, Result.andThen_ok, hvs, asInt, asIntOf, Sem.run_pure, hfi, run_setMap _ k3]
        · rw [hmod]
          exact map_upd hs hb k1 k3 (by simp [modM, k4]) (mod_rel k5 he0 rfl hvx) undef_rep
    · cases he
  · cases he
theorem erase_rel {ms : List MR} {es : Array MapEntry} {i : Nat} (hl : es.size = ms.length) (hi : i < es.size) (hrel : ∀ (j : Nat) m e, ms[j]? = some m → es[j]? = some e → Rep w S φ m.1 e.key ∧ Rep w S φ m.2.1 e.val ∧ e.born = m.2.2) :
    (es.eraseIdxIfInBounds i).size = (ms.eraseIdx i).length ∧ ∀ (j : Nat) m e, (ms.eraseIdx i)[j]? = some m → (es.eraseIdxIfInBounds i)[j]? = some e → Rep w S φ m.1 e.key ∧ Rep w S φ m.2.1 e.val ∧ e.born = m.2.2 := by
  have h1 : (es.eraseIdxIfInBounds i).toList = es.toList.eraseIdx i := by
    unfold Array.eraseIdxIfInBounds
    rw [dif_pos hi]; simp
  refine ⟨by rw [← Array.length_toList, h1, List.length_eraseIdx, List.length_eraseIdx]; simp [hl], fun j m e g1 g2 => ?_⟩
  rw [← Array.getElem?_toList, h1] at g2
  rw [List.getElem?_eraseIdx] at g1 g2
  by_cases hj : j < i
  · rw [if_pos hj] at g1 g2
    exact hrel j m e g1 (by simpa using g2)
  · rw [if_neg hj] at g1 g2
    exact hrel (j + 1) m e g1 (by simpa using g2)
theorem opOK_run {R : Value → World → Prop} {s : Sem Value} {w' : World} {vv : Value} (hx : ∀ w, (execOp a.eval o).run P w = (do pure (Next.value (← s)) : Sem Next).run P w) (hr : s.run P w = .ok vv w') (h : R vv w') : OpOK P o a w R :=
  .inl ⟨vv, w', by rw [hx, Sem.run_bind, hr]; rfl, h⟩
theorem snd_mdel {c : Call} {m k : Operand} {kk : KK} {t e : TypeId} {am ak : Arg} {v : AV} {rd : List Nat} {wr : Wr} {nx' : Nat} (ho : ∀ w, (execOp a.eval o).run P w = (do pure (Next.value (← Builtin.delete_ c.argTypes o.type #[a.eval m, a.eval k])) : Sem Next).run P w) (ht : c.argTypes[0]? = some t) (hm : mapK P t = some (kk, e)) (hxm : cOpd m = some am) (hxk : cOpd k = some ak)
    (he : evalOp T cb env H nx (.mdel kk am ak) = some (.eff v rd wr nx')) (hrd : ∀ id ∈ rd, h id = hget H id) (hs : Sim P S φ h w) (hr : Reps w S φ env a.tmps) : OpOK P o a w (Ends P S φ h w v wr nx nx') := by
  obtain ⟨kt, d, hu, hkt, hd⟩ := mapK_spec hm
  have hvm := arg_rep hr hxm
  have hvk := arg_rep hr hxk
  simp only [evalOp] at he
  split at he
  · rename_i e1
    split at he
    · rename_i hk
      cases he
      rw [e1] at hvm
      have hxv : a.eval m = .map none := by
        generalize a.eval m = q at hvm
        cases hvm; rfl
      refine opOK_run ho (vv := undef) (w' := w) ?_ (ends_pure hs undef_rep)
      simp [Builtin.delete_, ht, run_underlying hu, hxv, MapKept.run_checkKey hkt (isKey_rep hd hk hvk) true 9999, Result.andThen, undef]
    · cases he
  · rename_i id e1
    rw [e1] at hvm
    split at he
    · rename_i ms cl e2
      have main : ∀ r, findK kk (arg env ak) ms = some r → rd = [id] → ∃ loc es r', φ id = some loc ∧ a.eval m = .map (some loc.blk) ∧ w.heap[loc.blk]? = some (.map es cl) ∧ es.size = ms.length ∧ h id = some (.map ms cl) ∧
          (∀ (i : Nat) m e, ms[i]? = some m → es[i]? = some e → Rep w S φ m.1 e.key ∧ Rep w S φ m.2.1 e.val ∧ e.born = m.2.2) ∧
          (∀ em, (Instr.checkKey em 10000 kt (a.eval k)).run P w = .ok () w) ∧ (Instr.findKey kt (a.eval k) es.toList).run P w = .ok r' w ∧ Found es.toList (a.eval k) ms 0 r r' ∧ MapKept.IsKey d (a.eval k) := by
        intro r hf hrd0
        have hb := hrd id (by rw [hrd0]; simp)
        rw [e2] at hb
        obtain ⟨loc, es, k1, k2, k3, k4, k5⟩ := own_map hs hb hvm
        obtain ⟨r', h1, h2, h3, h4⟩ := run_found hd hkt hvk k4 (fun j m e g1 g2 => ⟨_, _, (k5 j m e g1 g2).1⟩) hf
        exact ⟨loc, es, r', k1, k2, k3, k4, hb, k5, h1, h2, h3, h4⟩
      split at he
      · rename_i i v0 e3
        cases he
        obtain ⟨loc, es, r', k1, k2, k3, k4, hb, k5, h1, h2, h3, h4⟩ := main _ e3 rfl
        cases r' with
        | none => exact h3.elim
        | some q =>
          obtain ⟨j', vv⟩ := q
          obtain ⟨rfl, n, mm, en, a2, a3, a4, a5, a6, a7⟩ := h3
          have a2' : j' = n := by omega
          subst a2'
          have hlt : j' < es.size := by
            have a5' : es[j']? = some en := by simpa using a5
            exact (Array.getElem?_eq_some_iff.1 a5').1
          obtain ⟨p1, p2⟩ := erase_rel k4 hlt k5
          refine opOK_run ho (vv := undef) (w' := w.putObj loc.blk (.map (es.eraseIdxIfInBounds j') cl)) ?_ (map_upd hs hb k1 k3 p1 p2 undef_rep)
          simp [Builtin.delete_, ht, run_underlying hu, k2, MapKept.run_getObj_map k3, h1, h2, run_setMap _ k3, Result.andThen, undef]
      · rename_i e3
        cases he
        obtain ⟨loc, es, r', k1, k2, k3, k4, hb, k5, h1, h2, h3, h4⟩ := main _ e3 rfl
        cases r' with
        | some q => exact h3.elim
        | none =>
          refine opOK_run ho (vv := undef) (w' := w.putObj loc.blk (.map es cl)) ?_ (map_upd hs hb k1 k3 k4 k5 undef_rep)
          simp [Builtin.delete_, ht, run_underlying hu, k2, MapKept.run_getObj_map k3, h1, h2, run_setMap _ k3, Result.andThen, undef]
      · cases he
    · cases he
  · cases he
theorem snd_lenM {c : Call} {m : Operand} {t kt et : TypeId} {am : Arg} {v : AV} {rd : List Nat} {wr : Wr} {nx' : Nat} (ho : ∀ w, (execOp a.eval o).run P w = (do pure (Next.value (← Builtin.len_ c.argTypes o.type #[a.eval m])) : Sem Next).run P w) (ht : c.argTypes[0]? = some t) (hu : P.underlying t = some (.map kt et)) (hxm : cOpd m = some am)
    (he : evalOp T cb env H nx (.lenM am) = some (.eff v rd wr nx')) (hrd : ∀ id ∈ rd, h id = hget H id) (hs : Sim P S φ h w) (hr : Reps w S φ env a.tmps) : OpOK P o a w (Ends P S φ h w v wr nx nx') := by
  have hvm := arg_rep hr hxm
  simp only [evalOp] at he
  split at he
  · rename_i e1
    cases he
    rw [e1] at hvm
    have hxv : a.eval m = .map none := by
      generalize a.eval m = q at hvm
      cases hvm; rfl
    exact opOK_run ho (vv := .int .i64 0) (w' := w) (by simp [Builtin.len_, ht, run_underlying hu, hxv, Result.andThen, goInt]) (ends_pure hs .int)
  · rename_i ks vs e1
    cases he
    rw [e1] at hvm
    obtain ⟨b, es, cl, k1, k2, k3, k4, k5, k6, k7⟩ := hvm.inv_mapL
    exact opOK_run ho (vv := .int .i64 (es.size : Nat)) (w' := w) (by simp [Builtin.len_, ht, run_underlying hu, k1, MapKept.run_getObj_map k3, Result.andThen, goInt]) (ends_pure hs (by rw [k4]; exact .int))
  · rename_i id e1
    rw [e1] at hvm
    split at he
    · rename_i ms cl e2
      cases he
      have hb := hrd id (by simp)
      rw [e2] at hb
      obtain ⟨loc, es, k1, k2, k3, k4, k5⟩ := own_map hs hb hvm
      exact opOK_run ho (vv := .int .i64 (es.size : Nat)) (w' := w) (by simp [Builtin.len_, ht, run_underlying hu, k2, MapKept.run_getObj_map k3, Result.andThen, goInt]) (ends_pure hs (by rw [k4]; exact .int))
    · cases he
  · cases he

/-! Parts of a row as a list -/
theorem chunks_get {sz n : Nat} {l : List AV} {k : Nat} {y : List AV} (h : (chunks sz n l)[k]? = some y) : k < n ∧ y = (l.drop (k * sz)).take sz := by
  simp only [chunks, List.getElem?_map, Option.map_eq_some_iff] at h
  obtain ⟨k', h1, rfl⟩ := h
  have hk : k < n := by
    rcases Nat.lt_or_ge k n with h' | h'
    · exact h'
    · rw [List.getElem?_eq_none (by simpa using h')] at h1; cases h1
  rw [List.getElem?_range hk] at h1
  cases h1
  exact ⟨hk, rfl⟩
theorem chunks_length (sz n : Nat) (l : List AV) : (chunks sz n l).length = n := by simp [chunks]
theorem SimBlk.view {loc : Loc} {s i j sz n : Nat} {xs : List (List AV)} {x : List AV} (hb : SimBlk P w S φ loc (.row s xs)) (hx : xs[i]? = some x) (hle : j + n * sz ≤ x.length) : SimBlk P w S φ ⟨loc.blk, loc.base + i * loc.sz + j, sz⟩ (.row sz (chunks sz n (x.drop j))) := by
  obtain ⟨f1, f2, c, e, f3, f4, f5⟩ := hb
  have hxl := f2 x (List.mem_of_getElem? hx)
  have hi : i < xs.length := by
    rcases Nat.lt_or_ge i xs.length with h' | h'
    · exact h'
    · rw [List.getElem?_eq_none h'] at hx; cases hx
  have hmul : (i + 1) * s ≤ xs.length * s := Nat.mul_le_mul_right _ hi
  rw [Nat.add_mul] at hmul
  refine ⟨rfl, fun y hy => ?_, c, e, f3, by
    rw [chunks_length]
    show loc.base + i * loc.sz + j + n * sz ≤ c.size
    rw [f1]; omega, fun k l y a g1 g2 => ?_⟩
  · obtain ⟨k, hk, rfl⟩ := List.getElem_of_mem hy
    obtain ⟨h1, h2⟩ := chunks_get (List.getElem?_eq_getElem hk)
    have hkm : (k + 1) * sz ≤ n * sz := Nat.mul_le_mul_right _ h1
    rw [Nat.add_mul] at hkm
    rw [h2, List.length_take, List.length_drop, List.length_drop]
    omega
  · obtain ⟨h1, rfl⟩ := chunks_get g1
    rw [List.getElem?_take] at g2
    split at g2
    · rename_i hl
      rw [List.getElem?_drop, List.getElem?_drop] at g2
      obtain ⟨o1, v, v1, v2⟩ := f5 i (j + (k * sz + l)) x a hx g2
      refine ⟨o1, v, ?_, v2⟩
      show c[loc.base + i * loc.sz + j + k * sz + l]? = some v
      have he : loc.base + i * s + (j + (k * sz + l)) = loc.base + i * loc.sz + j + k * sz + l := by rw [f1]; omega
      rw [← he]; exact v1
    · cases g2
theorem subOf_spec {id i j sz len : Nat} {ys : List (List AV)} (h : subOf H id i j sz len = some ys) : ∃ s xs x, hget H id = some (.row s xs) ∧ xs[i]? = some x ∧ j + len * sz ≤ x.length ∧ ys = chunks sz len (x.drop j) := by
  unfold subOf at h
  split at h
  · rename_i s xs e1
    split at h
    · rename_i x e2
      split at h
      · rename_i hc; cases h; exact ⟨s, xs, x, e1, e2, hc, rfl⟩
      · cases h
    · cases h
  · cases h
theorem Rep.inv_sub {id i j sz len : Nat} {v : Value} (h : Rep w S φ (.sub id i j sz len) v) : ∃ loc cap e n, φ id = some loc ∧ w.shape? loc.blk = some (e, n) ∧ loc.base + i * loc.sz + j + cap * sz ≤ n ∧ len ≤ cap ∧ v = .slice (some ⟨loc.blk, loc.base + i * loc.sz + j, none⟩) len cap := by
  cases h with | sub h1 h2 h3 h4 => exact ⟨_, _, _, _, h1, h2, h3, h4, rfl⟩
theorem snd_nck {x : Operand} {ax : Arg} {v : AV} {rd : List Nat} {wr : Wr} {nx' : Nat} (ho : o.op = .nilCheck x) (hx : cOpd x = some ax) (he : evalOp T cb env H nx (.nck ax) = some (.eff v rd wr nx')) (hs : Sim P S φ h w) (hr : Reps w S φ env a.tmps) : OpOK P o a w (Ends P S φ h w v wr nx nx') := by
  have hvx := arg_rep hr hx
  have key : ∀ b, a.eval x = .pointer (some b) → (execOp a.eval o).run P w = .ok (.value (.pointer (some b))) w := fun b e => by
    unfold execOp
    simp only [ho, e]
    rfl
  simp only [evalOp] at he
  split at he
  · rename_i id i j e1
    cases he
    rw [e1] at hvx
    have hv2 := hvx
    obtain ⟨loc, k1, k2⟩ := hvx.inv_ptr
    exact .inl ⟨_, w, key _ k2, ends_pure hs (k2 ▸ hv2)⟩
  · rename_i s xs i j e1
    cases he
    rw [e1] at hvx
    have hv2 := hvx
    obtain ⟨b, base, k1, -⟩ := hvx.inv_ptrL
    exact .inl ⟨_, w, key _ k1, ends_pure hs (k1 ▸ hv2)⟩
  · cases he
theorem snd_strX {t : TypeId} {x y : Operand} {ax ay : Arg} {v : AV} {rd : List Nat} {wr : Wr} {nx' : Nat} (ho : o.op = .index t x y) (hu : P.underlying t = some .string) (hx : cOpd x = some ax) (hy : cOpd y = some ay) (he : evalOp T cb env H nx (.strX ax ay) = some (.eff v rd wr nx')) (hs : Sim P S φ h w) (hr : Reps w S φ env a.tmps) : OpOK P o a w (Ends P S φ h w v wr nx nx') := by
  have hvx := arg_rep hr hx
  have hvy := arg_rep hr hy
  simp only [evalOp] at he
  split at he
  · rename_i s k i e1 e2
    split at he
    · rename_i h0
      simp only [Option.map_eq_some_iff] at he
      obtain ⟨b, h1, h2⟩ := he
      cases h2
      rw [e1] at hvx
      rw [e2] at hvy
      refine opOK_value (s := Instr.index t (a.eval x) (a.eval y)) (vv := .int .u8 b.toNat) (w' := w) (by unfold execOp; simp only [ho]) ?_ (ends_pure hs .int)
      simp only [Instr.index, hvx.inv_str, hvy.inv_int, asIntOf, Sem.run_bind, Sem.run_pure, Result.andThen_ok, run_underlying hu, if_pos h0, h1]
    · cases he
  · cases he
/-! Bytes as a string; strings that are equal -/
theorem bytesA_eq : ∀ {ys : List (List AV)} {bs : List UInt8}, bytesA ys = some bs → ∃ ns : List Int, ys = ns.map (fun n => [AV.int .u8 n]) ∧ bs = ns.map fun n => UInt8.ofNat n.toNat := by
  intro ys
  induction ys with
  | nil => intro bs h; simp [bytesA] at h; exact ⟨[], by simp [h]⟩
  | cons y ys ih =>
    intro bs h
    unfold bytesA at h
    split at h
    · rename_i e; cases e
    · rename_i n ys' e
      cases e
      simp only [Option.map_eq_some_iff] at h
      obtain ⟨bs', h1, h2⟩ := h
      obtain ⟨ns, k1, k2⟩ := ih h1
      exact ⟨n :: ns, by simp [k1], by simp [← h2, k2]⟩
    · cases h
theorem bytes_flat {S : Nat → Prop} {φ : Phi} {w : World} {ns : List Int} {c : Array Value} (h : Flat w S φ 1 (ns.map fun n => [AV.int .u8 n]) c) : c = (ns.map (Value.int .u8)).toArray := by
  obtain ⟨h1, -, h3⟩ := h
  apply Array.ext
  · simpa using h1
  · intro i hi hi'
    have hn : i < ns.length := by simpa using hi'
    obtain ⟨v, e1, e2⟩ := h3 i 0 [AV.int .u8 ns[i]] (.int .u8 ns[i]) (by simp [hn]) rfl
    have hv := e2.inv_int
    subst hv
    have e3 : c[i]? = some (Value.int .u8 ns[i]) := by simpa using e1
    rw [Array.getElem?_eq_getElem hi] at e3
    simpa using e3
theorem snd_bstr {s d e : TypeId} {x : Operand} {ax : Arg} {v : AV} {rd : List Nat} {wr : Wr} {nx' : Nat} (ho : o.op = .convert s d x) (h1 : P.underlying s = some (.slice e)) (h2 : P.underlying d = some .string) (h3 : isByteT P e = true) (hx : cOpd x = some ax)
    (he : evalOp T cb env H nx (.bstr ax) = some (.eff v rd wr nx')) (hrd : ∀ id ∈ rd, h id = hget H id) (hs : Sim P S φ h w) (hr : Reps w S φ env a.tmps) : OpOK P o a w (Ends P S φ h w v wr nx nx') := by
  have hu : P.underlying e = some (.int .u8) := by
    unfold isByteT at h3
    split at h3
    · assumption
    · cases h3
  have hv := arg_rep hr hx
  have hex : execOp a.eval o = (do pure (.value (← convert s d (a.eval x)))) := by unfold execOp; simp only [ho]
  simp only [evalOp] at he
  split at he
  · rename_i ys rd' e1
    simp only [Option.map_eq_some_iff] at he
    obtain ⟨bs, k1, k2⟩ := he
    cases k2
    obtain ⟨b, cap, f1, c, f2, f3⟩ := elems_rep e1 hrd hs hv
    obtain ⟨ns, n1, n2⟩ := bytesA_eq k1
    subst n1 n2
    have hc := bytes_flat f3
    subst hc
    rw [f1] at f2
    refine opOK_value hex (vv := .string ⟨(ns.map fun n => UInt8.ofNat n.toNat).toArray⟩) (w' := w) ?_ (ends_pure hs .str)
    rw [f1, run_convert_bytes_string w s d e _ _ _ h1 hu h2]
    cases b with
    | none =>
      simp only [Builtin.firstCells, Sem.run_pure, Result.ok.injEq] at f2
      have : ns = [] := by
        have := congrArg Array.size f2.1
        simpa using this.symm
      subst this
      simp [Conv.bytesToString, Sem.run_pure]
      rfl
    | some b =>
      simp only [Builtin.firstCells, Nat.mul_one] at f2
      rw [run_bytesToString w b _ cap ns f2, foldl_push_bytes]
      have he0 : (ByteArray.empty).data = #[] := rfl
      rw [he0, Array.empty_append]
  · cases he
theorem snd_eqS {neg : Bool} {t t' : TypeId} {x y : Operand} {ax ay : Arg} {v : AV} {rd : List Nat} {wr : Wr} {nx' : Nat} (ho : o.op = .binOp (if neg then .neq else .eql) t x y t') (ht : isStrT P t = true) (hx : cOpd x = some ax) (hy : cOpd y = some ay)
    (he : evalOp T cb env H nx (.eqS neg ax ay) = some (.eff v rd wr nx')) (hs : Sim P S φ h w) (hr : Reps w S φ env a.tmps) : OpOK P o a w (Ends P S φ h w v wr nx nx') := by
  have hvx := arg_rep hr hx
  have hvy := arg_rep hr hy
  have hex : execOp a.eval o = (do pure (.value (← (do eqGuard (if neg then .neq else .eql) t x y (a.eval x) (a.eval y); binOp (if neg then .neq else .eql) t (a.eval x) (a.eval y))))) := by unfold execOp; simp only [ho]
  simp only [evalOp] at he
  split at he
  · rename_i s u e1 e2
    cases he
    rw [e1] at hvx
    rw [e2] at hvy
    refine opOK_value hex (w' := w) (vv := .bool (if neg then !(s.data.toList == u.data.toList) else (s.data.toList == u.data.toList))) ?_ (ends_pure hs .bool)
    rw [hvx.inv_str, hvy.inv_str]
    have hg : ∀ op, (eqGuard op t x y (.string s) (.string u)).run P w = .ok () w := fun op => by unfold eqGuard; cases op <;> rfl
    rw [Sem.run_bind, hg, Result.andThen_ok]
    cases neg
    · simp only [Bool.false_eq_true, if_false, binOp_string_eql, ByteArray.toList_eq, Sem.run_pure]
    · simp only [if_true, binOp_string_neq, ByteArray.toList_eq, Sem.run_pure]
  · cases he
theorem snd_slA {t e : TypeId} {n s : Nat} {x : Operand} {hi : Option Operand} {ax : Arg} {ahi : Option Arg} {v : AV} {rd : List Nat} {wr : Wr} {nx' : Nat} (ho : o.op = .slice t x none hi none) (hu : P.underlying t = some (.array n e)) (hk : sizeK P e = some s) (hx : cOpd x = some ax) (hhi : cOpt hi = some ahi)
    (he : evalOp T cb env H nx (.slA s n ax ahi) = some (.eff v rd wr nx')) (hrd : ∀ id ∈ rd, h id = hget H id) (hs : Sim P S φ h w) (hr : Reps w S φ env a.tmps) : OpOK P o a w (Ends P S φ h w v wr nx nx') := by
  have hvx := arg_rep hr hx
  simp only [evalOp] at he
  split at he
  · rename_i id i j e1
    rw [e1] at hvx
    split at he
    · rename_i s0 xs e2
      split at he
      · rename_i x0 e3
        split at he
        · rename_i hc
          cases hb : bnd env n n ahi with
          | none => simp [hb] at he
          | some len =>
            simp [hb] at he
            obtain ⟨rfl, rfl, rfl, rfl⟩ := he
            have hblk := hrd id (by simp)
            rw [e2] at hblk
            obtain ⟨loc, k1, k2⟩ := hvx.inv_ptr
            obtain ⟨loc', g1, g2, -⟩ := hs.blk id _ hblk
            rw [k1] at g1; cases g1
            obtain ⟨f1, f2, c, ce, f3, f4, f5⟩ := g2
            have hxl := f2 x0 (List.mem_of_getElem? e3)
            have hi' : i < xs.length := by
              rcases Nat.lt_or_ge i xs.length with h' | h'
              · exact h'
              · rw [List.getElem?_eq_none h'] at e3; cases e3
            have hmul : (i + 1) * s0 ≤ xs.length * s0 := Nat.mul_le_mul_right _ hi'
            rw [Nat.add_mul] at hmul
            have hbs : ∃ oh, (hi.map a.eval) = oh ∧ (Instr.sliceBounds false n n none oh none).run P w = .ok (0, len, n) w ∧ len ≤ n := by
              cases hi with
              | none =>
                cases hhi
                cases hb
                exact ⟨none, rfl, by simp [Instr.sliceBounds, Result.andThen], Nat.le_refl _⟩
              | some hx =>
                simp only [cOpt, Option.map_eq_some_iff] at hhi
                obtain ⟨ah, q1, rfl⟩ := hhi
                simp only [bnd] at hb
                have hvh := arg_rep hr q1
                split at hb
                · rename_i kk m e5
                  split at hb
                  · rename_i hm
                    cases hb
                    rw [e5] at hvh
                    exact ⟨_, rfl, by simp [Instr.sliceBounds, Instr.sliceBound, hvh.inv_int, asIntOf, Result.andThen, hm], by omega⟩
                  · cases hb
                · cases hb
            obtain ⟨oh, q1, q2, q3⟩ := hbs
            refine opOK_value (s := Instr.sliceAt t (a.eval x) none (hi.map a.eval) none) (vv := .slice (some ⟨loc.blk, loc.base + i * loc.sz + j, none⟩) len n) (w' := w) (by unfold execOp; simp only [ho]; rfl) ?_
              (ends_pure hs (.sub k1 (e := ce) (n := c.size) (by unfold World.shape?; rw [f3]) (by rw [f1]; omega) q3))
            rw [q1]
            simp only [Instr.sliceAt, Sem.run_bind, run_underlying hu, Result.andThen_ok, k2, Instr.sureAddr, Sem.run_pure, q2, run_sizeK hk, Nat.zero_mul, add_none, Nat.add_zero, Nat.sub_zero, ite_self]
        · cases he
      · cases he
    · cases he
  · cases he
/-! Interface values -/
theorem notIface {t : TypeId} (h : (knownT P t && !isIfaceT P t) = true) : ∃ d, P.underlying t = some d ∧ ∀ m, d ≠ .interface m := by
  simp only [Bool.and_eq_true, knownT, Bool.not_eq_true'] at h
  obtain ⟨d, hd⟩ := Option.isSome_iff_exists.1 h.1
  refine ⟨d, hd, fun m e => ?_⟩
  subst e
  simp [isIfaceT, hd] at h
theorem snd_mkI {t : TypeId} {x : Operand} {ax : Arg} (ho : o.op = .makeInterface t x) (ht : (knownT P t && !isIfaceT P t) = true) (hx : cOpd x = some ax) (hs : Sim P S φ h w) (hr : Reps w S φ env a.tmps) : OpOK P o a w (Ends P S φ h w (.ifc t (arg env ax)) [] nx nx) := by
  obtain ⟨d, hd, hn⟩ := notIface ht
  refine opOK_value (s := Instr.makeInterface t (a.eval x)) (vv := .iface t (a.eval x)) (w' := w) (by unfold execOp; simp only [ho]) ?_ (ends_pure hs (.ifc (arg_rep hr hx)))
  simp only [Instr.makeInterface, Sem.run_bind, run_underlying hd, Result.andThen_ok]
  all_goals (cases d <;> first | rfl | exact absurd rfl (hn _))
theorem Rep.inv_ifc {t : TypeId} {x : AV} {v : Value} (h : Rep w S φ (.ifc t x) v) : ∃ u, v = .iface t u ∧ Rep w S φ x u := by cases h with | ifc h => exact ⟨_, rfl, h⟩
theorem Rep.inv_ifcN {v : Value} (h : Rep w S φ .ifcN v) : v = .nilIface := by cases h; rfl
theorem snd_tas {t u : TypeId} {ok : Bool} {z : Option AV} {x : Operand} {ax : Arg} {v : AV} {rd : List Nat} {wr : Wr} {nx' : Nat} (ho : o.op = .typeAssert x u t ok) (ht : (knownT P t && !isIfaceT P t) = true) (hx : cOpd x = some ax) (hz : (ok = true ∧ ∃ y, zeroV P t = some y ∧ z = some y) ∨ (ok = false ∧ z = none))
    (he : evalOp T cb env H nx (.tas t z ax) = some (.eff v rd wr nx')) (hrd : ∀ id ∈ rd, h id = hget H id) (hs : Sim P S φ h w) (hr : Reps w S φ env a.tmps) : OpOK P o a w (Ends P S φ h w v wr nx nx') := by
  obtain ⟨d, hd, hn⟩ := notIface ht
  have hvx := arg_rep hr hx
  have hex : execOp a.eval o = (do pure (.value (← Instr.typeAssert (a.eval x) u t ok))) := by unfold execOp; simp only [ho]
  simp only [evalOp] at he
  split at he
  · rename_i u' v' e1
    split at he
    · rename_i hu
      subst hu
      cases he
      rw [e1] at hvx
      obtain ⟨vv, k1, k2⟩ := hvx.inv_ifc
      rcases hz with ⟨-, y, -, hz⟩ | ⟨rfl, -⟩
      · cases hz
      · refine opOK_value hex (vv := vv) (w' := w) ?_ (ends_pure hs k2)
        simp only [Instr.typeAssert, Sem.run_bind, run_underlying hd, Result.andThen_ok, k1]
        cases d <;> first | exact absurd rfl (hn _) | simp
    · cases he
  · rename_i u' v' z' e1
    cases he
    rw [e1] at hvx
    obtain ⟨vv, k1, k2⟩ := hvx.inv_ifc
    rcases hz with ⟨rfl, y, hz, hy⟩ | ⟨-, hz⟩
    · cases hy
      obtain ⟨zv, hz1, hz2⟩ := zeroV_spec hz
      by_cases hu : u' = t
      · subst hu
        refine opOK_value hex (vv := .tuple #[vv, .bool true]) (w' := w) ?_ (ends_pure hs (by rw [if_pos rfl]; exact tup2 k2 .bool))
        simp only [Instr.typeAssert, Sem.run_bind, run_underlying hd, Result.andThen_ok, k1]
        cases d <;> first | exact absurd rfl (hn _) | simp
      · refine opOK_value hex (vv := .tuple #[zv, .bool false]) (w' := w) ?_ (ends_pure hs (by rw [if_neg hu]; exact tup2 (ofValue_rep hz2) .bool))
        simp only [Instr.typeAssert, Sem.run_bind, run_underlying hd, Result.andThen_ok, k1]
        cases d <;> first | exact absurd rfl (hn _) | simp [hu, hz1, Result.andThen]
    · cases hz
  · rename_i z' e1
    cases he
    rw [e1] at hvx
    have k1 := hvx.inv_ifcN
    rcases hz with ⟨rfl, y, hz, hy⟩ | ⟨-, hz⟩
    · cases hy
      obtain ⟨zv, hz1, hz2⟩ := zeroV_spec hz
      refine opOK_value hex (vv := .tuple #[zv, .bool false]) (w' := w) ?_ (ends_pure hs (tup2 (ofValue_rep hz2) .bool))
      simp only [Instr.typeAssert, Sem.run_bind, run_underlying hd, Result.andThen_ok, k1]
      cases d <;> first | exact absurd rfl (hn _) | simp [hz1, Result.andThen]
    · cases hz
  · cases he
theorem snd_isNilI {neg : Bool} {t t' : TypeId} {x y : Operand} {ax : Arg} {v : AV} {rd : List Nat} {wr : Wr} {nx' : Nat} (ho : o.op = .binOp (if neg then .neq else .eql) t x y t') (ht : isIfaceT P t = true) (hx : cOpd x = some ax) (hy : isNilIC y = true)
    (he : evalOp T cb env H nx (.isNilI neg ax) = some (.eff v rd wr nx')) (hs : Sim P S φ h w) (hr : Reps w S φ env a.tmps) : OpOK P o a w (Ends P S φ h w v wr nx nx') := by
  have hvx := arg_rep hr hx
  obtain ⟨m, hu⟩ : ∃ m, P.underlying t = some (.interface m) := by
    unfold isIfaceT at ht
    split at ht
    · rename_i m e; exact ⟨m, e⟩
    · cases ht
  have hyc : y = .const .nilIface := by
    unfold isNilIC at hy
    split at hy
    · rfl
    · cases hy
  subst hyc
  have hey : a.eval (.const .nilIface) = .nilIface := rfl
  have hex : execOp a.eval o = (do pure (.value (← (do eqGuard (if neg then .neq else .eql) t x (.const .nilIface) (a.eval x) .nilIface; binOp (if neg then .neq else .eql) t (a.eval x) .nilIface)))) := by unfold execOp; simp only [ho, hey]
  have key : ∀ (vx : Value) (b : Bool), a.eval x = vx → (∀ d, (Op.equalIn (d + 1) t vx .nilIface).run P w = .ok b w) → (∀ op, (eqGuard op t x (.const .nilIface) vx .nilIface).run P w = .ok () w) → (∀ op : BinOp, op = .eql → binOp op t vx .nilIface = (do pure (.bool (← Op.equal t vx .nilIface)))) →
      (∀ op : BinOp, op = .neq → binOp op t vx .nilIface = (do pure (.bool (!(← Op.equal t vx .nilIface))))) → OpOK P o a w (Ends P S φ h w (.bool (if neg then !b else b)) [] nx nx) := fun vx b e1 he hg hb1 hb2 => by
    refine opOK_value hex (w' := w) (vv := .bool (if neg then !b else b)) ?_ (ends_pure hs .bool)
    rw [e1]
    have h0 : (Op.equal t vx .nilIface).run P w = .ok b w := he 9999
    cases neg
    · simp only [Bool.false_eq_true, if_false, hb1 _ rfl, Sem.run_bind, hg, h0, Result.andThen_ok, Sem.run_pure]
    · simp only [if_true, hb2 _ rfl, Sem.run_bind, hg, h0, Result.andThen_ok, Sem.run_pure]
  simp only [evalOp] at he
  split at he
  · rename_i e1
    cases he
    rw [e1] at hvx
    have := key .nilIface true hvx.inv_ifcN (fun d => by unfold Op.equalIn; rw [Sem.run_bind, run_underlying hu]; rfl) (fun op => by unfold eqGuard; cases op <;> cases x <;> rfl) (fun op e => by subst e; rfl) (fun op e => by subst e; rfl)
    cases neg <;> simpa using this
  · rename_i u' v' e1
    cases he
    rw [e1] at hvx
    obtain ⟨vv, k1, k2⟩ := hvx.inv_ifc
    have := key (.iface u' vv) false k1 (fun d => by unfold Op.equalIn; rw [Sem.run_bind, run_underlying hu]; rfl) (fun op => by unfold eqGuard; cases op <;> rfl) (fun op e => by subst e; rfl) (fun op e => by subst e; rfl)
    cases neg <;> simpa using this
  · cases he
/-- A method, found. -/
theorem lookT_mem {t : TypeId} {f : FuncId} : ∀ {l : List (TypeId × FuncId)}, lookT t l = some f → (t, f) ∈ l
  | [], h => by cases h
  | (u, g) :: l, h => by
    simp only [lookT] at h
    split at h
    · rename_i e; subst e; cases h; exact List.mem_cons_self
    · exact List.mem_cons_of_mem _ (lookT_mem h)
theorem run_method {name : String} {t : TypeId} {f : FuncId} {v : Value} (h : lookT t (methTbl P name) = some f) (n : Nat) (w : World) : (method (n + 1) t v name).run P w = .ok (f, v) w := by
  have hm := lookT_mem h
  simp only [methTbl, List.mem_filterMap, Option.map_eq_some_iff, List.mem_range] at hm
  obtain ⟨u, -, g, hg, he⟩ := hm
  cases he
  unfold methT at hg
  split at hg
  · rename_i i d hi hd
    split at hg
    · rename_i m hfm
      split at hg
      · rename_i f' ptr hf
        by_cases hc : (m.path.isEmpty && !ptr && !isPtrD d) = true
        · rw [if_pos hc] at hg
          cases hg
          simp only [Bool.and_eq_true, Bool.not_eq_true'] at hc
          obtain ⟨⟨h1, h2⟩, h3⟩ := hc
          have hp : m.path = #[] := by simpa using h1
          subst h2
          simp only [method, Sem.run_bind, typeInfo, run_program, Result.andThen_ok, hi, Sem.run_pure, hfm, hp, follow, hf, receiverAt, run_underlying hd, Place.get]
          cases d <;> first | (cases h3; done) | rfl
        · rw [if_neg hc] at hg; cases hg
      · cases hg
    · cases hg
  · cases hg
end ops
end Go.V
/- Soundness: calls of functions on arguments that name none of the evaluator's memory. -/
set_option linter.unusedVariables false
set_option linter.unusedSimpArgs false
namespace Go.V
open Go.RowKit
variable {P : Program}

/-- What is left behind by whatever is evaluated. -/
def Fin (P : Program) (S : Nat → Prop) (φ : Phi) (H : Heap) (w : World) (v : AV) (H' : Heap) (vv : Value) (w' : World) : Prop :=
  ∃ S' φ', Adv S φ (hget H) w S' φ' (hget H') w' ∧ Sim P S' φ' (hget H') w' ∧ Rep w' S' φ' v vv ∧ (∀ id, H'.nx ≤ id → φ' id = none) ∧ H.nx ≤ H'.nx
/-- ... by a call on arguments that name none of the evaluator's memory. -/
def Pure (P : Program) (Sc : Nat → Prop) (w : World) (t : AV) (vv : Value) (w' : World) : Prop :=
  ∃ v H' ids S' φ', Adv Sc (fun _ => none) (hget noH) w S' φ' (hget H') w' ∧ Sim P S' φ' (hget H') w' ∧ Rep w' S' φ' v vv ∧ detach H' v = some (t, ids) ∧ ids.Nodup
def PuOK (P : Program) (f : FuncId) (args : List AV) (t : AV) : Prop :=
  ∀ Sc w us, Sim P Sc (fun _ => none) (hget noH) w → Reps w Sc (fun _ => none) args us → Calls P f us w fun e w' => ∃ vv, e = .returned vv ∧ Pure P Sc w t vv w'
/-- ... of a call that panicked, or was deferred. -/
def Left (P : Program) (S : Nat → Prop) (φ : Phi) (H : Heap) (w : World) (H' : Heap) (w' : World) : Prop :=
  ∃ S' φ', Adv S φ (hget H) w S' φ' (hget H') w' ∧ Sim P S' φ' (hget H') w' ∧ (∀ id, H'.nx ≤ id → φ' id = none) ∧ H.nx ≤ H'.nx
def FinE (P : Program) (S : Nat → Prop) (φ : Phi) (H : Heap) (w : World) (v : AV) (H' : Heap) (e : Ending) (w' : World) : Prop :=
  (∃ vv, e = .returned vv ∧ Fin P S φ H w v H' vv w') ∨ ∃ p, v = .pan p ∧ e = .panicked [{ v := p, recovered := false }] ∧ Left P S φ H w H' w'
theorem FinE.ret {S : Nat → Prop} {φ : Phi} {H H' : Heap} {w w' : World} {v : AV} {e : Ending} (h : FinE P S φ H w v H' e w') (hv : v.isPan = false) : ∃ vv, e = .returned vv ∧ Fin P S φ H w v H' vv w' := by
  rcases h with h | ⟨p, rfl, -⟩
  · exact h
  · cases hv
theorem FinE.pan {S : Nat → Prop} {φ : Phi} {H H' : Heap} {w w' : World} {p : Value} {e : Ending} (h : FinE P S φ H w (.pan p) H' e w') : e = .panicked [{ v := p, recovered := false }] ∧ Left P S φ H w H' w' := by
  rcases h with ⟨vv, _, _, _, _, _, hr, _⟩ | ⟨p', e1, h⟩
  · cases hr
  · cases e1; exact h
def modeF : Option Value → FrameMode
  | none => .returning
  | some p => .panicking [{ v := p, recovered := false }]
/-- What a function that is evaluated does; what a round does. -/
structure CbOK (P : Program) (cb : Cb) : Prop where
  fn : ∀ f args H v H', cb (.fn f) args H = some (v, H') → ∀ S φ w vargs, Sim P S φ (hget H) w → (∀ id, H.nx ≤ id → φ id = none) → Reps w S φ args vargs →
    Calls P f vargs w fun e w' => FinE P S φ H w v H' e w'
  df : ∀ f md args H v H', cb (.df f md) args H = some (v, H') → ∀ S φ w vargs, Sim P S φ (hget H) w → (∀ id, H.nx ≤ id → φ id = none) → Reps w S φ args vargs →
    (∀ us, (callFunc f us).run P w = .ok (.enter f us) w) ∧ ∃ r, v = .bool r ∧ CallsDIn Fence.wide 0 P f vargs (modeF md) w fun e u' w' => (∃ vv, e = .returned vv) ∧ settle u' = modeF (if r then none else md) ∧ Left P S φ H w H' w'
  pu : ∀ f args H t H', cb (.pu f) args H = some (t, H') → PuOK P f args t
  yl : ∀ id args H v H', cb (.yl id) args H = some (v, H') → ∀ S φ w vargs loc, Sim P S φ (hget H) w → (∀ id, H.nx ≤ id → φ id = none) → Reps w S φ args vargs → φ id = some loc →
    ∃ fn tmps a b, (Instr.yield loc.blk vargs).run P w = .ok (.round loc.blk fn tmps a b) w ∧ RoundIn Fence.wide 0 P loc.blk fn tmps a b w fun e w' => ∃ vv, e = .returned vv ∧ Fin P S φ H w v H' vv w'
theorem CbOK.ret {cb : Cb} (h : CbOK P cb) {f : FuncId} {args : List AV} {H H' : Heap} {v : AV} (hq : cb (.fn f) args H = some (v, H')) (hv : v.isPan = false) {S : Nat → Prop} {φ : Phi} {w : World} {vargs : Array Value} (hs : Sim P S φ (hget H) w) (ht : ∀ id, H.nx ≤ id → φ id = none) (ha : Reps w S φ args vargs) :
    Calls P f vargs w fun e w' => ∃ vv, e = .returned vv ∧ Fin P S φ H w v H' vv w' := (h.fn f args H v H' hq S φ w vargs hs ht ha).mono fun e w' hf => hf.ret hv
def TOK (P : Program) (T : FuncId → Option IFn) : Prop := ∀ f fn, T f = some fn → cFnD P fn.byref fn.dm f = some fn
theorem cFn_spec {P : Program} {br : Bool} {dm : Nat} {f : FuncId} {fn : IFn} (h : cFnD P br dm f = some fn) : ∃ g c, P.funcs[f]? = some g ∧ (g.name == "runtime.NumGoroutine") = false ∧ g.body = some c ∧ cCode P c = some fn.body ∧ cRess P g.results.toList = some fn.res ∧ fn.ntmps = g.ntmps := by
  unfold cFnD at h
  split at h
  · cases h
  · rename_i g hg
    split at h
    · cases h
    · rename_i hn
      split at h
      · cases h
      · rename_i c hc
        split at h
        · rename_i ic rs h1 h2
          cases h
          exact ⟨g, c, hg, by simpa using hn, hc, h1, h2, rfl⟩
        · cases h
theorem run_callFunc {P : Program} {w : World} {f : FuncId} {g : Func} {c : Code} (h1 : P.funcs[f]? = some g) (h2 : (g.name == "runtime.NumGoroutine") = false) (h3 : g.body = some c) (args : Array Value) : (callFunc f args).run P w = .ok (.enter f args) w := by
  have h2' : ¬ g.name = "runtime.NumGoroutine" := by simpa using h2
  simp [callFunc, h1, h2', h3]

/-- What names no place of the evaluator's memory stands in whatever memory. -/
def AV.isLst : AV → Bool
  | .lst .. | .ptrL .. | .mapL .. => true
  | _ => false
theorem Rep.flat1 {w : World} {S S' : Nat → Prop} {φ φ' : Phi} {c : AV} {v : Value} (h : Rep w S φ c v) (hn : c.flat1 = true) : Rep w S' φ' c v := by
  cases h with
  | int => exact .int
  | bool => exact .bool
  | str => exact .str
  | nilS => exact .nilS
  | nilP => exact .nilP
  | nilF => exact .nilF
  | mapN => exact .mapN
  | ifcN => exact .ifcN
  | _ => simp [AV.flat1] at hn
theorem Rep.flat {w : World} {S S' : Nat → Prop} {φ φ' : Phi} {c : AV} {v : Value} (h : Rep w S φ c v) (hn : c.flat = true) : Rep w S' φ' c v := by
  cases h with
  | agg hl h =>
    simp only [AV.flat, List.all_eq_true] at hn
    exact .agg hl fun i c v e1 e2 => (h i c v e1 e2).flat1 (hn c (List.mem_of_getElem? e1))
  | int => exact .int
  | bool => exact .bool
  | str => exact .str
  | nilS => exact .nilS
  | nilP => exact .nilP
  | nilF => exact .nilF
  | mapN => exact .mapN
  | ifcN => exact .ifcN
  | _ => simp [AV.flat, AV.flat1] at hn
theorem Rep.move {w : World} {S S' : Nat → Prop} {φ φ' : Phi} {c : AV} {v : Value} (h : Rep w S φ c v) (hn : c.noId = true) (hS : (∀ b, S b → S' b) ∨ c.isLst = false) : Rep w S' φ' c v := by
  have up : (∀ b, S b → S' b) → ∀ {ψ : Phi} {a : AV} {u : Value}, Rep w S ψ a u → Rep w S' ψ a u := fun hS1 ψ a u h => h.mono hS1 (fun _ _ => rfl) (fun _ _ _ e => e) (fun _ _ e => e)
  cases h with
  | int => exact .int
  | bool => exact .bool
  | str => exact .str
  | lst vals hs h1 hl hc hr =>
    rcases hS with hS | hS
    · exact .lst vals hs (hS _ h1) hl hc (fun i j x c e1 e2 => up hS (hr i j x c e1 e2))
    · simp [AV.isLst] at hS
  | lstNil => exact .lstNil
  | ptrL vals hs h1 hc hr =>
    rcases hS with hS | hS
    · exact .ptrL vals hs (hS _ h1) hc (fun i j x c e1 e2 => up hS (hr i j x c e1 e2))
    · simp [AV.isLst] at hS
  | emp h => exact .emp h
  | nilS => exact .nilS
  | nilP => exact .nilP
  | nilF => exact .nilF
  | mapN => exact .mapN
  | ifcN => exact .ifcN
  | ifc h => exact .ifc (h.flat (by simpa [AV.noId] using hn))
  | mapL h1 h2 h3 h4 h5 h6 h7 =>
    rcases hS with hS | hS
    · exact .mapL (hS _ h1) h2 h3 h4 (fun i k e e1 e2 => up hS (h5 i k e e1 e2)) (fun i v e e1 e2 => up hS (h6 i v e e1 e2)) h7
    · simp [AV.isLst] at hS
  | fn hl h hl' h' =>
    simp only [AV.noId, Bool.and_eq_true, List.all_eq_true] at hn
    exact .fn hl (fun i c v e1 e2 => (h i c v e1 e2).flat (hn.1 c (List.mem_of_getElem? e1))) hl' (fun i c v e1 e2 => (h' i c v e1 e2).flat (hn.2 c (List.mem_of_getElem? e1)))
  | _ => simp [AV.noId] at hn

section args
variable {S Sc : Nat → Prop} {φ : Phi} {h : Mem} {H : Heap} {w : World}
theorem reifyW_spec {f : AV → Option (AV × List Nat)} : ∀ {vs as : List AV} {rd : List Nat}, reifyW f vs = some (as, rd) → as.length = vs.length ∧ ∀ (j : Nat) a, as[j]? = some a → ∃ v r, vs[j]? = some v ∧ f v = some (a, r) ∧ ∀ id ∈ r, id ∈ rd
  | [], as, rd, h => by cases h; exact ⟨rfl, by simp⟩
  | v :: vs, as, rd, h => by
    simp only [reifyW] at h
    split at h
    · rename_i a r as' rs e1 e2
      cases h
      obtain ⟨h1, h2⟩ := reifyW_spec e2
      refine ⟨by simp [h1], fun j b hb => ?_⟩
      cases j with
      | zero => simp at hb; subst hb; exact ⟨v, r, by simp, e1, fun id hid => by simp [hid]⟩
      | succ j =>
        obtain ⟨v', r', q1, q2, q3⟩ := h2 j b (by simpa using hb)
        exact ⟨v', r', by simpa using q1, q2, fun id hid => by simp [q3 id hid]⟩
    · cases h
theorem reifyWW_spec {f : AV → Option (AV × List Nat)} : ∀ {vs as : List (List AV)} {rd : List Nat}, reifyWW f vs = some (as, rd) → as.length = vs.length ∧ ∀ (i : Nat) y, as[i]? = some y → ∃ x, vs[i]? = some x ∧ y.length = x.length ∧ ∀ (j : Nat) a, y[j]? = some a → ∃ v r, x[j]? = some v ∧ f v = some (a, r) ∧ ∀ id ∈ r, id ∈ rd
  | [], as, rd, h => by cases h; exact ⟨rfl, by simp⟩
  | v :: vs, as, rd, h => by
    simp only [reifyWW] at h
    split at h
    · rename_i a r as' rs e1 e2
      cases h
      obtain ⟨h1, h2⟩ := reifyWW_spec e2
      obtain ⟨h3, h4⟩ := reifyW_spec e1
      refine ⟨by simp [h1], fun i y hy => ?_⟩
      cases i with
      | zero =>
        simp at hy; subst hy
        exact ⟨v, by simp, h3, fun j b hb => by obtain ⟨v', r', q1, q2, q3⟩ := h4 j b hb; exact ⟨v', r', q1, q2, fun id hid => by simp [q3 id hid]⟩⟩
      | succ i =>
        obtain ⟨x, q0, q1, q2⟩ := h2 i y (by simpa using hy)
        exact ⟨x, by simpa using q0, q1, fun j b hb => by obtain ⟨v', r', q1, q2, q3⟩ := q2 j b hb; exact ⟨v', r', q1, q2, fun id hid => by simp [q3 id hid]⟩⟩
    · cases h
/-- What a slice of the evaluator's memory holds, as it may be read. -/
theorem own_lst {s off len id : Nat} {xs ys : List (List AV)} {v : Value} (hs : Sim P S φ h w) (hb : h id = some (.row s xs)) (hv : Rep w S φ (.own id off len) v) (hle : off + len ≤ xs.length) (h2 : ∀ b, Own φ h b → Sc b)
    (hl : ys.length = ((xs.drop off).take len).length) (hy : ∀ (i : Nat) y, ys[i]? = some y → ∃ x, ((xs.drop off).take len)[i]? = some x ∧ y.length = x.length ∧ ∀ (j : Nat) a, y[j]? = some a → ∃ c, x[j]? = some c ∧ (c.one = true → a.one = true) ∧ ∀ u, Rep w S φ c u → Rep w Sc (fun _ => none) a u) :
    Rep w Sc (fun _ => none) (.lst s ys) v := by
  obtain ⟨loc, cap, e', n', hφ, hsh, hn', hlc, hval⟩ := hv.inv_own
  obtain ⟨loc', g1, g2, g3⟩ := hs.blk id _ hb
  rw [hφ] at g1; cases g1
  have hlen : ys.length = len := by rw [hl]; simp; omega
  obtain ⟨q1, q2⟩ := g2.sub (off := off) (len := len)
  have hat : LstAt w Sc s ys loc.blk (loc.base + off * loc.sz) := by
    refine ⟨fun y hyy => ?_, h2 _ ⟨id, _, loc, hb, hφ, rfl⟩, fun i j y a e1 e2 => ?_⟩
    · obtain ⟨i, hi, rfl⟩ := List.getElem_of_mem hyy
      obtain ⟨x, r1, r2, r3⟩ := hy i _ (List.getElem?_eq_getElem hi)
      refine ⟨by rw [r2]; exact q1 x (List.mem_of_getElem? r1), ?_⟩
      rw [List.all_eq_true]
      intro a ha
      obtain ⟨j, hj, rfl⟩ := List.getElem_of_mem ha
      obtain ⟨c, c1, c2, c3⟩ := r3 j _ (List.getElem?_eq_getElem hj)
      exact c2 (q2 i j x c r1 c1).1
    · obtain ⟨x, r1, r2, r3⟩ := hy i y e1
      obtain ⟨c, c1, c2, c3⟩ := r3 j a e2
      obtain ⟨-, u, r4, r5⟩ := q2 i j x c r1 c1
      exact ⟨u, r4, c3 u r5⟩
  rw [hval]
  have := hat.lst (φ := fun _ => none) (cap := cap) (by rw [hlen]; exact hlc)
  rwa [hlen] at this
theorem reifyV_rep {f : AV → Option (AV × List Nat)} (hf : ∀ v a rd, f v = some (a, rd) → (∀ id ∈ rd, h id = hget H id) → ∀ u, Rep w S φ v u → Rep w Sc (fun _ => none) a u) {v a : AV} {rd : List Nat} (he : reifyV f v = some (a, rd)) (hrd : ∀ id ∈ rd, h id = hget H id) (u : Value) (hv : Rep w S φ v u) : Rep w Sc (fun _ => none) a u := by
  unfold reifyV at he
  split at he
  · rename_i cs
    cases e : reifyW f cs with
    | none => simp [e] at he
    | some p =>
      obtain ⟨as, r⟩ := p
      simp [e] at he
      obtain ⟨rfl, rfl⟩ := he
      obtain ⟨k1, k2⟩ := reifyW_spec e
      obtain ⟨us, rfl, q⟩ := hv.inv_agg
      refine .agg (by rw [q.1, k1]) fun i c x e1 e2 => ?_
      obtain ⟨v', r', q1, q2, q3⟩ := k2 i c e1
      exact hf v' c r' q2 (fun id hid => hrd id (q3 id hid)) x (q.2 i v' x q1 e2)
  · exact hf v a rd he hrd u hv
theorem ascB_born : ∀ {ms : List MR} {lo cl : Nat}, ascB lo cl ms = true → (∀ b ∈ ms.map (·.2.2), lo ≤ b ∧ b < cl) ∧ (ms.map (·.2.2)).Nodup
  | [], lo, cl, _ => by simp
  | m :: ms, lo, cl, h => by
    simp only [ascB, Bool.and_eq_true, decide_eq_true_eq] at h
    obtain ⟨h1, h2⟩ := ascB_born h.2
    refine ⟨fun b hb => ?_, ?_⟩
    · simp only [List.map_cons, List.mem_cons] at hb
      rcases hb with rfl | hb
      · exact h.1
      · have := h1 b hb; omega
    · simp only [List.map_cons, List.nodup_cons]
      exact ⟨fun hc => by have := h1 _ hc; omega, h2⟩
theorem ascB_ok {ms : List MR} {cl : Nat} {es : Array MapEntry} {w : World} {S : Nat → Prop} {φ : Phi} (h : ascB 0 cl ms = true) (g4 : es.size = ms.length) (g5 : ∀ (i : Nat) m e, ms[i]? = some m → es[i]? = some e → Rep w S φ m.1 e.key ∧ Rep w S φ m.2.1 e.val ∧ e.born = m.2.2) : BornOK (es.toList.map (·.born)) cl := by
  have : es.toList.map (·.born) = ms.map (·.2.2) := by
    apply List.ext_getElem
    · simpa using g4
    · intro i h1 h2
      have i1 : i < es.size := by simpa using h1
      have i2 : i < ms.length := by simpa using h2
      have := (g5 i ms[i] es[i] (by simp [i2]) (by simp [i1])).2.2
      simpa using this
  rw [this]
  obtain ⟨a, b⟩ := ascB_born h
  exact ⟨fun x hx => (a x hx).2, b⟩
theorem reifyD_rep (hs : Sim P S φ h w) (h1 : ∀ b, S b → Sc b) : ∀ (d : Nat) {v a : AV} {rd : List Nat}, reifyD H d v = some (a, rd) → (∀ id ∈ rd, h id = hget H id) → (rd ≠ [] → ∀ b, Own φ h b → Sc b) → (v.one = true → a.one = true) ∧ ∀ u, Rep w S φ v u → Rep w Sc (fun _ => none) a u
  | 0, v, a, rd, he, hrd, h2 => by
    simp only [reifyD] at he
    split at he
    · rename_i hn; cases he; exact ⟨id, fun u hv => hv.move hn (.inl h1)⟩
    · cases he
  | d + 1, v, a, rd, he, hrd, h2 => by
    simp only [reifyD] at he
    split at he
    · cases he
      refine ⟨fun _ => rfl, fun u hv => ?_⟩
      obtain ⟨loc, cap, e', n', hφ, hsh, hn', hlc, hval⟩ := hv.inv_own
      rw [hval]
      exact .emp (by simp)
    · rename_i id off len hne
      split at he
      · rename_i s xs e1
        split at he
        · rename_i hle
          cases e2 : reifyWW (reifyD H d) ((xs.drop off).take len) with
          | none => simp [e2] at he
          | some p =>
            obtain ⟨ys, rs⟩ := p
            simp [e2] at he
            obtain ⟨rfl, rfl⟩ := he
            obtain ⟨k1, k2⟩ := reifyWW_spec e2
            have h2' := h2 (by simp)
            refine ⟨fun _ => rfl, fun u hv => own_lst hs (by rw [hrd id (by simp)]; exact e1) hv hle h2' k1 fun i y hy => ?_⟩
            obtain ⟨x, q1, q2, q3⟩ := k2 i y hy
            refine ⟨x, q1, q2, fun j b hb => ?_⟩
            obtain ⟨c, r, c1, c2, c3⟩ := q3 j b hb
            obtain ⟨o1, o2⟩ := reifyD_rep hs h1 d c2 (fun id hid => hrd id (by simp [c3 id hid])) (fun _ => h2')
            exact ⟨c, c1, o1, o2⟩
        · cases he
      · cases he
    · rename_i id i j sz len
      cases e0 : subOf H id i j sz len with
      | none => simp [e0] at he
      | some zs =>
        cases e2 : reifyWW (reifyD H d) zs with
        | none => simp [e0, e2] at he
        | some p =>
          obtain ⟨ys, rs⟩ := p
          simp [e0, e2] at he
          obtain ⟨rfl, rfl⟩ := he
          obtain ⟨s, xs, x, b1, b2, b3, rfl⟩ := subOf_spec e0
          obtain ⟨k1, k2⟩ := reifyWW_spec e2
          have h2' := h2 (by simp)
          have hb := hrd id (by simp)
          rw [b1] at hb
          refine ⟨fun _ => rfl, fun u hv => ?_⟩
          obtain ⟨loc, cap, e', n', hφ, hsh, hn', hlc, hval⟩ := hv.inv_sub
          obtain ⟨loc', g1, g2, g3⟩ := hs.blk id _ hb
          rw [hφ] at g1; cases g1
          have hvw := g2.view (j := j) (sz := sz) (n := len) b2 b3
          obtain ⟨v1, v2, cs, ce, v3, v4, v5⟩ := hvw
          have hlen : ys.length = len := by rw [k1, chunks_length]
          have hat : LstAt w Sc sz ys loc.blk (loc.base + i * loc.sz + j) := by
            refine ⟨fun y hyy => ?_, h2' _ ⟨id, _, loc, hb, hφ, rfl⟩, fun a l y c e1 e2 => ?_⟩
            · obtain ⟨a, ha, rfl⟩ := List.getElem_of_mem hyy
              obtain ⟨x', r1, r2, r3⟩ := k2 a _ (List.getElem?_eq_getElem ha)
              refine ⟨by rw [r2]; exact v2 x' (List.mem_of_getElem? r1), ?_⟩
              rw [List.all_eq_true]
              intro q hq
              obtain ⟨l, hl, rfl⟩ := List.getElem_of_mem hq
              obtain ⟨c, r, c1, c2, c3⟩ := r3 l _ (List.getElem?_eq_getElem hl)
              exact (reifyD_rep hs h1 d c2 (fun id hid => hrd id (by simp [c3 id hid])) (fun _ => h2')).1 (v5 a l x' c r1 c1).1
            · obtain ⟨x', r1, r2, r3⟩ := k2 a y e1
              obtain ⟨c', r, c1, c2, c3⟩ := r3 l c e2
              obtain ⟨-, u', r4, r5⟩ := v5 a l x' c' r1 c1
              refine ⟨u', by simp only [World.cell?, v3]; simpa using r4, (reifyD_rep hs h1 d c2 (fun id hid => hrd id (by simp [c3 id hid])) (fun _ => h2')).2 u' r5⟩
          rw [hval]
          have := hat.lst (φ := fun _ => none) (cap := cap) (by rw [hlen]; exact hlc)
          rwa [hlen] at this
    · rename_i id
      split at he
      · rename_i ms cl e1
        split at he
        · rename_i hkb
          obtain ⟨hk, hkb⟩ := hkb
          cases e2 : reifyW (reifyV (reifyD H d)) (ms.map (·.2.1)) with
          | none => simp [e2] at he
          | some p =>
            obtain ⟨ys, rs⟩ := p
            simp [e2] at he
            obtain ⟨rfl, rfl⟩ := he
            obtain ⟨k1, k2⟩ := reifyW_spec e2
            have h2' := h2 (by simp)
            have hb := hrd id (by simp)
            rw [e1] at hb
            refine ⟨fun _ => rfl, fun u hv => ?_⟩
            obtain ⟨loc, es, g1, g2, g3, g4, g5⟩ := own_map hs hb hv
            rw [g2]
            refine .mapL (h2' _ ⟨id, _, loc, hb, g1, rfl⟩) g3 (by simp [g4]) (by rw [k1]; simp [g4]) (fun i k e q1 q2 => ?_) (fun i v e q1 q2 => ?_) (ascB_ok hkb g4 g5)
            · simp only [List.getElem?_map, Option.map_eq_some_iff] at q1
              obtain ⟨m, q1, rfl⟩ := q1
              rw [List.all_eq_true] at hk
              exact (g5 i m e q1 q2).1.flat1 (hk m (List.mem_of_getElem? q1))
            · obtain ⟨c, r, c1, c2, c3⟩ := k2 i v q1
              simp only [List.getElem?_map, Option.map_eq_some_iff] at c1
              obtain ⟨m, c1, rfl⟩ := c1
              exact reifyV_rep (fun v a rd q1 q2 u q3 => (reifyD_rep hs h1 d q1 q2 (fun _ => h2')).2 u q3) c2 (fun id hid => hrd id (by simp [c3 id hid])) _ (g5 i m e c1 q2).2.1
        · cases he
      · cases he
    · split at he
      · rename_i hn; cases he; exact ⟨id, fun u hv => hv.move hn (.inl h1)⟩
      · cases he
theorem reifyC_rep {v a : AV} {rd : List Nat} {u : Value} (he : reifyC H v = some (a, rd)) (hrd : ∀ id ∈ rd, h id = hget H id) (hs : Sim P S φ h w) (hv : Rep w S φ v u) (h1 : ∀ b, S b → Sc b) (h2 : rd ≠ [] → ∀ b, Own φ h b → Sc b) : Rep w Sc (fun _ => none) a u :=
  (reifyD_rep hs h1 4 he hrd h2).2 u hv
theorem reifyL_rep : ∀ {vs as : List AV} {rd : List Nat} {us : List Value}, reifyL H vs = some (as, rd) → (∀ id ∈ rd, h id = hget H id) → Sim P S φ h w → Reps w S φ vs us.toArray → (∀ b, S b → Sc b) → (rd ≠ [] → ∀ b, Own φ h b → Sc b) → Reps w Sc (fun _ => none) as us.toArray
  | [], as, rd, us, he, hrd, hs, hv, h1, h2 => by
    cases he
    exact ⟨hv.1, by simp⟩
  | v :: vs, as, rd, us, he, hrd, hs, hv, h1, h2 => by
    simp only [reifyL] at he
    split at he
    · rename_i a r as' rs e1 e2
      cases he
      cases us with
      | nil => have := hv.1; simp at this
      | cons u us =>
        exact Reps.cons (reifyC_rep e1 (fun id hid => hrd id (by simp [hid])) hs (hv.2 0 v u (by simp) (by simp)) h1 (fun hne => h2 (by simp [hne])))
          (reifyL_rep e2 (fun id hid => hrd id (by simp [hid])) hs ⟨by have := hv.1; simpa using this, fun i c x q1 q2 => hv.2 (i + 1) c x (by simpa using q1) (by simpa using q2)⟩ h1 (fun hne => h2 (by simp [hne])))
    · cases he
theorem reify_rep {v a : AV} {rd : List Nat} {u : Value} (he : reify H v = some (a, rd)) (hrd : ∀ id ∈ rd, h id = hget H id) (hs : Sim P S φ h w) (hv : Rep w S φ v u) (h1 : ∀ b, S b → Sc b) (h2 : rd ≠ [] → ∀ b, Own φ h b → Sc b) : Rep w Sc (fun _ => none) a u := by
  unfold reify at he
  split at he
  · rename_i cs
    cases e1 : reifyL H cs with
    | none => simp [e1] at he
    | some p =>
      obtain ⟨as, r⟩ := p
      simp [e1] at he
      obtain ⟨rfl, rfl⟩ := he
      obtain ⟨us, rfl, f2⟩ := hv.inv_agg
      have := reifyL_rep (us := us.toList) e1 hrd hs (by simpa using f2) h1 h2
      exact .agg (by simpa using this.1) (by simpa using this.2)
  · exact reifyC_rep he hrd hs hv h1 h2
theorem reifyArgs_rep : ∀ {vs as : List AV} {rd : List Nat} {us : List Value}, reifyArgs H vs = some (as, rd) → (∀ id ∈ rd, h id = hget H id) → Sim P S φ h w → Reps w S φ vs us.toArray → (∀ b, S b → Sc b) → (rd ≠ [] → ∀ b, Own φ h b → Sc b) → Reps w Sc (fun _ => none) as us.toArray
  | [], as, rd, us, he, hrd, hs, hv, h1, h2 => by
    cases he
    exact ⟨hv.1, by simp⟩
  | v :: vs, as, rd, us, he, hrd, hs, hv, h1, h2 => by
    simp only [reifyArgs] at he
    split at he
    · rename_i a r as' rs e1 e2
      cases he
      cases us with
      | nil => have := hv.1; simp at this
      | cons u us =>
        exact Reps.cons (reify_rep e1 (fun id hid => hrd id (by simp [hid])) hs (hv.2 0 v u (by simp) (by simp)) h1 (fun hne => h2 (by simp [hne])))
          (reifyArgs_rep e2 (fun id hid => hrd id (by simp [hid])) hs ⟨by have := hv.1; simpa using this, fun i c x q1 q2 => hv.2 (i + 1) c x (by simpa using q1) (by simpa using q2)⟩ h1 (fun hne => h2 (by simp [hne])))
    · cases he
end args

/-! Results -/
structure Ent where
  loc : Loc
  xs : List (List AV)
def mkWr (nx : Nat) : List Ent → Wr
  | [] => []
  | e :: es => (nx, some (.row e.loc.sz e.xs)) :: mkWr (nx + 1) es
theorem mkWr_append (nx : Nat) : ∀ (a b : List Ent), mkWr nx (a ++ b) = mkWr nx a ++ mkWr (nx + a.length) b
  | [], b => by simp [mkWr]
  | e :: a, b => by simp [mkWr, mkWr_append (nx + 1) a b, Nat.add_assoc, Nat.add_comm 1]
theorem updH_append (h : Mem) (a b : Wr) : updH h (a ++ b) = updH (updH h a) b := by simp [updH, List.foldl_append]
theorem updH_mkWr : ∀ (es : List Ent) (nx : Nat) (h : Mem) (id : Nat), updH h (mkWr nx es) id = if nx ≤ id then (match es[id - nx]? with | some e => some (.row e.loc.sz e.xs) | none => h id) else h id
  | [], nx, h, id => by simp [mkWr, updH]
  | e :: es, nx, h, id => by
    have : updH h (mkWr nx (e :: es)) = updH (fun i => if i = nx then some (.row e.loc.sz e.xs) else h i) (mkWr (nx + 1) es) := rfl
    rw [this, updH_mkWr es (nx + 1)]
    by_cases h1 : id = nx
    · subst h1; rw [if_neg (by omega)]; simp
    · by_cases h2 : nx ≤ id
      · rw [if_pos (by omega), if_pos h2, show id - nx = (id - (nx + 1)) + 1 by omega]
        simp [h1]
      · rw [if_neg (by omega), if_neg h2]; simp [h1]
def phiE (φ : Phi) (nx : Nat) (es : List Ent) : Phi := fun id => if nx ≤ id then (match es[id - nx]? with | some e => some e.loc | none => φ id) else φ id
theorem phiE_at (φ : Phi) (nx : Nat) (es : List Ent) (k : Nat) (e : Ent) (h : es[k]? = some e) : phiE φ nx es (nx + k) = some e.loc := by simp [phiE, h]
theorem phiE_only (φ : Phi) (nx : Nat) (es : List Ent) (id : Nat) (h : id < nx ∨ nx + es.length ≤ id) : phiE φ nx es id = φ id := by
  unfold phiE
  rcases h with h | h
  · rw [if_neg (by omega)]
  · rw [if_pos (by omega), List.getElem?_eq_none (by omega)]
/-- Blocks that nobody else knows are taken over. -/
theorem adopt_sim {S S'' : Nat → Prop} {φ : Phi} {h : Mem} {w w' : World} {nx : Nat} {es : List Ent} (hs : Sim P S φ h w) (hn : ∀ id, nx ≤ id → id < nx + es.length → φ id = none)
    (hb : ∀ b, b < w.heap.size → w'.heap[b]? = w.heap[b]?) (hsz : w.heap.size ≤ w'.heap.size) (hos : w'.os = w.os) (hta : w'.tape = w.tape) (hou : w'.output = w.output) (hsh : ∀ b e n, w.shape? b = some (e, n) → w'.shape? b = some (e, n))
    (hS : ∀ b, S b → S'' b) (hS2 : ∀ b, S'' b → S b ∨ w.heap.size ≤ b) (hS3 : ∀ b, S'' b → b < w'.heap.size)
    (hes : ∀ (k : Nat) e, es[k]? = some e → SimBlk P w' S'' (fun _ => none) e.loc (.row e.loc.sz e.xs) ∧ ¬ S'' e.loc.blk ∧ w.heap.size ≤ e.loc.blk)
    (hd : ∀ (k k' : Nat) e e', es[k]? = some e → es[k']? = some e' → e.loc.blk = e'.loc.blk → k = k') :
    Adv S φ h w S'' (phiE φ nx es) (updH h (mkWr nx es)) w' ∧ Sim P S'' (phiE φ nx es) (updH h (mkWr nx es)) w' := by
  have old : ∀ id b, updH h (mkWr nx es) id = some b → (∃ k e, nx ≤ id ∧ id = nx + k ∧ es[k]? = some e ∧ b = .row e.loc.sz e.xs ∧ phiE φ nx es id = some e.loc) ∨ (h id = some b ∧ phiE φ nx es id = φ id ∧ (id < nx ∨ nx + es.length ≤ id)) := by
    intro id b e1
    rw [updH_mkWr] at e1
    by_cases h1 : nx ≤ id
    · rw [if_pos h1] at e1
      cases e2 : es[id - nx]? with
      | none =>
        rw [e2] at e1
        have : nx + es.length ≤ id := by rw [List.getElem?_eq_none_iff] at e2; omega
        exact .inr ⟨e1, phiE_only _ _ _ _ (.inr this), .inr this⟩
      | some e =>
        rw [e2] at e1
        cases e1
        exact .inl ⟨id - nx, e, h1, by omega, e2, rfl, by simp [phiE, h1, e2]⟩
    · rw [if_neg h1] at e1
      exact .inr ⟨e1, phiE_only _ _ _ _ (.inl (by omega)), .inl (by omega)⟩
  have hadv : Adv S φ h w S'' (phiE φ nx es) (updH h (mkWr nx es)) w' := by
    refine ⟨fun id loc e => ?_, hS, hS2, hos, hta, hou, hsz, fun b hbb _ => hb b hbb, ?_, hsh⟩
    · have : id < nx ∨ nx + es.length ≤ id := by
        rcases Nat.lt_or_ge id nx with h1 | h1
        · exact .inl h1
        · rcases Nat.lt_or_ge id (nx + es.length) with h2 | h2
          · rw [hn id h1 h2] at e; cases e
          · exact .inr h2
      rw [phiE_only _ _ _ _ this]; exact e
    · rintro b ⟨id, x, loc, e1, e2, e3⟩
      rcases old id x e1 with ⟨k, e, -, rfl, f1, -, f2⟩ | ⟨f1, f2, -⟩
      · rw [f2] at e2; cases e2
        exact .inr (e3 ▸ (hes k e f1).2.2)
      · rw [f2] at e2
        exact .inl ⟨id, x, loc, f1, e2, e3⟩
  have bd : ∀ id b loc, h id = some b → φ id = some loc → loc.blk < w.heap.size := fun id b loc e1 e2 => by
    obtain ⟨l', q1, q2, -⟩ := hs.blk id b e1
    rw [e2] at q1; cases q1
    exact q2.lt
  refine ⟨hadv, ?_, ?_, hS3⟩
  · intro id b e1
    rcases old id b e1 with ⟨k, e, -, rfl, f1, rfl, f2⟩ | ⟨f1, f2, -⟩
    · obtain ⟨g1, g2, g3⟩ := hes k e f1
      refine ⟨e.loc, f2, ?_, g2⟩
      obtain ⟨p1, p2, c, t, p3, p4, p5⟩ := g1
      exact ⟨p1, p2, c, t, p3, p4, fun i j x a q1 q2 => by obtain ⟨o1, v, r1, r2⟩ := p5 i j x a q1 q2; exact ⟨o1, v, r1, noPhi r2⟩⟩
    · obtain ⟨loc, g1, g2, g3⟩ := hs.blk id b f1
      refine ⟨loc, by rw [f2]; exact g1, g2.adv hadv hs (hb _ (bd id b loc f1 g1)), fun hS'' => ?_⟩
      rcases hS2 _ hS'' with h1 | h1
      · exact g3 h1
      · have := bd id b loc f1 g1; omega
  · intro id id' b b' loc loc' a1 a2 a3 a4 a5
    rcases old id b a1 with ⟨k, e, -, rfl, f1, -, f2⟩ | ⟨f1, f2, -⟩ <;> rcases old id' b' a2 with ⟨k', e', -, rfl, f1', -, f2'⟩ | ⟨f1', f2', -⟩
    · rw [f2] at a3; cases a3
      rw [f2'] at a4; cases a4
      rw [hd k k' e e' f1 f1' a5]
    · rw [f2] at a3; cases a3
      rw [f2'] at a4
      have := bd id' b' loc' f1' a4
      have := (hes k e f1).2.2
      omega
    · rw [f2'] at a4; cases a4
      rw [f2] at a3
      have := bd id b loc f1 a3
      have := (hes k' e' f1').2.2
      omega
    · rw [f2] at a3; rw [f2'] at a4
      exact hs.inj id id' b b' loc loc' f1 f1' a3 a4 a5
end Go.V
