import Derived.Test.YtiilopfhlmeaoaaGreatDoorFmtImpl
import Derived.Test.YtiilopfhlmeaoaaGreatDoorArgMath2
import Derived.Recover
import Derived.Lib.Hide
import Derived.Lib.SmallJoins
import Derived.Lib.AtoiAllCases
import Derived.Laws.Pointers
/-
  impl.mustParse, impl.ParseNumber, impl.ParseInt: the integer whose numeral the text is, and true; else 0 and false.
-/
namespace Go.Proofs.YtiilopfhlmeaoaaGreatDoor
open Go.RowKit
namespace ParseI

/-- What the program's variables hold: the table of powers of ten, and errors that are not nil. -/
structure Env (w : World) : Prop where
  pow : FmtI.Pow w
  syn : ∃ tp p, w.var? Tryz.prog "strconv.ErrSyntax" = some #[.iface tp p]
  rng : ∃ tp p, w.var? Tryz.prog "strconv.ErrRange" = some #[.iface tp p]
  mal : ∃ tp p, w.var? Tryz.prog "loop.example/g00515/impl.errMalformed" = some #[.iface tp p]

theorem var_below {w w' : World} {n : String} {g : Nat} {cs : Array Value} (hg : Tryz.prog.globalNamed n = some g) (h : w.var? Tryz.prog n = some cs) (hb : Below w.heap.size w w') : w'.var? Tryz.prog n = some cs := by
  have hlt : g < w.heap.size := by
    rcases Nat.lt_or_ge g w.heap.size with h' | h'
    · exact h'
    · simp [World.var?, hg, Array.getElem?_eq_none h'] at h
  exact var?_below hb hg hlt h

theorem Env.below {w w' : World} (h : Env w) (hb : Below w.heap.size w w') : Env w' :=
  ⟨h.pow.below hb,
   let ⟨a, b, c⟩ := h.syn; ⟨a, b, var_below (g := 4) (by kernel_rfl) c hb⟩,
   let ⟨a, b, c⟩ := h.rng; ⟨a, b, var_below (g := 5) (by kernel_rfl) c hb⟩,
   let ⟨a, b, c⟩ := h.mal; ⟨a, b, var_below (g := 3) (by kernel_rfl) c hb⟩⟩

theorem Env.cell {w : World} (h : Env w) : ∃ tp p, w.cell? ⟨3, 0, none⟩ = some (.iface tp p) := by
  obtain ⟨tp, p, hv⟩ := h.mal
  have hg : Tryz.prog.globalNamed "loop.example/g00515/impl.errMalformed" = some 3 := by kernel_rfl
  exact ⟨tp, p, by have := World.var?_cell hg hv 0; simpa using this⟩

theorem atoi_below {w w1 : World} (hw1 : w1 = w ∨ ∃ t, w1 = Lib.bytesWorld w 5 t) : Below w.heap.size w w1 := by
  rcases hw1 with rfl | ⟨t, rfl⟩
  · exact Below.refl _ _
  · exact Go.Joins.below_bytesWorld _ _ _ _ (Nat.le_refl _)

def Panics (w : World) (e : Ending) (w' : World) : Prop := ∃ tp p, e = .panicked [{ v := .iface tp p, recovered := false }] ∧ Below w.heap.size w w'

set_option maxHeartbeats 400000 in
set_option maxRecDepth 100000 in
theorem must_ok (s : ByteArray) (lo hi v : Int) (hsz : s.size ≤ 1048576) (h : Lib.atoiAll s.data.toList = .ok v) (h1 : lo ≤ v) (h2 : v ≤ hi) (he : Lib.itoa v = s.data.toList) (w : World) (henv : Env w) :
    Calls Tryz.prog 124 #[.string s, .int .i64 lo, .int .i64 hi] w fun e w' => e = .returned (.int .i64 v) ∧ Below w.heap.size w w' := by
  have hb := Lib.atoiAll_bounds h
  have H := Lib.hid h
  have hs : (Lib.itoa v == s.toList) = true := by rw [he, ByteArray.toList_eq]; simp
  clear h he
  go_enter Tryz.func124, Tryz.ntmps124
  go_wp2_with fail
  refine (Tryz.strconv_Atoi_ok s (by omega) v H.out _).mono ?_
  rintro e w1 ⟨rfl, hw1⟩
  have hb1 := atoi_below hw1
  clear hw1
  go_wp2_with fail
  refine (FmtI.any v hb.1 hb.2 _ (henv.pow.below hb1)).mono ?_
  rintro e w2 ⟨rfl, hb2⟩
  go_wp2
  go_ret
  exact ⟨rfl, hb1.trans (hb2.mono hb1.size)⟩

set_option maxHeartbeats 400000 in
set_option maxRecDepth 100000 in
theorem must_other (s : ByteArray) (lo hi v : Int) (hsz : s.size ≤ 1048576) (h : Lib.atoiAll s.data.toList = .ok v) (h1 : lo ≤ v) (h2 : v ≤ hi) (he : Lib.itoa v ≠ s.data.toList) (w : World) (henv : Env w) :
    Calls Tryz.prog 124 #[.string s, .int .i64 lo, .int .i64 hi] w (Panics w) := by
  have hb := Lib.atoiAll_bounds h
  have H := Lib.hid h
  have hs : (Lib.itoa v == s.toList) = false := by rw [ByteArray.toList_eq]; simpa using he
  clear h he
  go_enter Tryz.func124, Tryz.ntmps124
  go_wp2_with fail
  refine (Tryz.strconv_Atoi_ok s (by omega) v H.out _).mono ?_
  rintro e w1 ⟨rfl, hw1⟩
  have hb1 := atoi_below hw1
  clear hw1
  go_wp2_with fail
  refine (FmtI.any v hb.1 hb.2 _ (henv.pow.below hb1)).mono ?_
  rintro e w2 ⟨rfl, hb2⟩
  have hb12 := hb1.trans (hb2.mono hb1.size)
  obtain ⟨tp, p, hc⟩ := (henv.below hb12).cell
  go_wp2
  exact ⟨rfl, _, _, rfl, hb12⟩

set_option maxHeartbeats 400000 in
set_option maxRecDepth 100000 in
theorem must_out (s : ByteArray) (lo hi v : Int) (hsz : s.size ≤ 1048576) (h : Lib.atoiAll s.data.toList = .ok v) (h1 : v < lo ∨ hi < v) (w : World) (henv : Env w) :
    Calls Tryz.prog 124 #[.string s, .int .i64 lo, .int .i64 hi] w (Panics w) := by
  have hb := Lib.atoiAll_bounds h
  have H := Lib.hid h
  clear h
  by_cases hlo : v < lo
  · clear h1
    go_enter Tryz.func124, Tryz.ntmps124
    go_wp2_with fail
    refine (Tryz.strconv_Atoi_ok s (by omega) v H.out _).mono ?_
    rintro e w1 ⟨rfl, hw1⟩
    have hb1 := atoi_below hw1
    clear hw1
    obtain ⟨tp, p, hc⟩ := (henv.below hb1).cell
    go_wp2
    exact ⟨rfl, _, _, rfl, hb1⟩
  · have hhi : hi < v := h1.resolve_left hlo
    clear h1
    go_enter Tryz.func124, Tryz.ntmps124
    go_wp2_with fail
    refine (Tryz.strconv_Atoi_ok s (by omega) v H.out _).mono ?_
    rintro e w1 ⟨rfl, hw1⟩
    have hb1 := atoi_below hw1
    clear hw1
    obtain ⟨tp, p, hc⟩ := (henv.below hb1).cell
    go_wp2
    exact ⟨rfl, _, _, rfl, hb1⟩

set_option maxHeartbeats 400000 in
set_option maxRecDepth 100000 in
theorem must_err (s : ByteArray) (lo hi : Int) (hsz : s.size ≤ 1048576) (h : ∀ v, Lib.atoiAll s.data.toList ≠ .ok v) (w : World) (henv : Env w) :
    Calls Tryz.prog 124 #[.string s, .int .i64 lo, .int .i64 hi] w (Panics w) := by
  have key : ∃ x : Int, Calls Tryz.prog 139 #[.string s] w fun e w' => ∃ N, e = .returned (.tuple #[.int .i64 x, .iface 175 (.pointer (some ⟨N, 0, none⟩))]) ∧ Below w.heap.size w w' := by
    have atoi_bad : ∀ r, Lib.atoiAll s.data.toList = r → (∀ v, r ≠ .ok v) → ∃ x : Int, Calls Tryz.prog 139 #[.string s] w fun e w' => ∃ N, e = .returned (.tuple #[.int .i64 x, .iface 175 (.pointer (some ⟨N, 0, none⟩))]) ∧ Below w.heap.size w w' := by
      intro r ha hr
      rcases r with v | _ | _
      · exact absurd rfl (hr v)
      · obtain ⟨tp, p, hv⟩ := henv.syn
        exact ⟨_, (Any.strconv_Atoi_syntax_var Tryz.laysC172 s (by omega) ha tp p w hv).mono fun e w' ⟨N, h1, _, _, h4⟩ => ⟨N, h1, h4⟩⟩
      · obtain ⟨tp, p, hv⟩ := henv.rng
        exact ⟨_, (Any.strconv_Atoi_range_var Tryz.laysC172 s (by omega) ha tp p w hv).mono fun e w' ⟨N, h1, _, _, h4⟩ => ⟨N, h1, h4⟩⟩
    exact atoi_bad _ rfl h
  obtain ⟨x, key⟩ := key
  have K := Lib.hid key
  clear key h
  go_enter Tryz.func124, Tryz.ntmps124
  go_wp2_with fail
  refine (Calls.mono (Hid.out K)) ?_
  rintro e w1 ⟨N, rfl, hb1⟩
  obtain ⟨tp, p, hc⟩ := (henv.below hb1).cell
  go_wp2
  exact ⟨rfl, _, _, rfl, hb1⟩

/-- mustParse: the integer, or a panic. -/
theorem must (s : ByteArray) (lo hi : Int) (h0 : -1000000000000 < lo) (h1 : hi < 1000000000000) (hsz : s.size ≤ 1048576) (w : World) (henv : Env w) :
    (∀ v, NumM.rd lo hi s.data.toList = some v → Calls Tryz.prog 124 #[.string s, .int .i64 lo, .int .i64 hi] w fun e w' => e = .returned (.int .i64 v) ∧ Below w.heap.size w w') ∧
    (NumM.rd lo hi s.data.toList = none → Calls Tryz.prog 124 #[.string s, .int .i64 lo, .int .i64 hi] w (Panics w)) := by
  constructor
  · intro v hv
    obtain ⟨a, b, c⟩ := NumM.rd_some.1 hv
    exact must_ok s lo hi v hsz (by rw [← c]; exact NumM.atoiAll_itoa v (by omega) (by omega)) a b c w henv
  · intro hn
    by_cases hok : ∃ v, Lib.atoiAll s.data.toList = .ok v
    · obtain ⟨v, hv⟩ := hok
      rw [NumM.rd_of_ok h0 h1 hv] at hn
      by_cases hr : lo ≤ v ∧ v ≤ hi
      · refine must_other s lo hi v hsz hv hr.1 hr.2 (fun he => ?_) w henv
        rw [if_pos ⟨hr.1, hr.2, he⟩] at hn
        cases hn
      · exact must_out s lo hi v hsz hv (by omega) w henv
    · exact must_err s lo hi hsz (fun v hv => hok ⟨v, hv⟩) w henv

theorem ParseNumber_catch (a b : Addr) (x : Int) (y : Bool) (u : TypeId) (pv : Value) (w : World) (hab : b ≠ a) (hc : w.cell? a = some (.int .i64 x)) (hz : w.frozen? a = false) (hc2 : w.cell? b = some (.bool y)) (hz2 : w.frozen? b = false) :
    CallsD Tryz.prog 123 #[.pointer (some a), .pointer (some b)] (.panicking [{ v := .iface u pv, recovered := false }]) w fun e u' w' =>
      e = .returned (.tuple #[]) ∧ u' = .panicking [{ v := .iface u pv, recovered := true }] ∧ w' = (w.setCell a (.int .i64 0)).setCell b (.bool false) := by
  have hc3 : (w.setCell a (.int .i64 0)).cell? b = some (.bool y) := by rw [World.cell?_setCell_other _ _ _ _ (Ne.symm hab)]; exact hc2
  refine callsD_of_wpS Tryz.func123 rfl fun c₀ cs hu => ?_
  apply wpS_seq
  apply wpS_region
  simp [wpOpsS, go_sem, recoverD, hu, Tryz.ntmps123, Exit.thenS]
  refine wpS_cond (t := true) (by simp [Act.eval, Array.replicate]) ?_
  simp only [if_true]
  apply wpS_region
  simp [wpOpsS, go_sem, hc, hz, hc3, hz2, bodyPostS, results, Tryz.results123]

theorem ParseNumber_idle (a b : Addr) (w : World) :
    CallsD Tryz.prog 123 #[.pointer (some a), .pointer (some b)] .returning w fun e u' w' => e = .returned (.tuple #[]) ∧ u' = .returning ∧ w' = w := by
  refine callsD_of_wpS Tryz.func123 rfl fun c₀ cs hu => ?_
  apply wpS_seq
  apply wpS_region
  simp [wpOpsS, go_sem, recoverD, hu, Tryz.ntmps123, Exit.thenS]
  refine wpS_cond (t := false) (by simp [Act.eval, Array.replicate]) ?_
  simp only [Bool.false_eq_true, if_false]
  refine wpS_of_wp (wp_skip ?_)
  cases c₀
  simp_all [bodyPostS, results, Tryz.results123]

set_option maxHeartbeats 400000 in
set_option maxRecDepth 100000 in
theorem ParseNumber_some (s : ByteArray) (v : Int) (hsz : s.size ≤ 1048576) (hv : NumM.rd 0 999999 s.data.toList = some v) (w : World) (henv : Env w) :
    Calls Tryz.prog 88 #[.string s] w fun e w' => e = .returned (.tuple #[.int .i64 v, .bool true]) ∧ Below w.heap.size w w' := by
  have hmf : ∀ (fn : Fn) (first cap : Array Value) (w : World), (Instr.makeFunc fn first cap).run Tryz.prog w = .ok (.func fn first cap) w := fun _ _ _ _ => rfl
  have HV := Lib.hid hv
  clear hv
  go_enter_defers Tryz.func88, Tryz.ntmps88
  go_wp2_with fail
  have hg : Below w.heap.size w ((w.alloc (Obj.cells #[Value.int IntKind.i64 0] 3)).alloc (Obj.cells #[Value.bool false] 4)) := ((Below.refl _ _).alloc (Nat.le_refl _) _).alloc (by simp) _
  refine ((must s 0 999999 (by omega) (by omega) hsz _ (henv.below hg)).1 v HV.out).mono ?_
  rintro e w1 ⟨rfl, hb1⟩
  have c0 : w1.cell? ⟨w.heap.size, 0, none⟩ = some (.int .i64 0) := by rw [hb1.cell (by simp; omega)]; go_simp
  have c1 : w1.cell? ⟨w.heap.size + 1, 0, none⟩ = some (.bool false) := by rw [hb1.cell (by simp)]; go_simp
  have f0 : w1.frozen? ⟨w.heap.size, 0, none⟩ = false := by rw [hb1.frozen (by simp; omega)]; go_simp
  have f1 : w1.frozen? ⟨w.heap.size + 1, 0, none⟩ = false := by rw [hb1.frozen (by simp)]; go_simp
  have hbw : Below w.heap.size w w1 := hg.trans (hb1.mono (by simp; omega))
  go_wp2
  refine leaves_cons (f := 123) (args := #[.pointer (some ⟨w.heap.size, 0, none⟩), .pointer (some ⟨w.heap.size + 1, 0, none⟩)]) (by simp) (by simp [go_sem]) ?_
  refine (ParseNumber_idle _ _ _).mono ?_
  rintro e u' w'' ⟨rfl, rfl, rfl⟩
  simp [Leaves, settle, results, Tryz.results88, go_sem, c0, c1]
  exact (hbw.setCell (Nat.le_refl _) _).setCell (by simp) _

set_option maxHeartbeats 400000 in
set_option maxRecDepth 100000 in
theorem ParseNumber_none (s : ByteArray) (hsz : s.size ≤ 1048576) (hv : NumM.rd 0 999999 s.data.toList = none) (w : World) (henv : Env w) :
    Calls Tryz.prog 88 #[.string s] w fun e w' => e = .returned (.tuple #[.int .i64 0, .bool false]) ∧ Below w.heap.size w w' := by
  have hmf : ∀ (fn : Fn) (first cap : Array Value) (w : World), (Instr.makeFunc fn first cap).run Tryz.prog w = .ok (.func fn first cap) w := fun _ _ _ _ => rfl
  have HV := Lib.hid hv
  clear hv
  go_enter_defers Tryz.func88, Tryz.ntmps88
  go_wp2_with fail
  have hg : Below w.heap.size w ((w.alloc (Obj.cells #[Value.int IntKind.i64 0] 3)).alloc (Obj.cells #[Value.bool false] 4)) := ((Below.refl _ _).alloc (Nat.le_refl _) _).alloc (by simp) _
  refine ((must s 0 999999 (by omega) (by omega) hsz _ (henv.below hg)).2 HV.out).mono ?_
  rintro e w1 ⟨tp, p, rfl, hb1⟩
  have c0 : w1.cell? ⟨w.heap.size, 0, none⟩ = some (.int .i64 0) := by rw [hb1.cell (by simp; omega)]; go_simp
  have c1 : w1.cell? ⟨w.heap.size + 1, 0, none⟩ = some (.bool false) := by rw [hb1.cell (by simp)]; go_simp
  have f0 : w1.frozen? ⟨w.heap.size, 0, none⟩ = false := by rw [hb1.frozen (by simp; omega)]; go_simp
  have f1 : w1.frozen? ⟨w.heap.size + 1, 0, none⟩ = false := by rw [hb1.frozen (by simp)]; go_simp
  have hbw : Below w.heap.size w w1 := hg.trans (hb1.mono (by simp; omega))
  go_wp2
  refine leaves_cons (f := 123) (args := #[.pointer (some ⟨w.heap.size, 0, none⟩), .pointer (some ⟨w.heap.size + 1, 0, none⟩)]) (by simp) (by simp [go_sem]) ?_
  refine (ParseNumber_catch ⟨w.heap.size, 0, none⟩ ⟨w.heap.size + 1, 0, none⟩ 0 false _ _ _ (by simp) c0 f0 c1 f1).mono ?_
  rintro e u' w'' ⟨rfl, rfl, rfl⟩
  simp [Leaves, settle, results, Tryz.results88, go_sem, c0, c1]
  exact (hbw.setCell (Nat.le_refl _) _).setCell (by simp) _

/-- ParseNumber, at every text: the integer and true, or 0 and false. -/
theorem ParseNumber_any (s : ByteArray) (hsz : s.size ≤ 1048576) (w : World) (henv : Env w) :
    Calls Tryz.prog 88 #[.string s] w fun e w' => e = .returned (.tuple #[.int .i64 ((NumM.rd 0 999999 s.data.toList).getD 0), .bool (NumM.rd 0 999999 s.data.toList).isSome]) ∧ Below w.heap.size w w' := by
  cases h : NumM.rd 0 999999 s.data.toList with
  | none => exact ParseNumber_none s hsz h w henv
  | some v => exact ParseNumber_some s v hsz h w henv

end ParseI
end Go.Proofs.YtiilopfhlmeaoaaGreatDoor
