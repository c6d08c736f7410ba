import Derived.Test.YtaaceggedjcbpaaPgmScope
import Derived.Test.YtaaceggedjcbpaaPgmFindS
import Derived.Deep.RegionLaw
import Derived.Handy
/-
  Scopes as closures that extend each other (the program).
-/
namespace Go.Proofs.Ytaaceggedjcbpaa
open Go.RowKit
namespace ProgI
open RowK Mem

theorem own_base {w : World} {b b' size n : Nat} {e : TypeId} {v : Value} {xs : List Value} (h : w.ownsRow b e size v n xs) (hb : b' ≤ b) : w.ownsRow b' e size v n xs :=
  ⟨h.1, h.2.imp id (fun ⟨g, cap, cur, e, hg, r⟩ => ⟨g, cap, cur, e, Nat.le_trans hb hg, r⟩)⟩
/-- Strings in a row of the call's own. -/
def GaveW (w : World) (ss : List ByteArray) (e : Ending) (w' : World) : Prop := ∃ v, e = .returned v ∧ w'.ownsRow w.heap.size 9 1 v ss.length (ss.map Value.string) ∧ Below w.heap.size w w'
theorem cloneW (A : Option Addr) (c : Nat) (ss : List ByteArray) (w : World) (hA : ArgS Rep.str w A ss.length c ss) (hl : ss.length ≤ 100000000) :
    Calls Try.prog 69 #[.slice A ss.length c] w (GaveW w ss) := by
  obtain ⟨q, fp, hA⟩ := hA
  obtain ⟨hr, _⟩ := strs_open hA
  by_cases hn : ss = []
  · subst hn
    cases A with
    | none =>
      refine (Try.slices_Clone_string_nil _ _ _).mono ?_
      rintro e w' ⟨rfl, rfl⟩
      exact ⟨_, rfl, World.ownsRow_nil _ _ _ _, Below.refl _ _⟩
    | some a =>
      refine (Try.slices_Clone_string_zero a c w).mono ?_
      rintro e w' ⟨v, rfl, h, _, hb⟩
      exact ⟨v, rfl, h, hb⟩
  · obtain ⟨b, o, rfl, hlt, hc⟩ := hr hn
    refine (Try.slices_Clone_string b o ss.length c ss w (Nat.le_refl _) (by omega) (fun j hj => ?_)).mono ?_
    · rw [hc j ss[j] (List.getElem?_eq_getElem hj)]
      simp [List.getD, List.getElem?_eq_getElem hj]
    · rintro e w' ⟨v, rfl, h, _, hb⟩
      rw [List.take_length] at h
      exact ⟨v, rfl, h, hb⟩
/-- A scope: a closure that hands back these names, each time in new memory. -/
def Scoped (w : World) (v : Value) (ss : List ByteArray) : Prop :=
  ∃ F lb, v = .func (.func F) #[] lb ∧ (∀ args W, (callFunc F args).run Try.prog W = .ok (.enter F args) W) ∧ ∀ W, Below w.heap.size w W → Calls Try.prog F lb W (GaveW W ss)
theorem Scoped.below {w w' : World} {v : Value} {ss : List ByteArray} (h : Scoped w v ss) (hb : Below w.heap.size w w') : Scoped w' v ss := by
  obtain ⟨F, lb, h1, h2, h3⟩ := h
  exact ⟨F, lb, h1, h2, fun W h => h3 W (hb.trans (h.mono hb.size))⟩

set_option maxHeartbeats 4000000 in
set_option maxRecDepth 100000 in
theorem callParams (b : Nat) (z0 : ByteArray) (A1 : Option Addr) (c1 : Nat) (x1 : List ByteArray) (z2 : Bool) (v3 : Value) (w : World) (hV : Lvar w b #[.string z0, .slice A1 x1.length c1, .bool z2, v3]) (h1 : ArgS Rep.str w A1 x1.length c1 x1) (hl : x1.length ≤ 100000000) :
    Calls Try.prog 81 #[.pointer (some ⟨b, 0, none⟩)] w (GaveW w x1) := by
  have hc : w.cell? ⟨b, 1, none⟩ = some (.slice A1 x1.length c1) := hV.cell 1 _ rfl
  have CL := Lib.hid (cloneW A1 c1 x1 w h1 hl)
  clear h1
  go_enter Try.func81, Try.ntmps81
  go_wp2_with fail
  refine (Calls.mono CL.out) ?_
  rintro e w1 ⟨v, rfl, h, hb⟩
  have F := Lib.hid (show GaveW w x1 (.returned v) w1 from ⟨v, rfl, h, hb⟩)
  clear h hb
  go_wp2
  go_ret
  exact F.out

set_option maxHeartbeats 4000000 in
set_option maxRecDepth 100000 in
theorem callWith (bs bn : Nat) (sv : Value) (N : Option Addr) (cn : Nat) (xs ns : List ByteArray) (w : World) (hS : Lvar w bs #[sv]) (hN : Lvar w bn #[.slice N ns.length cn]) (hs : Scoped w sv xs) (hn : ArgS Rep.str w N ns.length cn ns) (hl : xs.length + ns.length ≤ 1000000000) :
    Calls Try.prog 83 #[.pointer (some ⟨bs, 0, none⟩), .pointer (some ⟨bn, 0, none⟩)] w (GaveW w (xs ++ ns)) := by
  obtain ⟨i0, hi, hz0, hz1, hz2⟩ := info_parts strInfoU
  have HI := Lib.hid hi
  have HZ0 := Lib.hid hz0
  have HZ1 := Lib.hid hz1
  have HZ2 := Lib.hid hz2
  have hu := Lib.hid Try.underlying27
  obtain ⟨F, lb, rfl, eg, hcall⟩ := hs
  have c0 : w.cell? ⟨bs, 0, none⟩ = some (.func (.func F) #[] lb) := hS.cell 0 _ rfl
  have c1 : w.cell? ⟨bn, 0, none⟩ = some (.slice N ns.length cn) := hN.cell 0 _ rfl
  have HC := Lib.hid (hcall w.drew (Below.refl _ _).drew)
  have HNV := Lib.hid hN
  have HNR := Lib.hid (fun W (h : Below w.heap.size w W) => ProgS.str_row (hn.below h))
  clear hi hz0 hz1 hz2 hn hcall hS hN
  go_enter Try.func83, Try.ntmps83
  go_wp2_with fail
  go_region_law (first
    | (refine step_append_rowW rfl _ _ _ rfl 9 i0 (.string ByteArray.empty) 1 16 w.heap.size hu.out HI.out HZ0.out HZ1.out HZ2.out rfl (by decide) _ xs.length (xs.map Value.string) rfl OW.out N ns.length cn (ns.map Value.string) rfl (by simp) (HNR.out _ BW.out) (by simp [Value.oneCell']) (by unfold maxLen; omega) (by omega) BW.out.size ?_; intro v5 w5 hown5 hgrow5 hwh5)
    | (go_simp; go_at_fn F; refine (Calls.mono HC.out) ?_; rintro e w4 ⟨v4, rfl, ho4, b4⟩; (have BW := Lib.hid (show Below w.heap.size w w4 from (Below.refl w.heap.size w).drew.trans b4)); (have OW := Lib.hid (show w4.ownsRow w.heap.size 9 1 v4 xs.length (xs.map Value.string) from ho4)); (have q1 : w4.cell? ⟨bn, 0, none⟩ = some (.slice N ns.length cn) := (HNV.out.below BW.out).cell 0 _ rfl)))
  all_goals
    have BB := BW.out.grown hgrow5 BW.out.size (fun g e => (OW.out.lt g e).1)
    have FIN := Lib.hid (show GaveW w (xs ++ ns) (.returned v5) w5 from ⟨v5, rfl, by simpa using hown5, BB⟩)
    clear hown5 hgrow5 hwh5 BB
    go_wp2
    go_ret
    exact FIN.out

set_option maxHeartbeats 4000000 in
set_option maxRecDepth 100000 in
theorem withNames (sv : Value) (N : Option Addr) (cn : Nat) (xs ns : List ByteArray) (w : World) (hs : Scoped w sv xs) (hn : ArgS Rep.str w N ns.length cn ns) (hl : xs.length + ns.length ≤ 1000000000) :
    Calls Try.prog 49 #[sv, .slice N ns.length cn] w fun e w' => ∃ v, e = .returned v ∧ Scoped w' v (xs ++ ns) ∧ Below w.heap.size w w' := by
  have hs0 := hs
  obtain ⟨F, lb, rfl, eg, _⟩ := hs0
  have eg2 : ∀ args W, (callFunc 83 args).run Try.prog W = .ok (.enter 83 args) W := enters_of Try.func83 (by kernel_rfl) rfl
  have b0 : Below w.heap.size w ((w.alloc (Obj.cells #[Value.func (Fn.func F) #[] lb] 92)).alloc (Obj.cells #[Value.slice N ns.length cn] 27)) := ((Below.refl _ _).alloc (Nat.le_refl _) _).alloc (by simp) _
  have V0 := (Lvar.new w #[Value.func (Fn.func F) #[] lb] 92).alloc (Obj.cells #[Value.slice N ns.length cn] 27)
  have V1 := Lvar.new (w.alloc (Obj.cells #[Value.func (Fn.func F) #[] lb] 92)) #[Value.slice N ns.length cn] 27
  simp only [World.size_alloc] at V1
  have FIN := Lib.hid (show Scoped ((w.alloc (Obj.cells #[Value.func (Fn.func F) #[] lb] 92)).alloc (Obj.cells #[Value.slice N ns.length cn] 27)) (.func (.func 83) #[] #[.pointer (some ⟨w.heap.size, 0, none⟩), .pointer (some ⟨w.heap.size + 1, 0, none⟩)]) (xs ++ ns) from
    ⟨_, _, rfl, eg2, fun W h => callWith w.heap.size (w.heap.size + 1) _ N cn xs ns W (V0.below h) (V1.below h) (hs.below (below_step b0 h)) (hn.below (below_step b0 h)) hl⟩)
  have B0 := Lib.hid b0
  clear hs hn eg eg2 V0 V1 b0
  go_enter Try.func49, Try.ntmps49
  go_wp2
  go_ret
  exact ⟨_, rfl, FIN.out, B0.out⟩

set_option maxHeartbeats 4000000 in
set_option maxRecDepth 100000 in
theorem opening (z0 : ByteArray) (A1 : Option Addr) (c1 : Nat) (x1 : List ByteArray) (z2 : Bool) (A3 : Option Addr) (c3 : Nat) (x3 : List (Int × List Int)) (Q : Option Addr) (cq : Nat) (ps : List PatternT) (w : World)
    (h1 : ArgS Rep.str w A1 x1.length c1 x1) (hp : ArgS pat w Q ps.length cq ps) (hl : x1.length ≤ 100000000) (hl2 : ps.length ≤ 100000000) :
    Calls Try.prog 48 #[.agg #[.string z0, .slice A1 x1.length c1, .bool z2, .slice A3 x3.length c3], .slice Q ps.length cq] w fun e w' => ∃ v, e = .returned v ∧ Scoped w' v (x1 ++ nmP ps) ∧ Below w.heap.size w w' := by
  have eg2 : ∀ args W, (callFunc 81 args).run Try.prog W = .ok (.enter 81 args) W := enters_of Try.func81 (by kernel_rfl) rfl
  have b0 : Below w.heap.size w (w.alloc (Obj.cells #[Value.string z0, Value.slice A1 x1.length c1, Value.bool z2, Value.slice A3 x3.length c3] 30)) := (Below.refl _ _).alloc (Nat.le_refl _) _
  have B0 := Lib.hid b0
  have V0 := Lvar.new w #[Value.string z0, Value.slice A1 x1.length c1, Value.bool z2, Value.slice A3 x3.length c3] 30
  have S0 : Scoped (w.alloc (Obj.cells #[Value.string z0, Value.slice A1 x1.length c1, Value.bool z2, Value.slice A3 x3.length c3] 30)) (.func (.func 81) #[] #[.pointer (some ⟨w.heap.size, 0, none⟩)]) x1 :=
    ⟨_, _, rfl, eg2, fun W h => callParams w.heap.size z0 A1 c1 x1 z2 _ W (V0.below h) (h1.below (below_step b0 h)) hl⟩
  have SS := Lib.hid S0
  have NP := Lib.hid (namesOfP Q cq ps _ (hp.below b0) hl2)
  have hnl := nmP_len ps
  have HW := Lib.hid (fun (N : Option Addr) (cn : Nat) (W : World) (h : Below (w.alloc (Obj.cells #[Value.string z0, Value.slice A1 x1.length c1, Value.bool z2, Value.slice A3 x3.length c3] 30)).heap.size (w.alloc (Obj.cells #[Value.string z0, Value.slice A1 x1.length c1, Value.bool z2, Value.slice A3 x3.length c3] 30)) W) (hn : ArgS Rep.str W N (nmP ps).length cn (nmP ps)) =>
    withNames _ N cn x1 (nmP ps) W (S0.below h) hn (by omega))
  clear eg2 b0 V0 S0 h1 hp
  go_enter Try.func48, Try.ntmps48
  go_wp2_with fail
  refine (Calls.mono NP.out) ?_
  rintro e w1 ⟨N, cn, rfl, oN, b1⟩
  have HW1 := Lib.hid (HW.out N cn w1 b1 oN.arg)
  have B1 := Lib.hid (below_step B0.out b1)
  clear oN b1
  go_wp2_with fail
  refine (Calls.mono HW1.out) ?_
  rintro e w2 ⟨v, rfl, hS, b2⟩
  have F := Lib.hid (show Scoped w2 v (x1 ++ nmP ps) ∧ Below w.heap.size w w2 from ⟨hS, below_step B1.out b2⟩)
  obtain ⟨F9, lb9, rfl, _, _⟩ := hS
  clear b2
  go_wp2
  go_ret
  exact ⟨_, rfl, F.out⟩
end ProgI
end Go.Proofs.Ytaaceggedjcbpaa
