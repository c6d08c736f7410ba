import Derived.Test.YtbdpohcababccaaGreatPgmFind2
import Derived.Test.YtbdpohcababccaaGreatAppend4
import Derived.Test.YtbdpohcababccaaGreatPgmFindS
import Derived.Deep.RegionLaw
import Derived.Handy
import Derived.Test.YtbdpohcababccaaGreatPgmArg
import Derived.Deep.DeepCutAuto
/-
  The names that are visible: those of patterns; scopes as closures (the program).
-/
namespace Go.Proofs.YtbdpohcababccaaGreat
open Go.RowKit
namespace ProgI
open RowK Mem

/-- The names of patterns. -/
def nmP1 (p : PatternT) : List ByteArray := if p.2.1 then [p.2.2.1, p.2.2.2] else []
def nmP (ps : List PatternT) : List ByteArray := ps.flatMap nmP1
theorem nmP_snoc (ps : List PatternT) (p : PatternT) : nmP (ps ++ [p]) = nmP ps ++ nmP1 p := by simp [nmP]
theorem nmP_len : ∀ ps : List PatternT, (nmP ps).length ≤ 2 * ps.length
  | [] => by simp [nmP]
  | p :: ps => by
    have h := nmP_len ps
    have h2 : nmP (p :: ps) = nmP1 p ++ nmP ps := by simp [nmP]
    rw [h2, List.length_append, List.length_cons]
    have h3 : (nmP1 p).length ≤ 2 := by unfold nmP1; split <;> simp
    omega
def Names10 (w : World) (v : Value) (done : List ByteArray) (wr : World) : Prop := wr.ownsRow w.heap.size 9 1 v done.length (done.map Value.string) ∧ Below w.heap.size w wr
/-- Strings in new memory. -/
def GaveS (w : World) (ss : List ByteArray) (e : Ending) (w' : World) : Prop := ∃ A c, e = .returned (.slice A ss.length c) ∧ OwnS Rep.str w.heap.size w'.heap.size w' A ss.length c ss ∧ Below w.heap.size w w'
theorem gave_own {w w' : World} {v : Value} {ss : List ByteArray} (h : w'.ownsRow w.heap.size 9 1 v ss.length (ss.map Value.string)) (hb : Below w.heap.size w w') : GaveS w ss (.returned v) w' := by
  obtain ⟨B, d, e, h1, h2, h3, h4⟩ := StrK.of_own h
  have hr := strs_close (q := true) h1 (fun _ => h2) h4
  refine ⟨B, d, by rw [e], ⟨Nat.le_refl _, _, hr, fpS_nodup _ _, fun b hb' => ⟨?_, (Rep.slice Rep.str).lt hr b hb'⟩⟩, hb⟩
  unfold fpS at hb'
  split at hb'
  · cases hb'
  · cases hB : B with
    | none => rw [hB] at hb'; cases hb'
    | some a =>
      rw [hB] at hb'
      simp at hb'
      rw [hb']
      exact h3 a hB

set_option maxHeartbeats 4000000 in
set_option maxRecDepth 100000 in
theorem namesOfP (A : Option Addr) (c : Nat) (ps : List PatternT) (w : World) (hA : ArgS pat w A ps.length c ps) (hl : ps.length ≤ 100000000) :
    Calls Tryz.prog 83 #[.slice A ps.length c] w (GaveS w (nmP ps)) := by
  obtain ⟨i0, hi, hz0, hz1, hz2⟩ := info_parts strInfoU
  have HA := Lib.hid hA
  clear hA
  go_enter Tryz.func83, Tryz.ntmps83
  go_wp2
  go_loopw [3, 8] (fun v i wr => ∃ (k : Nat) (done : List ByteArray), k ≤ ps.length ∧ i = .int .i64 k ∧ Hid (done = nmP (ps.take k)) ∧ Names10 w v done wr) (fun _ i _ => ps.length - (intOf i).toNat)
  case atStart => exact ⟨0, [], Nat.zero_le _, rfl, Lib.hid rfl, World.ownsRow_nil w _ _ _, Below.refl _ _⟩
  case round =>
    obtain ⟨k, done, hk, rfl, hdone, hN⟩ := hrel
    have HD := Lib.hid hdone.out
    have HN := Lib.hid hN
    have hdl : done.length ≤ 200000000 := by
      have h1 := nmP_len (ps.take k)
      rw [HD.out]
      rw [List.length_take] at h1
      omega
    clear hN hdone
    by_cases hlt : k < ps.length
    · obtain ⟨b, o, rfl, hbb, g0, g1, g2, g3⟩ := (HA.out.below HN.out.2).pat_at hlt
      have HST := Lib.hid (show nmP (ps.take (k + 1)) = nmP (ps.take k) ++ nmP1 ps[k] by rw [take_snoc hlt, nmP_snoc])
      generalize ps[k] = x at *
      obtain ⟨z0, z1, z2, z3⟩ := x
      simp only at g0 g1 g2 g3
      have hi0 : (0 : Int) ≤ (k : Int) := by omega
      have hi1 : (k : Int) < (ps.length : Int) := by omega
      have hd : Below wr.heap.size wr (wr.alloc (Obj.cells #[Value.string z0, Value.bool z1, Value.string z2, Value.string z3] 101)) := (Below.refl _ _).alloc (Nat.le_refl _) _
      have HDD := Lib.hid hd
      clear hd
      cases z1 with
      | true =>
        have HF := Lib.hid (show done ++ [z2, z3] = nmP (ps.take (k + 1)) by rw [HST.out, HD.out]; rfl)
        have hown := HN.out.1
        have RN := Lib.hid (show Row 0 ((wr.alloc (Obj.cells #[Value.string z0, Value.bool true, Value.string z2, Value.string z3] 101)).alloc (Obj.cells #[Value.string z2, Value.string z3] 9)).heap.size ((wr.alloc (Obj.cells #[Value.string z0, Value.bool true, Value.string z2, Value.string z3] 101)).alloc (Obj.cells #[Value.string z2, Value.string z3] 9)) (some ⟨wr.heap.size + 1, 0, none⟩) [.string z2, .string z3] from by have h9 := row_new (heap_alloc_new (wr.alloc (Obj.cells #[Value.string z0, Value.bool true, Value.string z2, Value.string z3] 101)) (Obj.cells #[Value.string z2, Value.string z3] 9)); simp only [World.size_alloc] at h9 ⊢; exact h9)
        go_wp2_with (at_builtin; (refine wpList_append_rowW rfl _ _ _ rfl 9 i0 (.string ByteArray.empty) 1 16 w.heap.size Tryz.underlying30 hi hz0 hz1 hz2 rfl (by decide) _ done.length (done.map Value.string) rfl ((hown.alloc _).alloc _) _ 2 _ [.string z2, .string z3] rfl rfl RN.out (by simp [Value.oneCell']) (by unfold maxLen; omega) (by omega) (by have := HN.out.2.size; simp; omega) ?_); intro v1 w1 hown1 hgrow hwh)
        have BB : Below w.heap.size w w1 := ((HN.out.2.trans (HDD.out.mono HN.out.2.size)).alloc (by have := HN.out.2.size; simp; omega) (Obj.cells #[Value.string z2, Value.string z3] 9)).grown hgrow (by have := HN.out.2.size; simp; omega) (fun g e => (hown.lt g e).1)
        have NN := Lib.hid (show Names10 w v1 (done ++ [z2, z3]) w1 from ⟨by simpa using hown1, BB⟩)
        clear hown1 hgrow hwh hown BB
        go_wp2
        go_roundw
        case rel => exact ⟨k + 1, done ++ [z2, z3], by omega, by go_num, HF, NN.out⟩
        case measure => simp [intOf]; omega
      | false =>
        have HF := Lib.hid (show done = nmP (ps.take (k + 1)) by rw [HST.out, HD.out]; simp [nmP1])
        have NN := Lib.hid (show Names10 w _ done _ from ⟨HN.out.1.alloc _, HN.out.2.trans (HDD.out.mono HN.out.2.size)⟩)
        go_wp2
        go_roundw
        case rel => exact ⟨k + 1, done, by omega, by go_num, HF, NN.out⟩
        case measure => simp [intOf]; omega
    · obtain rfl : k = ps.length := by omega
      have HF := Lib.hid (show done = nmP ps by rw [HD.out, List.take_length])
      have F := Lib.hid (gave_own HN.out.1 HN.out.2)
      rw [HF.out] at F
      go_wp2
      go_ret
      exact F.out
end ProgI
end Go.Proofs.YtbdpohcababccaaGreat

/-
  Scopes as closures that extend each other (the program).
-/
namespace Go.Proofs.YtbdpohcababccaaGreat
open Go.RowKit
namespace ProgI
open RowK Mem

theorem own_base {w : World} {b b' size n : Nat} {e : TypeId} {v : Value} {xs : List Value} (h : w.ownsRow b e size v n xs) (hb : b' ≤ b) : w.ownsRow b' e size v n xs :=
  ⟨h.1, h.2.imp id (fun ⟨g, cap, cur, e, hg, r⟩ => ⟨g, cap, cur, e, Nat.le_trans hb hg, r⟩)⟩
/-- Strings in a row of the call's own. -/
def GaveW (w : World) (ss : List ByteArray) (e : Ending) (w' : World) : Prop := ∃ v, e = .returned v ∧ w'.ownsRow w.heap.size 9 1 v ss.length (ss.map Value.string) ∧ Below w.heap.size w w'
theorem cloneW (A : Option Addr) (c : Nat) (ss : List ByteArray) (w : World) (hA : ArgS Rep.str w A ss.length c ss) (hl : ss.length ≤ 100000000) :
    Calls Tryz.prog 82 #[.slice A ss.length c] w (GaveW w ss) := by
  obtain ⟨q, fp, hA⟩ := hA
  obtain ⟨hr, _⟩ := strs_open hA
  by_cases hn : ss = []
  · subst hn
    cases A with
    | none =>
      refine (Tryz.slices_Clone_string_nil _ _ _).mono ?_
      rintro e w' ⟨rfl, rfl⟩
      exact ⟨_, rfl, World.ownsRow_nil _ _ _ _, Below.refl _ _⟩
    | some a =>
      refine (Tryz.slices_Clone_string_zero a c w).mono ?_
      rintro e w' ⟨v, rfl, h, _, hb⟩
      exact ⟨v, rfl, h, hb⟩
  · obtain ⟨b, o, rfl, hlt, hc⟩ := hr hn
    refine (Tryz.slices_Clone_string b o ss.length c ss w (Nat.le_refl _) (by omega) (fun j hj => ?_)).mono ?_
    · rw [hc j ss[j] (List.getElem?_eq_getElem hj)]
      simp [List.getD, List.getElem?_eq_getElem hj]
    · rintro e w' ⟨v, rfl, h, _, hb⟩
      rw [List.take_length] at h
      exact ⟨v, rfl, h, hb⟩
/-- A scope: a closure that hands back these names, each time in new memory. -/
def Scoped (w : World) (v : Value) (ss : List ByteArray) : Prop :=
  ∃ F lb, v = .func (.func F) #[] lb ∧ (∀ args W, (callFunc F args).run Tryz.prog W = .ok (.enter F args) W) ∧ ∀ W, Below w.heap.size w W → Calls Tryz.prog F lb W (GaveW W ss)
theorem Scoped.below {w w' : World} {v : Value} {ss : List ByteArray} (h : Scoped w v ss) (hb : Below w.heap.size w w') : Scoped w' v ss := by
  obtain ⟨F, lb, h1, h2, h3⟩ := h
  exact ⟨F, lb, h1, h2, fun W h => h3 W (hb.trans (h.mono hb.size))⟩

set_option maxHeartbeats 4000000 in
set_option maxRecDepth 100000 in
theorem callParams (b : Nat) (z0 : ByteArray) (A1 : Option Addr) (c1 : Nat) (x1 : List ByteArray) (z2 : Bool) (v3 : Value) (w : World) (hV : Lvar w b #[.string z0, .slice A1 x1.length c1, .bool z2, v3]) (h1 : ArgS Rep.str w A1 x1.length c1 x1) (hl : x1.length ≤ 100000000) :
    Calls Tryz.prog 81 #[.pointer (some ⟨b, 0, none⟩)] w (GaveW w x1) := by
  have hc : w.cell? ⟨b, 1, none⟩ = some (.slice A1 x1.length c1) := hV.cell 1 _ rfl
  have CL := Lib.hid (cloneW A1 c1 x1 w h1 hl)
  clear h1
  go_enter Tryz.func81, Tryz.ntmps81
  go_wp2_with fail
  refine (Calls.mono CL.out) ?_
  rintro e w1 ⟨v, rfl, h, hb⟩
  have F := Lib.hid (show GaveW w x1 (.returned v) w1 from ⟨v, rfl, h, hb⟩)
  clear h hb
  go_wp2
  go_ret
  exact F.out

set_option maxHeartbeats 4000000 in
set_option maxRecDepth 100000 in
theorem callWith (bs bn : Nat) (sv : Value) (N : Option Addr) (cn : Nat) (xs ns : List ByteArray) (w : World) (hS : Lvar w bs #[sv]) (hN : Lvar w bn #[.slice N ns.length cn]) (hs : Scoped w sv xs) (hn : ArgS Rep.str w N ns.length cn ns) (hl : xs.length + ns.length ≤ 1000000000) :
    Calls Tryz.prog 84 #[.pointer (some ⟨bs, 0, none⟩), .pointer (some ⟨bn, 0, none⟩)] w (GaveW w (xs ++ ns)) := by
  obtain ⟨i0, hi, hz0, hz1, hz2⟩ := info_parts strInfoU
  have HI := Lib.hid hi
  have HZ0 := Lib.hid hz0
  have HZ1 := Lib.hid hz1
  have HZ2 := Lib.hid hz2
  have hu := Lib.hid Tryz.underlying30
  obtain ⟨F, lb, rfl, eg, hcall⟩ := hs
  have c0 : w.cell? ⟨bs, 0, none⟩ = some (.func (.func F) #[] lb) := hS.cell 0 _ rfl
  have c1 : w.cell? ⟨bn, 0, none⟩ = some (.slice N ns.length cn) := hN.cell 0 _ rfl
  have HC := Lib.hid (hcall w.drew (Below.refl _ _).drew)
  have HNV := Lib.hid hN
  have HNR := Lib.hid (fun W (h : Below w.heap.size w W) => ProgS.str_row (hn.below h))
  clear hi hz0 hz1 hz2 hn hcall hS hN
  go_enter Tryz.func84, Tryz.ntmps84
  go_wp2_with fail
  go_region_law (first
    | (refine step_append_rowW rfl _ _ _ rfl 9 i0 (.string ByteArray.empty) 1 16 w.heap.size hu.out HI.out HZ0.out HZ1.out HZ2.out rfl (by decide) _ xs.length (xs.map Value.string) rfl OW.out N ns.length cn (ns.map Value.string) rfl (by simp) (HNR.out _ BW.out) (by simp [Value.oneCell']) (by unfold maxLen; omega) (by omega) BW.out.size ?_; intro v5 w5 hown5 hgrow5 hwh5)
    | (go_simp; go_at_fn F; refine (Calls.mono HC.out) ?_; rintro e w4 ⟨v4, rfl, ho4, b4⟩; (have BW := Lib.hid (show Below w.heap.size w w4 from (Below.refl w.heap.size w).drew.trans b4)); (have OW := Lib.hid (show w4.ownsRow w.heap.size 9 1 v4 xs.length (xs.map Value.string) from ho4)); (have q1 : w4.cell? ⟨bn, 0, none⟩ = some (.slice N ns.length cn) := (HNV.out.below BW.out).cell 0 _ rfl)))
  all_goals
    have BB := BW.out.grown hgrow5 BW.out.size (fun g e => (OW.out.lt g e).1)
    have FIN := Lib.hid (show GaveW w (xs ++ ns) (.returned v5) w5 from ⟨v5, rfl, by simpa using hown5, BB⟩)
    clear hown5 hgrow5 hwh5 BB
    go_wp2
    go_ret
    exact FIN.out

set_option maxHeartbeats 4000000 in
set_option maxRecDepth 100000 in
theorem withNames (sv : Value) (N : Option Addr) (cn : Nat) (xs ns : List ByteArray) (w : World) (hs : Scoped w sv xs) (hn : ArgS Rep.str w N ns.length cn ns) (hl : xs.length + ns.length ≤ 1000000000) :
    Calls Tryz.prog 34 #[sv, .slice N ns.length cn] w fun e w' => ∃ v, e = .returned v ∧ Scoped w' v (xs ++ ns) ∧ Below w.heap.size w w' := by
  have hs0 := hs
  obtain ⟨F, lb, rfl, eg, _⟩ := hs0
  have eg2 : ∀ args W, (callFunc 84 args).run Tryz.prog W = .ok (.enter 84 args) W := enters_of Tryz.func84 (by kernel_rfl) rfl
  have b0 : Below w.heap.size w ((w.alloc (Obj.cells #[Value.func (Fn.func F) #[] lb] 84)).alloc (Obj.cells #[Value.slice N ns.length cn] 30)) := ((Below.refl _ _).alloc (Nat.le_refl _) _).alloc (by simp) _
  have V0 := (Lvar.new w #[Value.func (Fn.func F) #[] lb] 84).alloc (Obj.cells #[Value.slice N ns.length cn] 30)
  have V1 := Lvar.new (w.alloc (Obj.cells #[Value.func (Fn.func F) #[] lb] 84)) #[Value.slice N ns.length cn] 30
  simp only [World.size_alloc] at V1
  have FIN := Lib.hid (show Scoped ((w.alloc (Obj.cells #[Value.func (Fn.func F) #[] lb] 84)).alloc (Obj.cells #[Value.slice N ns.length cn] 30)) (.func (.func 84) #[] #[.pointer (some ⟨w.heap.size, 0, none⟩), .pointer (some ⟨w.heap.size + 1, 0, none⟩)]) (xs ++ ns) from
    ⟨_, _, rfl, eg2, fun W h => callWith w.heap.size (w.heap.size + 1) _ N cn xs ns W (V0.below h) (V1.below h) (hs.below (below_step b0 h)) (hn.below (below_step b0 h)) hl⟩)
  have B0 := Lib.hid b0
  clear hs hn eg eg2 V0 V1 b0
  go_enter Tryz.func34, Tryz.ntmps34
  go_wp2
  go_ret
  exact ⟨_, rfl, FIN.out, B0.out⟩

set_option maxHeartbeats 4000000 in
set_option maxRecDepth 100000 in
theorem opening (z0 : ByteArray) (A1 : Option Addr) (c1 : Nat) (x1 : List ByteArray) (z2 : Bool) (A3 : Option Addr) (c3 : Nat) (x3 : List (Int × List Int)) (Q : Option Addr) (cq : Nat) (ps : List PatternT) (w : World)
    (h1 : ArgS Rep.str w A1 x1.length c1 x1) (hp : ArgS pat w Q ps.length cq ps) (hl : x1.length ≤ 100000000) (hl2 : ps.length ≤ 100000000) :
    Calls Tryz.prog 33 #[.agg #[.string z0, .slice A1 x1.length c1, .bool z2, .slice A3 x3.length c3], .slice Q ps.length cq] w fun e w' => ∃ v, e = .returned v ∧ Scoped w' v (x1 ++ nmP ps) ∧ Below w.heap.size w w' := by
  have eg2 : ∀ args W, (callFunc 81 args).run Tryz.prog W = .ok (.enter 81 args) W := enters_of Tryz.func81 (by kernel_rfl) rfl
  have b0 : Below w.heap.size w (w.alloc (Obj.cells #[Value.string z0, Value.slice A1 x1.length c1, Value.bool z2, Value.slice A3 x3.length c3] 41)) := (Below.refl _ _).alloc (Nat.le_refl _) _
  have B0 := Lib.hid b0
  have V0 := Lvar.new w #[Value.string z0, Value.slice A1 x1.length c1, Value.bool z2, Value.slice A3 x3.length c3] 41
  have S0 : Scoped (w.alloc (Obj.cells #[Value.string z0, Value.slice A1 x1.length c1, Value.bool z2, Value.slice A3 x3.length c3] 41)) (.func (.func 81) #[] #[.pointer (some ⟨w.heap.size, 0, none⟩)]) x1 :=
    ⟨_, _, rfl, eg2, fun W h => callParams w.heap.size z0 A1 c1 x1 z2 _ W (V0.below h) (h1.below (below_step b0 h)) hl⟩
  have SS := Lib.hid S0
  have NP := Lib.hid (namesOfP Q cq ps _ (hp.below b0) hl2)
  have hnl := nmP_len ps
  have HW := Lib.hid (fun (N : Option Addr) (cn : Nat) (W : World) (h : Below (w.alloc (Obj.cells #[Value.string z0, Value.slice A1 x1.length c1, Value.bool z2, Value.slice A3 x3.length c3] 41)).heap.size (w.alloc (Obj.cells #[Value.string z0, Value.slice A1 x1.length c1, Value.bool z2, Value.slice A3 x3.length c3] 41)) W) (hn : ArgS Rep.str W N (nmP ps).length cn (nmP ps)) =>
    withNames _ N cn x1 (nmP ps) W (S0.below h) hn (by omega))
  clear eg2 b0 V0 S0 h1 hp
  go_enter Tryz.func33, Tryz.ntmps33
  go_wp2_with fail
  refine (Calls.mono NP.out) ?_
  rintro e w1 ⟨N, cn, rfl, oN, b1⟩
  have HW1 := Lib.hid (HW.out N cn w1 b1 oN.arg)
  have B1 := Lib.hid (below_step B0.out b1)
  clear oN b1
  go_wp2_with fail
  refine (Calls.mono HW1.out) ?_
  rintro e w2 ⟨v, rfl, hS, b2⟩
  have F := Lib.hid (show Scoped w2 v (x1 ++ nmP ps) ∧ Below w.heap.size w w2 from ⟨hS, below_step B1.out b2⟩)
  obtain ⟨F9, lb9, rfl, _, _⟩ := hS
  clear b2
  go_wp2
  go_ret
  exact ⟨_, rfl, F.out⟩
end ProgI
end Go.Proofs.YtbdpohcababccaaGreat

/-
  ScopeOf, of the program.
-/
namespace Go.Proofs.YtbdpohcababccaaGreat
open Go.RowKit
namespace ProgI
open RowK Mem

/-- The names that the first calls bind. -/
def nmC (cs : List CallT) : List ByteArray := cs.map (·.1)
/-- The names that are visible. -/
def scopeM (fs : List FunctionT) (z0 : ByteArray) (ps : List PatternT) (cs : List CallT) (n : Int) : List ByteArray :=
  match findF fs z0 with
  | none => []
  | some f => if 0 ≤ n ∧ n ≤ (cs.length : Int) then f.2.1 ++ nmP ps ++ nmC (cs.take n.toNat) else []
theorem arg_fn {w : World} {A1 A3 : Option Addr} {c1 c3 : Nat} {z0 : ByteArray} {x1 : List ByteArray} {z2 : Bool} {x3 : List (Int × List Int)} (h : ArgR fn w [.string z0, .slice A1 x1.length c1, .bool z2, .slice A3 x3.length c3] (z0, x1, z2, x3)) : ArgS Rep.str w A1 x1.length c1 x1 ∧ ArgS lin w A3 x3.length c3 x3 := by
  obtain ⟨q, fp, h⟩ := h
  obtain ⟨f1, f3, _, h1, h3⟩ := fn_parts h
  exact ⟨⟨q, f1, h1⟩, q, f3, h3⟩
theorem nmC_snoc (cs : List CallT) (x : CallT) : nmC (cs ++ [x]) = nmC cs ++ [x.1] := by simp [nmC]
theorem gaveS_nil {w w' : World} (hb : Below w.heap.size w w') : GaveS w [] (.returned (.slice none 0 0)) w' := ⟨none, 0, rfl, OwnS.nil _ _ _ _ (Nat.le_refl _), hb⟩

set_option maxHeartbeats 4000000 in
set_option maxRecDepth 100000 in
theorem scopeOf (A B : Option Addr) (m c d : Nat) (fs : List FunctionT) (z0 : ByteArray) (A1 : Option Addr) (c1 : Nat) (x1 : List PatternT) (A2 : Option Addr) (c2 : Nat) (x2 : List SumT) (A3 : Option Addr) (c3 : Nat) (x3 : List CallT) (z4 : Bool) (A5 : Option Addr) (c5 : Nat) (x5 : List SumT) (z6 : ByteArray) (n : Int) (w : World)
    (hA : ArgS fn w A fs.length c fs) (hl : fs.length + szs szFunctionU fs ≤ 100000000) (h1 : ArgS pat w A1 x1.length c1 x1) (h3 : ArgS call w A3 x3.length c3 x3) (hl1 : x1.length ≤ 100000000) (hl3 : x3.length ≤ 100000000) :
    Calls Tryz.prog 10 #[.agg #[.slice A fs.length c, .slice B m d], .agg #[.string z0, .slice A1 x1.length c1, .slice A2 x2.length c2, .slice A3 x3.length c3, .bool z4, .slice A5 x5.length c5, .string z6], .int .i64 n] w (GaveS w (scopeM fs z0 x1 x3 n)) := by
  obtain ⟨i0, hi, hz0, hz1, hz2⟩ := info_parts strInfoU
  have b0 : Below w.heap.size w ((w.alloc (Obj.cells #[Value.slice A fs.length c, Value.slice B m d] 27)).alloc (Obj.cells #[Value.string z0, Value.slice A1 x1.length c1, Value.slice A2 x2.length c2, Value.slice A3 x3.length c3, Value.bool z4, Value.slice A5 x5.length c5, Value.string z6] 38)) := ((Below.refl _ _).alloc (Nat.le_refl _) _).alloc (by simp) _
  have B0 := Lib.hid b0
  have V0 := Lvar.new (w.alloc (Obj.cells #[Value.slice A fs.length c, Value.slice B m d] 27)) #[Value.string z0, Value.slice A1 x1.length c1, Value.slice A2 x2.length c2, Value.slice A3 x3.length c3, Value.bool z4, Value.slice A5 x5.length c5, Value.string z6] 38
  simp only [World.size_alloc] at V0
  have V0 := Lib.hid V0
  have FF := Lib.hid (find A B m c d fs z0 _ (hA.below b0) hl)
  have HP := Lib.hid h1
  have HC := Lib.hid h3
  have HFS := Lib.hid (find_small (nm := z0) hl)
  clear hA h1 h3 b0 hl
  go_enter Tryz.func10, Tryz.ntmps10
  go_wp2_with fail
  refine (Calls.mono FF.out) ?_
  rintro e w1 ⟨D1, d1, D3, d3, rfl, o1, b1⟩
  have B1 := Lib.hid (below_step B0.out b1)
  have V1 := Lib.hid (V0.out.below b1)
  have O1 := Lib.hid o1
  have hz := b1.size
  simp only [World.size_alloc] at hz
  clear o1 b1
  have HS := Lib.hid (show scopeM fs z0 x1 x3 n = (match findF fs z0 with | none => [] | some f => if 0 ≤ n ∧ n ≤ (x3.length : Int) then f.2.1 ++ nmP x1 ++ nmC (x3.take n.toNat) else []) from rfl)
  cases hF : findF fs z0 with
  | none =>
    have HR := Lib.hid (show scopeM fs z0 x1 x3 n = [] by rw [HS.out, hF])
    have FIN := Lib.hid (gaveS_nil (w := w) (B1.out.alloc B1.out.size (Obj.cells #[Value.string ByteArray.empty, Value.slice D1 0 d1, Value.bool false, Value.slice D3 0 d3] 41)))
    simp only [Option.getD_none, Option.isSome_none, zeroF, List.length_nil]
    clear hF HS
    go_wp2
    go_ret
    rw [HR.out]
    exact FIN.out
  | some f =>
    rw [hF] at HS HFS
    obtain ⟨fz0, fx1, fz2, fx3⟩ := f
    have O2 := O1.out
    rw [hF] at O2
    have O2 := Lib.hid (OwnR.arg (show OwnR fn _ w1.heap.size w1 [.string fz0, .slice D1 fx1.length d1, .bool fz2, .slice D3 fx3.length d3] (fz0, fx1, fz2, fx3) from O2))
    have hfx : fx1.length ≤ 100000000 := by
      have h9 : szFunctionU (fz0, fx1, fz2, fx3) ≤ 100000000 := HFS.out
      simp only [szFunctionU] at h9
      omega
    simp only [Option.getD_some, Option.isSome_some]
    clear hF O1 HFS
    have V2 := Lib.hid (V1.out.alloc (Obj.cells #[Value.string fz0, Value.slice D1 fx1.length d1, Value.bool fz2, Value.slice D3 fx3.length d3] 41))
    have L2 := Lib.hid (Lvar.new w1 #[Value.string fz0, Value.slice D1 fx1.length d1, Value.bool fz2, Value.slice D3 fx3.length d3] 41)
    have B2 := Lib.hid (B1.out.alloc B1.out.size (Obj.cells #[Value.string fz0, Value.slice D1 fx1.length d1, Value.bool fz2, Value.slice D3 fx3.length d3] 41))
    have O3 := Lib.hid (O2.out.below ((Below.refl w1.heap.size w1).alloc (Nat.le_refl _) (Obj.cells #[Value.string fz0, Value.slice D1 fx1.length d1, Value.bool fz2, Value.slice D3 fx3.length d3] 41)))
    have hzw : w1.heap.size + 1 ≤ (w1.alloc (Obj.cells #[Value.string fz0, Value.slice D1 fx1.length d1, Value.bool fz2, Value.slice D3 fx3.length d3] 41)).heap.size := by simp
    clear O2 V1 V0 FF
    go_upto_region 2 with fail
    generalize w1.alloc (Obj.cells #[Value.string fz0, Value.slice D1 fx1.length d1, Value.bool fz2, Value.slice D3 fx3.length d3] 41) = w2 at *
    have r3 : w2.cell? ⟨w.heap.size + 1, 3, none⟩ = some (.slice A3 x3.length c3) := V2.out.cell 3 _ rfl
    by_cases hn0 : n < 0
    · have hd : decide (n < 0) = true := decide_eq_true hn0
      have HR := Lib.hid (show scopeM fs z0 x1 x3 n = [] by rw [HS.out]; exact if_neg (by omega))
      have FIN := Lib.hid (gaveS_nil B2.out)
      go_wp2
      go_ret
      rw [HR.out]
      exact FIN.out
    · have hd : decide (n < 0) = false := decide_eq_false hn0
      obtain ⟨k, rfl⟩ : ∃ k : Nat, n = (k : Int) := ⟨n.toNat, by omega⟩
      by_cases hn1 : k ≤ x3.length
      · have hd1 : decide ((k : Int) > (x3.length : Int)) = false := decide_eq_false (by omega)
        have HS2 := Lib.hid (show scopeM fs z0 x1 x3 (k : Int) = fx1 ++ nmP x1 ++ nmC (x3.take k) by rw [HS.out]; exact if_pos ⟨by omega, by omega⟩)
        have hk3 : (k : Int) ≤ (x3.length : Int) := by omega
        have hk9 : k ≤ 100000000 := by omega
        have hcc : (k : Int) ≤ (c3 : Int) := by
          have := (ArgS.cap HC.out).2
          omega
        clear HS hn0
        go_wp2
        go_loopw [9, 37] (fun v i wr => ∃ (j : Nat) (done : List ByteArray), j ≤ k ∧ i = .int .i64 j ∧ Hid (done = nmC (x3.take j)) ∧ Names10 w2 v done wr) (fun _ i _ => k - (intOf i).toNat)
        case atStart => exact ⟨0, [], Nat.zero_le _, rfl, Lib.hid rfl, World.ownsRow_nil w2 _ _ _, Below.refl _ _⟩
        case round =>
          obtain ⟨j, done, hj, rfl, hdone, hN⟩ := hrel
          have HD := Lib.hid hdone.out
          have HN := Lib.hid hN
          have hdl : done.length ≤ 100000000 := by
            rw [HD.out, nmC, List.length_map, List.length_take]
            omega
          clear hN hdone
          by_cases hlt : j < k
          · have hlt3 : j < x3.length := by omega
            have bw : Below w.heap.size w wr := B2.out.trans (HN.out.2.mono B2.out.size)
            obtain ⟨b, o, G, cg, rfl, hbb, g0, g1, g2, t2⟩ := (HC.out.below bw).call_at hlt3
            have HST := Lib.hid (show nmC (x3.take (j + 1)) = nmC (x3.take j) ++ [x3[j].1] by rw [take_snoc hlt3, nmC_snoc])
            clear t2 bw
            generalize x3[j] = x at *
            obtain ⟨zb, zf, xa⟩ := x
            simp only at g0 g1 g2
            have hi0 : (0 : Int) ≤ (j : Int) := by omega
            have hi1 : (j : Int) < (k : Int) := by omega
            have HDD := Lib.hid (show Below wr.heap.size wr (wr.alloc (Obj.cells #[Value.string zb, Value.string zf, Value.slice G xa.length cg] 82)) from (Below.refl _ _).alloc (Nat.le_refl _) _)
            have HF := Lib.hid (show done ++ [zb] = nmC (x3.take (j + 1)) by rw [HST.out, HD.out])
            have hown := HN.out.1
            have RN := Lib.hid (show Row 0 ((wr.alloc (Obj.cells #[Value.string zb, Value.string zf, Value.slice G xa.length cg] 82)).alloc (Obj.cells #[Value.string zb] 9)).heap.size ((wr.alloc (Obj.cells #[Value.string zb, Value.string zf, Value.slice G xa.length cg] 82)).alloc (Obj.cells #[Value.string zb] 9)) (some ⟨wr.heap.size + 1, 0, none⟩) [.string zb] from by have h9 := row_new (heap_alloc_new (wr.alloc (Obj.cells #[Value.string zb, Value.string zf, Value.slice G xa.length cg] 82)) (Obj.cells #[Value.string zb] 9)); simp only [World.size_alloc] at h9 ⊢; exact h9)
            go_wp2_with (at_builtin; (refine wpList_append_rowW rfl _ _ _ rfl 9 i0 (.string ByteArray.empty) 1 16 w2.heap.size Tryz.underlying30 hi hz0 hz1 hz2 rfl (by decide) _ done.length (done.map Value.string) rfl ((hown.alloc _).alloc _) _ 1 _ [.string zb] rfl rfl RN.out (by simp [Value.oneCell']) (by unfold maxLen; omega) (by omega) (by have := HN.out.2.size; simp; omega) ?_); intro v5 w5 hown5 hgrow hwh)
            have BB : Below w2.heap.size w2 w5 := ((HN.out.2.trans (HDD.out.mono HN.out.2.size)).alloc (by have := HN.out.2.size; simp; omega) (Obj.cells #[Value.string zb] 9)).grown hgrow (by have := HN.out.2.size; simp; omega) (fun g e => (hown.lt g e).1)
            have NN := Lib.hid (show Names10 w2 v5 (done ++ [zb]) w5 from ⟨by simpa using hown5, BB⟩)
            clear hown5 hgrow hwh hown BB
            go_wp2
            go_roundw
            case rel => exact ⟨_, _, _, ⟨j + 1, by omega, rfl, done ++ [zb], HF, NN.out⟩, rfl, rfl, by go_num⟩
            case measure => simp [intOf]; omega
          · obtain rfl : j = k := by omega
            obtain ⟨N, cn, hv, oN, _⟩ := gave_own HN.out.1 HN.out.2
            injection hv with hv
            subst hv
            have BW := Lib.hid (B2.out.trans (HN.out.2.mono B2.out.size))
            have LW := L2.out.below HN.out.2
            have l0 : wr.cell? ⟨w1.heap.size, 0, none⟩ = some (.string fz0) := LW.cell 0 _ rfl
            have l1 : wr.cell? ⟨w1.heap.size, 1, none⟩ = some (.slice D1 fx1.length d1) := LW.cell 1 _ rfl
            have l2 : wr.cell? ⟨w1.heap.size, 2, none⟩ = some (.bool fz2) := LW.cell 2 _ rfl
            have l3 : wr.cell? ⟨w1.heap.size, 3, none⟩ = some (.slice D3 fx3.length d3) := LW.cell 3 _ rfl
            have q1 : wr.cell? ⟨w.heap.size + 1, 1, none⟩ = some (.slice A1 x1.length c1) := (V2.out.below HN.out.2).cell 1 _ rfl
            have OP := Lib.hid (opening fz0 D1 d1 fx1 fz2 D3 d3 fx3 A1 c1 x1 wr (arg_fn (O3.out.below HN.out.2)).1 (HP.out.below BW.out) hfx hl1)
            have hnl := nmP_len x1
            have WN := Lib.hid (fun (sv : Value) (W : World) (hb : Below wr.heap.size wr W) (hs : Scoped W sv (fx1 ++ nmP x1)) => withNames sv N cn (fx1 ++ nmP x1) done W hs (oN.arg.below hb) (by rw [List.length_append]; omega))
            have HR := Lib.hid (show fx1 ++ nmP x1 ++ done = scopeM fs z0 x1 x3 (j : Int) by rw [HS2.out, HD.out])
            clear LW oN
            go_wp2_with fail
            refine (Calls.mono OP.out) ?_
            rintro e w3 ⟨sv, rfl, hS, b3⟩
            have WN1 := Lib.hid (WN.out sv w3 b3 hS)
            have B3 := Lib.hid (below_step BW.out b3)
            obtain ⟨F9, lb9, rfl, _, _⟩ := hS
            clear b3
            go_wp2_with fail
            refine (Calls.mono WN1.out) ?_
            rintro e w4 ⟨sv2, rfl, hS2, b4⟩
            have B4 := Lib.hid (below_step B3.out b4)
            obtain ⟨F, lb, rfl, eg, hcall⟩ := hS2
            have HCL := Lib.hid (hcall w4 (Below.refl _ _))
            clear b4 hcall
            go_wp2_with (go_at_fn F; refine (Calls.mono HCL.out) ?_; rintro e w5 ⟨v5, rfl, ho5, b5⟩)
            have FIN := Lib.hid (gave_own (w := w) (own_base ho5 B4.out.size) (below_step B4.out b5))
            clear ho5 b5
            go_wp2
            go_ret
            rw [← HR.out]
            exact FIN.out
      · have hd1 : decide ((k : Int) > (x3.length : Int)) = true := decide_eq_true (by omega)
        have HR := Lib.hid (show scopeM fs z0 x1 x3 (k : Int) = [] by rw [HS.out]; exact if_neg (by omega))
        have FIN := Lib.hid (gaveS_nil B2.out)
        go_wp2
        go_ret
        rw [HR.out]
        exact FIN.out
end ProgI
end Go.Proofs.YtbdpohcababccaaGreat
