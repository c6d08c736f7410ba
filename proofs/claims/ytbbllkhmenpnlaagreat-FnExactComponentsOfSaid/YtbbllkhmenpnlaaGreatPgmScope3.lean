import Derived.Test.YtbbllkhmenpnlaaGreatPgmFind2
import Derived.Test.YtbbllkhmenpnlaaGreatAppend4
import Derived.Test.YtbbllkhmenpnlaaGreatPgmFindT
import Derived.Deep.RegionLaw
import Derived.Handy
import Derived.Test.YtbbllkhmenpnlaaGreatPgmArg
import Derived.Deep.DeepCutAuto
/-
  The names that are visible: those of patterns; scopes as closures (the program).
-/
namespace Go.Proofs.YtbbllkhmenpnlaaGreat
open Go.RowKit
namespace ProgI
open RowK Mem

def nmP1 (p : PatternT) : List ByteArray := if p.2.1 then [p.2.2.1, p.2.2.2] else []
def nmP (ps : List PatternT) : List ByteArray := ps.flatMap nmP1
theorem nmP_snoc (ps : List PatternT) (p : PatternT) : nmP (ps ++ [p]) = nmP ps ++ nmP1 p := by simp [nmP]
theorem nmP_len : ∀ ps : List PatternT, (nmP ps).length ≤ 2 * ps.length
 | [] => by simp [nmP]
 | p :: ps => by
  have h := nmP_len ps
  have h2 : nmP (p :: ps) = nmP1 p ++ nmP ps := by simp [nmP]
  rw [h2, List.length_append, List.length_cons]
  have h3 : (nmP1 p).length ≤ 2 := by unfold nmP1; split <;> simp
  omega
def Names10 (w : World) (v : Value) (done : List ByteArray) (wr : World) : Prop := wr.ownsRow w.heap.size 9 1 v done.length (done.map Value.string) ∧ Below w.heap.size w wr
def GaveS (w : World) (ss : List ByteArray) (e : Ending) (w' : World) : Prop := ∃ A c, e = .returned (.slice A ss.length c) ∧ OwnS Rep.str w.heap.size w'.heap.size w' A ss.length c ss ∧ Below w.heap.size w w'
theorem gave_own {w w' : World} {v : Value} {ss : List ByteArray} (h : w'.ownsRow w.heap.size 9 1 v ss.length (ss.map Value.string)) (hb : Below w.heap.size w w') : GaveS w ss (.returned v) w' := by
 obtain ⟨B, d, e, h1, h2, h3, h4⟩ := StrK.of_own h
 have hr := strs_close (q := true) h1 (fun _ => h2) h4
 refine ⟨B, d, by rw [e], ⟨Nat.le_refl _, _, hr, fpS_nodup _ _, fun b hb' => ⟨?_, (Rep.slice Rep.str).lt hr b hb'⟩⟩, hb⟩
 unfold fpS at hb'
 split at hb'
 ·cases hb'
 ·cases hB : B with
  | none => rw [hB] at hb'; cases hb'
  | some a =>
   rw [hB] at hb'
   simp at hb'
   rw [hb']
   exact h3 a hB

set_option maxHeartbeats 4000000 in
set_option maxRecDepth 100000 in
theorem namesOfP (A : Option Addr) (c : Nat) (ps : List PatternT) (w : World) (hA : ArgS pat w A ps.length c ps) (hl : ps.length ≤ 100000000) :
  Calls Tryz.prog 175 #[.slice A ps.length c] w (GaveS w (nmP ps)) := by
 obtain ⟨i0, hi, hz0, hz1, hz2⟩ := info_parts strInfoU
 have HA := Lib.hid hA
 clear hA
 go_enter Tryz.func175, Tryz.ntmps175
 go_wp2
 go_loopw [3, 8] (fun v i wr => ∃ (k : Nat) (done : List ByteArray), k ≤ ps.length ∧ i = .int .i64 k ∧ Hid (done = nmP (ps.take k)) ∧ Names10 w v done wr) (fun _ i _ => ps.length - (intOf i).toNat)
 case atStart => exact ⟨0, [], Nat.zero_le _, rfl, Lib.hid rfl, World.ownsRow_nil w _ _ _, Below.refl _ _⟩
 case round =>
  obtain ⟨k, done, hk, rfl, hdone, hN⟩ := hrel
  have HD := Lib.hid hdone.out
  have HN := Lib.hid hN
  have hdl : done.length ≤ 200000000 := by
   have h1 := nmP_len (ps.take k)
   rw [HD.out]
   rw [List.length_take] at h1
   omega
  clear hN hdone
  by_cases hlt : k < ps.length
  ·obtain ⟨b, o, rfl, hbb, g0, g1, g2, g3⟩ := (HA.out.below HN.out.2).pat_at hlt
   have HST := Lib.hid (show nmP (ps.take (k + 1)) = nmP (ps.take k) ++ nmP1 ps[k] by rw [take_snoc hlt, nmP_snoc])
   generalize ps[k] = x at *
   obtain ⟨z0, z1, z2, z3⟩ := x
   simp only at g0 g1 g2 g3
   have hi0 : (0 : Int) ≤ (k : Int) := by omega
   have hi1 : (k : Int) < (ps.length : Int) := by omega
   have hd : Below wr.heap.size wr (wr.alloc (Obj.cells #[Value.string z0, Value.bool z1, Value.string z2, Value.string z3] 105)) := (Below.refl _ _).alloc (Nat.le_refl _) _
   have HDD := Lib.hid hd
   clear hd
   cases z1 with
   | true =>
    have HF := Lib.hid (show done ++ [z2, z3] = nmP (ps.take (k + 1)) by rw [HST.out, HD.out]; rfl)
    have hown := HN.out.1
    have RN := Lib.hid (show Row 0 ((wr.alloc (Obj.cells #[Value.string z0, Value.bool true, Value.string z2, Value.string z3] 105)).alloc (Obj.cells #[Value.string z2, Value.string z3] 9)).heap.size ((wr.alloc (Obj.cells #[Value.string z0, Value.bool true, Value.string z2, Value.string z3] 105)).alloc (Obj.cells #[Value.string z2, Value.string z3] 9)) (some ⟨wr.heap.size + 1, 0, none⟩) [.string z2, .string z3] from by have h9 := row_new (heap_alloc_new (wr.alloc (Obj.cells #[Value.string z0, Value.bool true, Value.string z2, Value.string z3] 105)) (Obj.cells #[Value.string z2, Value.string z3] 9)); simp only [World.size_alloc] at h9 ⊢; exact h9)
    go_wp2_with (at_builtin; (refine wpList_append_rowW rfl _ _ _ rfl 9 i0 (.string ByteArray.empty) 1 16 w.heap.size Tryz.underlying31 hi hz0 hz1 hz2 rfl (by decide) _ done.length (done.map Value.string) rfl ((hown.alloc _).alloc _) _ 2 _ [.string z2, .string z3] rfl rfl RN.out (by simp [Value.oneCell']) (by unfold maxLen; omega) (by omega) (by have := HN.out.2.size; simp; omega) ?_); intro v1 w1 hown1 hgrow hwh)
    have BB : Below w.heap.size w w1 := ((HN.out.2.trans (HDD.out.mono HN.out.2.size)).alloc (by have := HN.out.2.size; simp; omega) (Obj.cells #[Value.string z2, Value.string z3] 9)).grown hgrow (by have := HN.out.2.size; simp; omega) (fun g e => (hown.lt g e).1)
    have NN := Lib.hid (show Names10 w v1 (done ++ [z2, z3]) w1 from ⟨by simpa using hown1, BB⟩)
    clear hown1 hgrow hwh hown BB
    go_wp2
    go_roundw
    case rel => exact ⟨k + 1, done ++ [z2, z3], by omega, by go_num, HF, NN.out⟩
    case measure => simp [intOf]; omega
   | false =>
    have HF := Lib.hid (show done = nmP (ps.take (k + 1)) by rw [HST.out, HD.out]; simp [nmP1])
    have NN := Lib.hid (show Names10 w _ done _ from ⟨HN.out.1.alloc _, HN.out.2.trans (HDD.out.mono HN.out.2.size)⟩)
    go_wp2
    go_roundw
    case rel => exact ⟨k + 1, done, by omega, by go_num, HF, NN.out⟩
    case measure => simp [intOf]; omega
  ·obtain rfl : k = ps.length := by omega
   have HF := Lib.hid (show done = nmP ps by rw [HD.out, List.take_length])
   have F := Lib.hid (gave_own HN.out.1 HN.out.2)
   rw [HF.out] at F
   go_wp2
   go_ret
   exact F.out
end ProgI
end Go.Proofs.YtbbllkhmenpnlaaGreat

/-
  Scopes as closures that extend each other (the program).
-/
namespace Go.Proofs.YtbbllkhmenpnlaaGreat
open Go.RowKit
namespace ProgI
open RowK Mem

theorem own_base {w : World} {b b' size n : Nat} {e : TypeId} {v : Value} {xs : List Value} (h : w.ownsRow b e size v n xs) (hb : b' ≤ b) : w.ownsRow b' e size v n xs :=
 ⟨h.1, h.2.imp id (fun ⟨g, cap, cur, e, hg, r⟩ => ⟨g, cap, cur, e, Nat.le_trans hb hg, r⟩)⟩
def GaveW (w : World) (ss : List ByteArray) (e : Ending) (w' : World) : Prop := ∃ v, e = .returned v ∧ w'.ownsRow w.heap.size 9 1 v ss.length (ss.map Value.string) ∧ Below w.heap.size w w'
theorem cloneW (A : Option Addr) (c : Nat) (ss : List ByteArray) (w : World) (hA : ArgS Rep.str w A ss.length c ss) (hl : ss.length ≤ 100000000) :
  Calls Tryz.prog 164 #[.slice A ss.length c] w (GaveW w ss) := by
 obtain ⟨q, fp, hA⟩ := hA
 obtain ⟨hr, _⟩ := strs_open hA
 by_cases hn : ss = []
 ·subst hn
  cases A with
  | none =>
   refine (Tryz.slices_Clone_string_nil _ _ _).mono ?_
   rintro e w' ⟨rfl, rfl⟩
   exact ⟨_, rfl, World.ownsRow_nil _ _ _ _, Below.refl _ _⟩
  | some a =>
   refine (Tryz.slices_Clone_string_zero a c w).mono ?_
   rintro e w' ⟨v, rfl, h, _, hb⟩
   exact ⟨v, rfl, h, hb⟩
 ·obtain ⟨b, o, rfl, hlt, hc⟩ := hr hn
  refine (Tryz.slices_Clone_string b o ss.length c ss w (Nat.le_refl _) (by omega) (fun j hj => ?_)).mono ?_
  ·rw [hc j ss[j] (List.getElem?_eq_getElem hj)]
   simp [List.getD, List.getElem?_eq_getElem hj]
  ·rintro e w' ⟨v, rfl, h, _, hb⟩
   rw [List.take_length] at h
   exact ⟨v, rfl, h, hb⟩
def Scoped (w : World) (v : Value) (ss : List ByteArray) : Prop :=
 ∃ F lb, v = .func (.func F) #[] lb ∧ (∀ args W, (callFunc F args).run Tryz.prog W = .ok (.enter F args) W) ∧ ∀ W, Below w.heap.size w W → Calls Tryz.prog F lb W (GaveW W ss)
theorem Scoped.below {w w' : World} {v : Value} {ss : List ByteArray} (h : Scoped w v ss) (hb : Below w.heap.size w w') : Scoped w' v ss := by
 obtain ⟨F, lb, h1, h2, h3⟩ := h
 exact ⟨F, lb, h1, h2, fun W h => h3 W (hb.trans (h.mono hb.size))⟩

set_option maxHeartbeats 4000000 in
set_option maxRecDepth 100000 in
theorem callParams (b : Nat) (z0 : ByteArray) (A1 : Option Addr) (c1 : Nat) (x1 : List ByteArray) (z2 : Bool) (v3 : Value) (w : World) (hV : Lvar w b #[.string z0, .slice A1 x1.length c1, .bool z2, v3]) (h1 : ArgS Rep.str w A1 x1.length c1 x1) (hl : x1.length ≤ 100000000) :
  Calls Tryz.prog 174 #[.pointer (some ⟨b, 0, none⟩)] w (GaveW w x1) := by
 have hc : w.cell? ⟨b, 1, none⟩ = some (.slice A1 x1.length c1) := hV.cell 1 _ rfl
 have CL := Lib.hid (cloneW A1 c1 x1 w h1 hl)
 clear h1
 go_enter Tryz.func174, Tryz.ntmps174
 go_wp2_with fail
 refine (Calls.mono CL.out) ?_
 rintro e w1 ⟨v, rfl, h, hb⟩
 have F := Lib.hid (show GaveW w x1 (.returned v) w1 from ⟨v, rfl, h, hb⟩)
 clear h hb
 go_wp2
 go_ret
 exact F.out

set_option maxHeartbeats 4000000 in
set_option maxRecDepth 100000 in
theorem callWith (bs bn : Nat) (sv : Value) (N : Option Addr) (cn : Nat) (xs ns : List ByteArray) (w : World) (hS : Lvar w bs #[sv]) (hN : Lvar w bn #[.slice N ns.length cn]) (hs : Scoped w sv xs) (hn : ArgS Rep.str w N ns.length cn ns) (hl : xs.length + ns.length ≤ 1000000000) :
  Calls Tryz.prog 179 #[.pointer (some ⟨bs, 0, none⟩), .pointer (some ⟨bn, 0, none⟩)] w (GaveW w (xs ++ ns)) := by
 obtain ⟨i0, hi, hz0, hz1, hz2⟩ := info_parts strInfoU
 have HI := Lib.hid hi
 have HZ0 := Lib.hid hz0
 have HZ1 := Lib.hid hz1
 have HZ2 := Lib.hid hz2
 have hu := Lib.hid Tryz.underlying31
 obtain ⟨F, lb, rfl, eg, hcall⟩ := hs
 have c0 : w.cell? ⟨bs, 0, none⟩ = some (.func (.func F) #[] lb) := hS.cell 0 _ rfl
 have c1 : w.cell? ⟨bn, 0, none⟩ = some (.slice N ns.length cn) := hN.cell 0 _ rfl
 have HC := Lib.hid (hcall w.drew (Below.refl _ _).drew)
 have HNV := Lib.hid hN
 have HNR := Lib.hid (fun W (h : Below w.heap.size w W) => ProgS.str_row (hn.below h))
 clear hi hz0 hz1 hz2 hn hcall hS hN
 go_enter Tryz.func179, Tryz.ntmps179
 go_wp2_with fail
 go_region_law (first
  | (refine step_append_rowW rfl _ _ _ rfl 9 i0 (.string ByteArray.empty) 1 16 w.heap.size hu.out HI.out HZ0.out HZ1.out HZ2.out rfl (by decide) _ xs.length (xs.map Value.string) rfl OW.out N ns.length cn (ns.map Value.string) rfl (by simp) (HNR.out _ BW.out) (by simp [Value.oneCell']) (by unfold maxLen; omega) (by omega) BW.out.size ?_; intro v5 w5 hown5 hgrow5 hwh5)
  | (go_simp; go_at_fn F; refine (Calls.mono HC.out) ?_; rintro e w4 ⟨v4, rfl, ho4, b4⟩; (have BW := Lib.hid (show Below w.heap.size w w4 from (Below.refl w.heap.size w).drew.trans b4)); (have OW := Lib.hid (show w4.ownsRow w.heap.size 9 1 v4 xs.length (xs.map Value.string) from ho4)); (have q1 : w4.cell? ⟨bn, 0, none⟩ = some (.slice N ns.length cn) := (HNV.out.below BW.out).cell 0 _ rfl)))
 all_goals
  have BB := BW.out.grown hgrow5 BW.out.size (fun g e => (OW.out.lt g e).1)
  have FIN := Lib.hid (show GaveW w (xs ++ ns) (.returned v5) w5 from ⟨v5, rfl, by simpa using hown5, BB⟩)
  clear hown5 hgrow5 hwh5 BB
  go_wp2
  go_ret
  exact FIN.out

set_option maxHeartbeats 4000000 in
set_option maxRecDepth 100000 in
theorem withNames (sv : Value) (N : Option Addr) (cn : Nat) (xs ns : List ByteArray) (w : World) (hs : Scoped w sv xs) (hn : ArgS Rep.str w N ns.length cn ns) (hl : xs.length + ns.length ≤ 1000000000) :
  Calls Tryz.prog 133 #[sv, .slice N ns.length cn] w fun e w' => ∃ v, e = .returned v ∧ Scoped w' v (xs ++ ns) ∧ Below w.heap.size w w' := by
 have hs0 := hs
 obtain ⟨F, lb, rfl, eg, _⟩ := hs0
 have eg2 : ∀ args W, (callFunc 179 args).run Tryz.prog W = .ok (.enter 179 args) W := enters_of Tryz.func179 (by kernel_rfl) rfl
 have b0 : Below w.heap.size w ((w.alloc (Obj.cells #[Value.func (Fn.func F) #[] lb] 166)).alloc (Obj.cells #[Value.slice N ns.length cn] 31)) := ((Below.refl _ _).alloc (Nat.le_refl _) _).alloc (by simp) _
 have V0 := (Lvar.new w #[Value.func (Fn.func F) #[] lb] 166).alloc (Obj.cells #[Value.slice N ns.length cn] 31)
 have V1 := Lvar.new (w.alloc (Obj.cells #[Value.func (Fn.func F) #[] lb] 166)) #[Value.slice N ns.length cn] 31
 simp only [World.size_alloc] at V1
 have FIN := Lib.hid (show Scoped ((w.alloc (Obj.cells #[Value.func (Fn.func F) #[] lb] 166)).alloc (Obj.cells #[Value.slice N ns.length cn] 31)) (.func (.func 179) #[] #[.pointer (some ⟨w.heap.size, 0, none⟩), .pointer (some ⟨w.heap.size + 1, 0, none⟩)]) (xs ++ ns) from
  ⟨_, _, rfl, eg2, fun W h => callWith w.heap.size (w.heap.size + 1) _ N cn xs ns W (V0.below h) (V1.below h) (hs.below (below_step b0 h)) (hn.below (below_step b0 h)) hl⟩)
 have B0 := Lib.hid b0
 clear hs hn eg eg2 V0 V1 b0
 go_enter Tryz.func133, Tryz.ntmps133
 go_wp2
 go_ret
 exact ⟨_, rfl, FIN.out, B0.out⟩

set_option maxHeartbeats 4000000 in
set_option maxRecDepth 100000 in
theorem opening (z0 : ByteArray) (A1 : Option Addr) (c1 : Nat) (x1 : List ByteArray) (z2 : Bool) (A3 : Option Addr) (c3 : Nat) (x3 : List (Int × List Int)) (Q : Option Addr) (cq : Nat) (ps : List PatternT) (w : World)
  (h1 : ArgS Rep.str w A1 x1.length c1 x1) (hp : ArgS pat w Q ps.length cq ps) (hl : x1.length ≤ 100000000) (hl2 : ps.length ≤ 100000000) :
  Calls Tryz.prog 130 #[.agg #[.string z0, .slice A1 x1.length c1, .bool z2, .slice A3 x3.length c3], .slice Q ps.length cq] w fun e w' => ∃ v, e = .returned v ∧ Scoped w' v (x1 ++ nmP ps) ∧ Below w.heap.size w w' := by
 have eg2 : ∀ args W, (callFunc 174 args).run Tryz.prog W = .ok (.enter 174 args) W := enters_of Tryz.func174 (by kernel_rfl) rfl
 have b0 : Below w.heap.size w (w.alloc (Obj.cells #[Value.string z0, Value.slice A1 x1.length c1, Value.bool z2, Value.slice A3 x3.length c3] 98)) := (Below.refl _ _).alloc (Nat.le_refl _) _
 have B0 := Lib.hid b0
 have V0 := Lvar.new w #[Value.string z0, Value.slice A1 x1.length c1, Value.bool z2, Value.slice A3 x3.length c3] 98
 have S0 : Scoped (w.alloc (Obj.cells #[Value.string z0, Value.slice A1 x1.length c1, Value.bool z2, Value.slice A3 x3.length c3] 98)) (.func (.func 174) #[] #[.pointer (some ⟨w.heap.size, 0, none⟩)]) x1 :=
  ⟨_, _, rfl, eg2, fun W h => callParams w.heap.size z0 A1 c1 x1 z2 _ W (V0.below h) (h1.below (below_step b0 h)) hl⟩
 have SS := Lib.hid S0
 have NP := Lib.hid (namesOfP Q cq ps _ (hp.below b0) hl2)
 have hnl := nmP_len ps
 have HW := Lib.hid (fun (N : Option Addr) (cn : Nat) (W : World) (h : Below (w.alloc (Obj.cells #[Value.string z0, Value.slice A1 x1.length c1, Value.bool z2, Value.slice A3 x3.length c3] 98)).heap.size (w.alloc (Obj.cells #[Value.string z0, Value.slice A1 x1.length c1, Value.bool z2, Value.slice A3 x3.length c3] 98)) W) (hn : ArgS Rep.str W N (nmP ps).length cn (nmP ps)) =>
  withNames _ N cn x1 (nmP ps) W (S0.below h) hn (by omega))
 clear eg2 b0 V0 S0 h1 hp
 go_enter Tryz.func130, Tryz.ntmps130
 go_wp2_with fail
 refine (Calls.mono NP.out) ?_
 rintro e w1 ⟨N, cn, rfl, oN, b1⟩
 have HW1 := Lib.hid (HW.out N cn w1 b1 oN.arg)
 have B1 := Lib.hid (below_step B0.out b1)
 clear oN b1
 go_wp2_with fail
 refine (Calls.mono HW1.out) ?_
 rintro e w2 ⟨v, rfl, hS, b2⟩
 have F := Lib.hid (show Scoped w2 v (x1 ++ nmP ps) ∧ Below w.heap.size w w2 from ⟨hS, below_step B1.out b2⟩)
 obtain ⟨F9, lb9, rfl, _, _⟩ := hS
 clear b2
 go_wp2
 go_ret
 exact ⟨_, rfl, F.out⟩
end ProgI
end Go.Proofs.YtbbllkhmenpnlaaGreat

/-
  ScopeOf, of the program.
-/
namespace Go.Proofs.YtbbllkhmenpnlaaGreat
open Go.RowKit
namespace ProgI
open RowK Mem

def nmC (cs : List CallT) : List ByteArray := cs.map (·.1)
def scopeM (fs : List FunctionT) (z0 : ByteArray) (ps : List PatternT) (cs : List CallT) (n : Int) : List ByteArray :=
 match findF fs z0 with
 | none => []
 | some f => if 0 ≤ n ∧ n ≤ (cs.length : Int) then f.2.1 ++ nmP ps ++ nmC (cs.take n.toNat) else []
theorem arg_fn {w : World} {A1 A3 : Option Addr} {c1 c3 : Nat} {z0 : ByteArray} {x1 : List ByteArray} {z2 : Bool} {x3 : List (Int × List Int)} (h : ArgR fn w [.string z0, .slice A1 x1.length c1, .bool z2, .slice A3 x3.length c3] (z0, x1, z2, x3)) : ArgS Rep.str w A1 x1.length c1 x1 ∧ ArgS lin w A3 x3.length c3 x3 := by
 obtain ⟨q, fp, h⟩ := h
 obtain ⟨f1, f3, _, h1, h3⟩ := fn_parts h
 exact ⟨⟨q, f1, h1⟩, q, f3, h3⟩
theorem nmC_snoc (cs : List CallT) (x : CallT) : nmC (cs ++ [x]) = nmC cs ++ [x.1] := by simp [nmC]
end ProgI
end Go.Proofs.YtbbllkhmenpnlaaGreat
