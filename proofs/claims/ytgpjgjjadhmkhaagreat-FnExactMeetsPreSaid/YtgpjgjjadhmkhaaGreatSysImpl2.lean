import Derived.Test.YtgpjgjjadhmkhaaGreatSysOwn
import Derived.Test.YtgpjgjjadhmkhaaGreatLinImpl2
import Derived.Test.YtgpjgjjadhmkhaaGreatProg
import Derived.WalkKit
import Derived.DeepKeys
import Derived.Laws.CopyOwn
import Derived.Deep.RegionHeld3
/-
  The program's systems: validity, satisfaction, comparison.
-/
namespace Go.Proofs.YtgpjgjjadhmkhaaGreat
open Go.RowKit
namespace SysI
open RowK Mem LinM

theorem rowValid (b : Nat) (n : Int) (S : Value) (lo hi : Nat) (z : Int) (B : Option Addr) (d : Nat) (zs : List Int) (w : World) (hV : Lvar w b #[.int .i64 n, S]) (hB : Row lo hi w B (IntK.iv zs)) (hl : zs.length ≤ 1000000000) :
    Calls Tryz.prog 135 #[.agg #[.int .i64 z, .slice B zs.length d], .pointer (some ⟨b, 0, none⟩)] w fun e w' => e = .returned (.bool (vldB z zs n)) ∧ Below w.heap.size w w' := by
  have b0 : Below w.heap.size w (w.alloc (Obj.cells #[Value.int IntKind.i64 z, Value.slice B zs.length d] 100)) := (Below.refl _ _).alloc (Nat.le_refl _) _
  have VL := Lib.hid (LinI.valid lo hi z B d zs n _ (hB.below b0) hl)
  have B0 := Lib.hid b0
  have v0 := (hV.below b0).cell 0 (.int .i64 n) rfl
  clear b0 hV hB hl
  go_enter Tryz.func135, Tryz.ntmps135
  go_wp2_with fail
  refine (Calls.mono VL.out) ?_
  rintro e w1 ⟨rfl, b1⟩
  have B1 := Lib.hid (B0.out.trans (b1.mono B0.out.size))
  clear b1
  go_wp2
  go_ret
  exact ⟨rfl, B1.out⟩

/-- The row's value is there and not negative. -/
def okRow (vs : List Int) (x : Int × List Int) : Bool := (evalL x.1 x.2 vs).isSome && decide (0 ≤ (evalL x.1 x.2 vs).getD 0)
theorem rowSat (b : Nat) (lo' hi' : Nat) (C : Option Addr) (e : Nat) (vs : List Int) (lo hi : Nat) (z : Int) (B : Option Addr) (d : Nat) (zs : List Int) (w : World) (hV : Lvar w b #[.slice C vs.length e]) (hC : Row lo' hi' w C (IntK.iv vs)) (hl2 : vs.length ≤ 1000000000) (hB : Row lo hi w B (IntK.iv zs)) (hl : zs.length ≤ 1000000000) :
    Calls Tryz.prog 89 #[.agg #[.int .i64 z, .slice B zs.length d], .pointer (some ⟨b, 0, none⟩)] w fun e w' => e = .returned (.bool (okRow vs (z, zs))) ∧ Below w.heap.size w w' := by
  have b0 : Below w.heap.size w (w.alloc (Obj.cells #[Value.int IntKind.i64 z, Value.slice B zs.length d] 100)) := (Below.refl _ _).alloc (Nat.le_refl _) _
  have VL := Lib.hid (LinI.eval lo hi lo' hi' z B C d e zs vs _ (hB.below b0) (hC.below b0) hl hl2)
  have HK := Lib.hid (show okRow vs (z, zs) = ((evalL z zs vs).isSome && decide (0 ≤ (evalL z zs vs).getD 0)) from rfl)
  have B0 := Lib.hid b0
  have v0 := (hV.below b0).cell 0 (.slice C vs.length e) rfl
  generalize evalL z zs vs = r at *
  clear b0 hV hB hl hC hl2
  cases r with
  | none =>
    go_enter Tryz.func89, Tryz.ntmps89
    go_wp2_with fail
    refine (Calls.mono VL.out) ?_
    rintro e w1 ⟨rfl, b1⟩
    have B1 := Lib.hid (B0.out.trans (b1.mono B0.out.size))
    clear b1
    go_wp2
    go_ret
    exact ⟨by rw [HK.out]; rfl, B1.out⟩
  | some r =>
    go_enter Tryz.func89, Tryz.ntmps89
    go_wp2_with fail
    refine (Calls.mono VL.out) ?_
    rintro e w1 ⟨rfl, b1⟩
    have B1 := Lib.hid (B0.out.trans (b1.mono B0.out.size))
    clear b1
    go_wp2
    all_goals
      go_ret
      exact ⟨by rw [HK.out]; simp_all, B1.out⟩

set_option maxHeartbeats 1000000 in
set_option maxRecDepth 100000 in
/-- All rows pass. -/
theorem every1 (p : Int × List Int → Bool) (b : Nat) (q : Bool) (fp : List Nat) (A : Option Addr) (c : Nat) (xs : List (Int × List Int)) (w : World) (hA : lins.rep q w fp [.slice A xs.length c] xs) (hl : linsSize xs ≤ 1000000000)
    (hp : ∀ (W : World), Below w.heap.size w W → ∀ (lo hi : Nat) (z : Int) (B : Option Addr) (d : Nat) (zs : List Int), Row lo hi W B (IntK.iv zs) → zs.length ≤ 1000000000 →
      Calls Tryz.prog 135 #[.agg #[.int .i64 z, .slice B zs.length d], .pointer (some ⟨b, 0, none⟩)] W fun e w' => e = .returned (.bool (p (z, zs))) ∧ Below W.heap.size W w') :
    Calls Tryz.prog 88 #[.slice A xs.length c, .func (.func 135) #[] #[.pointer (some ⟨b, 0, none⟩)]] w fun e w' => e = .returned (.bool (xs.all p)) ∧ Below w.heap.size w w' := by
  have hxl : xs.length ≤ 1000000000 := by unfold linsSize at hl; omega
  have HSZ := Lib.hid (fun x (h : x ∈ xs) => linsSize_mem h)
  have HL := Lib.hid hl
  have HA := Lib.hid hA
  have HP := Lib.hid hp
  clear hl hA hp
  go_enter Tryz.func88, Tryz.ntmps88
  go_wp2
  go_loopw [9] (fun i wr => ∃ k : Nat, k ≤ xs.length ∧ i = .int .i64 k ∧ (xs.take k).all p = true ∧ Below w.heap.size w wr) (fun i _ => xs.length - (intOf i).toNat)
  case atStart => exact ⟨0, Nat.zero_le _, rfl, rfl, Below.refl _ _⟩
  case round =>
    obtain ⟨k, hk, rfl, hall, hb⟩ := hrel
    have HAL := Lib.hid hall
    have HB := Lib.hid hb
    clear hall hb
    by_cases hlt : k < xs.length
    · obtain ⟨b2, o, B, d, lo, hi, rfl, hbb, c0, c1, _, r1⟩ := lins_at (Rep.below HA.out HB.out) hlt
      have hx := HSZ.out _ (List.getElem_mem hlt)
      have hs9 : xs[k].2.length ≤ 1000000000 := by have := HL.out; omega
      have HN := Lib.hid (fun h => SysS.all_no (p := p) hlt h)
      have HY := Lib.hid (fun h => SysS.all_take (p := p) hlt HAL.out h)
      clear hx
      generalize xs[k] = x at *
      obtain ⟨z, zs⟩ := x
      simp only at c0 c1 r1 hs9
      have ha : Below wr.heap.size wr (wr.alloc (Obj.cells #[Value.int IntKind.i64 z, Value.slice B zs.length d] 100)) := (Below.refl _ _).alloc (Nat.le_refl _) _
      have BA := Lib.hid (HB.out.trans (ha.mono HB.out.size))
      have VL := Lib.hid (HP.out _ BA.out lo hi z B d zs (r1.below ha) hs9)
      have hi0 : (0 : Int) ≤ (k : Int) := by omega
      have hi1 : (k : Int) < (xs.length : Int) := by omega
      generalize p (z, zs) = t at *
      clear r1 ha
      cases t with
      | false =>
        have HR := Lib.hid (HN.out rfl)
        clear HN HY
        go_wp2_with fail
        refine (Calls.mono VL.out) ?_
        rintro e w1 ⟨rfl, b1⟩
        have B1 := Lib.hid (BA.out.trans (b1.mono BA.out.size))
        clear b1
        go_wp2
        go_ret
        exact ⟨by rw [HR.out]; try rfl, B1.out⟩
      | true =>
        have HT := Lib.hid (HY.out rfl)
        clear HN HY
        go_wp2_with fail
        refine (Calls.mono VL.out) ?_
        rintro e w1 ⟨rfl, b1⟩
        have B1 := Lib.hid (BA.out.trans (b1.mono BA.out.size))
        clear b1
        go_wp2
        go_roundw
        case rel => exact ⟨k + 1, by omega, by go_num, HT.out, B1.out⟩
        case measure => simp [intOf]; omega
    · obtain rfl : k = xs.length := by omega
      have HR := Lib.hid (show xs.all p = true by have := HAL.out; rwa [List.take_length] at this)
      clear HAL
      go_wp2
      go_ret
      exact ⟨by rw [HR.out]; try rfl, HB.out⟩

set_option maxHeartbeats 1000000 in
set_option maxRecDepth 100000 in
theorem valid (n : Int) (A : Option Addr) (c : Nat) (xs : List (Int × List Int)) (w : World) (hA : SysK.Arg w A xs.length c xs) (hl : linsSize xs ≤ 1000000000) :
    Calls Tryz.prog 87 #[.agg #[.int .i64 n, .slice A xs.length c]] w fun e w' => e = .returned (.bool (SysS.sysV n xs)) ∧ Below w.heap.size w w' := by
  have hxl : xs.length ≤ 1000000000 := by unfold linsSize at hl; omega
  have hmf : ∀ (fn : Fn) (first cap : Array Value) (w : World), (Instr.makeFunc fn first cap).run Tryz.prog w = .ok (.func fn first cap) w := fun _ _ _ _ => rfl
  have b0 : Below w.heap.size w (w.alloc (Obj.cells #[Value.int IntKind.i64 n, Value.slice A xs.length c] 47)) := (Below.refl _ _).alloc (Nat.le_refl _) _
  have V0 := Lib.hid (Lvar.new w #[Value.int IntKind.i64 n, Value.slice A xs.length c] 47)
  obtain ⟨q, fp, hA⟩ := hA
  have CN := Lib.hid (LinI.cnt n)
  have EV := Lib.hid (every1 (fun x => vldB x.1 x.2 n) w.heap.size q fp A c xs _ (Rep.below hA b0) hl (fun W hW lo hi z B d zs hB hs => rowValid w.heap.size n _ lo hi z B d zs W (V0.out.below hW) hB hs))
  have B0 := Lib.hid b0
  have hS : SysS.sysV n xs = (xs.all (fun x => vldB x.1 x.2 n) && (cntB n && decide (xs.length ≤ 20))) := rfl
  have HS := Lib.hid hS
  have v0 := V0.out.cell 0 (.int .i64 n) rfl
  have v1 := V0.out.cell 1 (.slice A xs.length c) rfl
  generalize xs.all (fun x => vldB x.1 x.2 n) = t at *
  generalize cntB n = r at *
  generalize SysS.sysV n xs = R at *
  clear hS b0 hA hl
  cases r with
  | false =>
    have HF := Lib.hid (show R = false by rw [HS.out]; simp)
    go_enter Tryz.func87, Tryz.ntmps87
    go_wp2_with fail
    refine (Calls.mono (CN.out _)) ?_
    rintro e w1 ⟨rfl, rfl⟩
    go_wp2
    go_ret
    exact ⟨by rw [HF.out]; try rfl, B0.out⟩
  | true =>
    by_cases h20 : xs.length ≤ 20
    · have HF := Lib.hid (show R = t by rw [HS.out]; simp [h20])
      clear HS
      go_enter Tryz.func87, Tryz.ntmps87
      go_wp2_with fail
      refine (Calls.mono (CN.out _)) ?_
      rintro e w1 ⟨rfl, rfl⟩
      go_wp2_with fail
      refine (Calls.mono EV.out) ?_
      rintro e w1 ⟨rfl, b1⟩
      have B1 := Lib.hid (B0.out.trans (b1.mono B0.out.size))
      clear b1
      go_wp2
      go_ret
      exact ⟨by rw [HF.out]; try rfl, B1.out⟩
    · have HF := Lib.hid (show R = false by rw [HS.out]; simp [h20])
      clear HS
      go_enter Tryz.func87, Tryz.ntmps87
      go_wp2_with fail
      refine (Calls.mono (CN.out _)) ?_
      rintro e w1 ⟨rfl, rfl⟩
      go_wp2
      go_ret
      exact ⟨by rw [HF.out]; try rfl, B0.out⟩
end SysI
end Go.Proofs.YtgpjgjjadhmkhaaGreat

/-
  The program's systems: satisfaction.
-/
namespace Go.Proofs.YtgpjgjjadhmkhaaGreat
open Go.RowKit
namespace SysI
open RowK Mem LinM

set_option maxHeartbeats 1000000 in
set_option maxRecDepth 100000 in
/-- All rows pass. -/
theorem every2 (p : Int × List Int → Bool) (b : Nat) (q : Bool) (fp : List Nat) (A : Option Addr) (c : Nat) (xs : List (Int × List Int)) (w : World) (hA : lins.rep q w fp [.slice A xs.length c] xs) (hl : linsSize xs ≤ 1000000000)
    (hp : ∀ (W : World), Below w.heap.size w W → ∀ (lo hi : Nat) (z : Int) (B : Option Addr) (d : Nat) (zs : List Int), Row lo hi W B (IntK.iv zs) → zs.length ≤ 1000000000 →
      Calls Tryz.prog 89 #[.agg #[.int .i64 z, .slice B zs.length d], .pointer (some ⟨b, 0, none⟩)] W fun e w' => e = .returned (.bool (p (z, zs))) ∧ Below W.heap.size W w') :
    Calls Tryz.prog 88 #[.slice A xs.length c, .func (.func 89) #[] #[.pointer (some ⟨b, 0, none⟩)]] w fun e w' => e = .returned (.bool (xs.all p)) ∧ Below w.heap.size w w' := by
  have hxl : xs.length ≤ 1000000000 := by unfold linsSize at hl; omega
  have HSZ := Lib.hid (fun x (h : x ∈ xs) => linsSize_mem h)
  have HL := Lib.hid hl
  have HA := Lib.hid hA
  have HP := Lib.hid hp
  clear hl hA hp
  go_enter Tryz.func88, Tryz.ntmps88
  go_wp2
  go_loopw [9] (fun i wr => ∃ k : Nat, k ≤ xs.length ∧ i = .int .i64 k ∧ (xs.take k).all p = true ∧ Below w.heap.size w wr) (fun i _ => xs.length - (intOf i).toNat)
  case atStart => exact ⟨0, Nat.zero_le _, rfl, rfl, Below.refl _ _⟩
  case round =>
    obtain ⟨k, hk, rfl, hall, hb⟩ := hrel
    have HAL := Lib.hid hall
    have HB := Lib.hid hb
    clear hall hb
    by_cases hlt : k < xs.length
    · obtain ⟨b2, o, B, d, lo, hi, rfl, hbb, c0, c1, _, r1⟩ := lins_at (Rep.below HA.out HB.out) hlt
      have hx := HSZ.out _ (List.getElem_mem hlt)
      have hs9 : xs[k].2.length ≤ 1000000000 := by have := HL.out; omega
      have HN := Lib.hid (fun h => SysS.all_no (p := p) hlt h)
      have HY := Lib.hid (fun h => SysS.all_take (p := p) hlt HAL.out h)
      clear hx
      generalize xs[k] = x at *
      obtain ⟨z, zs⟩ := x
      simp only at c0 c1 r1 hs9
      have ha : Below wr.heap.size wr (wr.alloc (Obj.cells #[Value.int IntKind.i64 z, Value.slice B zs.length d] 100)) := (Below.refl _ _).alloc (Nat.le_refl _) _
      have BA := Lib.hid (HB.out.trans (ha.mono HB.out.size))
      have VL := Lib.hid (HP.out _ BA.out lo hi z B d zs (r1.below ha) hs9)
      have hi0 : (0 : Int) ≤ (k : Int) := by omega
      have hi1 : (k : Int) < (xs.length : Int) := by omega
      generalize p (z, zs) = t at *
      clear r1 ha
      cases t with
      | false =>
        have HR := Lib.hid (HN.out rfl)
        clear HN HY
        go_wp2_with fail
        refine (Calls.mono VL.out) ?_
        rintro e w1 ⟨rfl, b1⟩
        have B1 := Lib.hid (BA.out.trans (b1.mono BA.out.size))
        clear b1
        go_wp2
        go_ret
        exact ⟨by rw [HR.out]; try rfl, B1.out⟩
      | true =>
        have HT := Lib.hid (HY.out rfl)
        clear HN HY
        go_wp2_with fail
        refine (Calls.mono VL.out) ?_
        rintro e w1 ⟨rfl, b1⟩
        have B1 := Lib.hid (BA.out.trans (b1.mono BA.out.size))
        clear b1
        go_wp2
        go_roundw
        case rel => exact ⟨k + 1, by omega, by go_num, HT.out, B1.out⟩
        case measure => simp [intOf]; omega
    · obtain rfl : k = xs.length := by omega
      have HR := Lib.hid (show xs.all p = true by have := HAL.out; rwa [List.take_length] at this)
      clear HAL
      go_wp2
      go_ret
      exact ⟨by rw [HR.out]; try rfl, HB.out⟩

set_option maxHeartbeats 1000000 in
set_option maxRecDepth 100000 in
/-- All values fit. -/
theorem everyFits (lo hi : Nat) (A : Option Addr) (c : Nat) (vs : List Int) (w : World) (hA : Row lo hi w A (IntK.iv vs)) (hl : vs.length ≤ 1000000000) :
    Calls Tryz.prog 46 #[.slice A vs.length c, .func (.func 47) #[] #[]] w fun e w' => e = .returned (.bool (vs.all ArithM.inF)) ∧ w = w' := by
  have HA := Lib.hid hA
  have FI := Lib.hid ArithI.fits
  clear hA
  go_enter Tryz.func46, Tryz.ntmps46
  go_wp2
  go_loop [9] (fun i => ∃ k : Nat, k ≤ vs.length ∧ i = .int .i64 k ∧ (vs.take k).all ArithM.inF = true) (fun i => vs.length - (intOf i).toNat)
  case atStart => exact ⟨0, Nat.zero_le _, rfl, rfl⟩
  case round =>
    obtain ⟨k, hk, rfl, hall⟩ := hrel
    have HAL := Lib.hid hall
    clear hall
    by_cases hlt : k < vs.length
    · obtain ⟨b, o, rfl, hbl, hc⟩ := IntK.at_ HA.out hlt
      have HN := Lib.hid (fun h => SysS.all_no1 (p := ArithM.inF) hlt h)
      have HY := Lib.hid (fun h => SysS.all_take (p := ArithM.inF) hlt HAL.out h)
      have hi0 : (0 : Int) ≤ (k : Int) := by omega
      have hi1 : (k : Int) < (vs.length : Int) := by omega
      generalize vs[k] = x at *
      have FX := Lib.hid (FI.out x w)
      generalize ArithM.inF x = t at *
      cases t with
      | false =>
        have HR := Lib.hid (HN.out rfl)
        clear HN HY
        go_wp2_with fail
        refine (Calls.mono FX.out) ?_
        rintro e w1 ⟨rfl, rfl⟩
        go_wp2
        go_ret
        exact ⟨by rw [HR.out]; try rfl, rfl⟩
      | true =>
        have HT := Lib.hid (HY.out rfl)
        clear HN HY
        go_wp2_with fail
        refine (Calls.mono FX.out) ?_
        rintro e w1 ⟨rfl, rfl⟩
        go_wp2
        go_round
        case rel => exact ⟨k + 1, by omega, by go_num, HT.out⟩
        case measure => simp [intOf]; omega
    · obtain rfl : k = vs.length := by omega
      have HR := Lib.hid (show vs.all ArithM.inF = true by have := HAL.out; rwa [List.take_length] at this)
      clear HAL
      go_wp2
      go_ret
      exact ⟨by rw [HR.out]; try rfl, rfl⟩

theorem sat_no1 {n : Int} {xs : List (Int × List Int)} {vs : List Int} (h : SysS.sysV n xs = false) : SysS.satB n xs vs = false := by simp [SysS.satB, h]
theorem sat_no2 {n : Int} {xs : List (Int × List Int)} {vs : List Int} (h : ¬ (vs.length : Int) = n) : SysS.satB n xs vs = false := by simp [SysS.satB, h]
theorem sat_no3 {n : Int} {xs : List (Int × List Int)} {vs : List Int} (h : vs.all ArithM.inF = false) : SysS.satB n xs vs = false := by unfold SysS.satB; rw [h]; rfl
theorem sat_yes {n : Int} {xs : List (Int × List Int)} {vs : List Int} (h1 : SysS.sysV n xs = true) (h2 : (vs.length : Int) = n) (h3 : vs.all ArithM.inF = true) : SysS.satB n xs vs = xs.all (okRow vs) := by
  unfold SysS.satB
  rw [h1, h3, decide_eq_true h2]
  simp only [Bool.true_and, Bool.and_self]
  unfold SysS.sysV at h1
  simp only [Bool.and_eq_true, List.all_eq_true] at h1
  rw [Bool.eq_iff_iff, List.all_eq_true, List.all_eq_true]
  refine forall_congr' fun x => forall_congr' fun hx => ?_
  have hv := h1.1 x hx
  rw [← h2] at hv
  have he : (evalL x.1 x.2 vs).isSome = true := by unfold evalL; rw [if_pos ⟨hv, h3⟩]; rfl
  unfold okRow
  rw [he]
  simp

set_option maxHeartbeats 1000000 in
set_option maxRecDepth 100000 in
theorem satisfies (lo hi : Nat) (n : Int) (A C : Option Addr) (c e0 : Nat) (xs : List (Int × List Int)) (vs : List Int) (w : World) (hA : SysK.Arg w A xs.length c xs) (hl : linsSize xs ≤ 1000000000) (hC : Row lo hi w C (IntK.iv vs)) (hl2 : vs.length ≤ 1000000000) :
    Calls Tryz.prog 49 #[.agg #[.int .i64 n, .slice A xs.length c], .slice C vs.length e0] w fun e w' => e = .returned (.bool (SysS.satB n xs vs)) ∧ Below w.heap.size w w' := by
  have hxl : xs.length ≤ 1000000000 := by unfold linsSize at hl; omega
  have hmf : ∀ (fn : Fn) (first cap : Array Value) (w : World), (Instr.makeFunc fn first cap).run Tryz.prog w = .ok (.func fn first cap) w := fun _ _ _ _ => rfl
  have b0 : Below w.heap.size w ((w.alloc (Obj.cells #[Value.int IntKind.i64 n, Value.slice A xs.length c] 47)).alloc (Obj.cells #[Value.slice C vs.length e0] 31)) := ((Below.refl _ _).alloc (Nat.le_refl _) _).alloc (by simp) _
  have V0 := Lib.hid ((Lvar.new w #[Value.int IntKind.i64 n, Value.slice A xs.length c] 47).alloc (Obj.cells #[Value.slice C vs.length e0] 31))
  have U0 := Lvar.new (w.alloc (Obj.cells #[Value.int IntKind.i64 n, Value.slice A xs.length c] 47)) #[Value.slice C vs.length e0] 31
  simp only [World.size_alloc] at U0
  have U0 := Lib.hid U0
  have VA := Lib.hid (valid n A c xs _ (hA.below b0) hl)
  obtain ⟨q, fp, hA⟩ := hA
  have HA := Lib.hid hA
  have HC := Lib.hid hC
  have HL := Lib.hid hl
  have B0 := Lib.hid b0
  have v0 := V0.out.cell 0 (.int .i64 n) rfl
  have v1 := V0.out.cell 1 (.slice A xs.length c) rfl
  have u0 := U0.out.cell 0 (.slice C vs.length e0) rfl
  clear b0 hA hl hC
  by_cases h1 : SysS.sysV n xs = true
  · rw [h1] at VA
    by_cases h2 : (vs.length : Int) = n
    · have hne : ((vs.length : Int) != n) = false := by simp [h2]
      have H3 := Lib.hid (fun h => sat_yes (vs := vs) h1 h2 h)
      have H4 := Lib.hid (fun h => sat_no3 (n := n) (xs := xs) (vs := vs) h)
      generalize SysS.satB n xs vs = R at *
      clear h1 h2
      go_enter Tryz.func49, Tryz.ntmps49
      go_wp2_with fail
      refine (Calls.mono VA.out) ?_
      rintro e w1 ⟨rfl, b1⟩
      have B1 := Lib.hid (B0.out.trans (b1.mono B0.out.size))
      have V1 := Lib.hid (V0.out.below b1)
      have U1 := Lib.hid (U0.out.below b1)
      clear b1 v0 v1 u0
      have v0 := V1.out.cell 0 (.int .i64 n) rfl
      have v1 := V1.out.cell 1 (.slice A xs.length c) rfl
      have u0 := U1.out.cell 0 (.slice C vs.length e0) rfl
      have EF := Lib.hid (everyFits lo hi C e0 vs w1 (HC.out.below B1.out) hl2)
      by_cases h3 : vs.all ArithM.inF = true
      · rw [h3] at EF
        have HR := Lib.hid (H3.out h3)
        clear H3 H4 h3
        go_wp2_with fail
        refine (Calls.mono EF.out) ?_
        rintro e w2 ⟨rfl, rfl⟩
        have EV := Lib.hid (every2 (okRow vs) (w.heap.size + 1) q fp A c xs w1 (Rep.below HA.out B1.out) HL.out (fun W hW lo' hi' z B d zs hB hs => rowSat (w.heap.size + 1) lo hi C e0 vs lo' hi' z B d zs W (U1.out.below hW) (HC.out.below (B1.out.trans (hW.mono B1.out.size))) hl2 hB hs))
        go_wp2_with fail
        refine (Calls.mono EV.out) ?_
        rintro e w2 ⟨rfl, b2⟩
        have B2 := Lib.hid (B1.out.trans (b2.mono B1.out.size))
        clear b2
        go_wp2
        go_ret
        exact ⟨by rw [HR.out]; try rfl, B2.out⟩
      · simp only [Bool.not_eq_true] at h3
        rw [h3] at EF
        have HR := Lib.hid (H4.out h3)
        clear H3 H4 h3
        go_wp2_with fail
        refine (Calls.mono EF.out) ?_
        rintro e w2 ⟨rfl, rfl⟩
        go_wp2
        go_ret
        exact ⟨by rw [HR.out]; try rfl, B1.out⟩
    · have hne : ((vs.length : Int) != n) = true := by simpa using h2
      have HR := Lib.hid (sat_no2 (xs := xs) h2)
      generalize SysS.satB n xs vs = R at *
      clear h1
      go_enter Tryz.func49, Tryz.ntmps49
      go_wp2_with fail
      refine (Calls.mono VA.out) ?_
      rintro e w1 ⟨rfl, b1⟩
      have B1 := Lib.hid (B0.out.trans (b1.mono B0.out.size))
      have V1 := Lib.hid (V0.out.below b1)
      have U1 := Lib.hid (U0.out.below b1)
      clear b1 v0 v1 u0 h2
      have v0 := V1.out.cell 0 (.int .i64 n) rfl
      have u0 := U1.out.cell 0 (.slice C vs.length e0) rfl
      go_wp2
      go_ret
      exact ⟨by rw [HR.out]; try rfl, B1.out⟩
  · simp only [Bool.not_eq_true] at h1
    rw [h1] at VA
    have HR := Lib.hid (sat_no1 (vs := vs) h1)
    generalize SysS.satB n xs vs = R at *
    clear h1
    go_enter Tryz.func49, Tryz.ntmps49
    go_wp2_with fail
    refine (Calls.mono VA.out) ?_
    rintro e w1 ⟨rfl, b1⟩
    have B1 := Lib.hid (B0.out.trans (b1.mono B0.out.size))
    clear b1
    go_wp2
    go_ret
    exact ⟨by rw [HR.out]; try rfl, B1.out⟩
end SysI
end Go.Proofs.YtgpjgjjadhmkhaaGreat
