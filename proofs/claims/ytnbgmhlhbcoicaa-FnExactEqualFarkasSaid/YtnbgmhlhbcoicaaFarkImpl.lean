import Derived.Test.YtnbgmhlhbcoicaaFarkMath
import Derived.Test.YtnbgmhlhbcoicaaSysImpl
/-
  The program's certificates: multipliers, constants, the rows' validity, comparison.
-/
namespace Go.Proofs.Ytnbgmhlhbcoicaa
open Go.RowKit
namespace FarkI
open RowK Mem LinM FarkM

theorem all_no1 {p : Int → Bool} {vs : List Int} {k : Nat} (hk : k < vs.length) (h : p vs[k] = false) : vs.all p = false := by
  rw [List.all_eq_false]
  exact ⟨vs[k], List.getElem_mem _, by simp [h]⟩
theorem mult (n : Int) (w : World) :
    Calls Try.prog 75 #[.int .i64 n] w fun e w' => e = .returned (.bool (scB n)) ∧ w = w' := by
  have IC := Lib.hid (ArithI.isCoeff n)
  by_cases h : 0 ≤ n
  · have HR := Lib.hid (show scB n = ArithM.inC n by
      unfold scB ArithM.inC
      rw [decide_eq_true h, decide_eq_true (show -1000000000 ≤ n by omega)])
    have h' : decide (0 ≤ n) = true := decide_eq_true h
    clear h
    go_enter Try.func75, Try.ntmps75
    go_wp2_with fail
    refine (Calls.mono (IC.out _)) ?_
    rintro e w1 ⟨rfl, rfl⟩
    go_wp2
    go_ret
    exact ⟨by rw [HR.out]; try rfl, rfl⟩
  · have HR := Lib.hid (show scB n = false by
      unfold scB
      rw [decide_eq_false h]; rfl)
    have h' : decide (0 ≤ n) = false := decide_eq_false h
    clear h
    go_enter Try.func75, Try.ntmps75
    go_wp2
    go_ret
    exact ⟨by rw [HR.out]; try rfl, rfl⟩
def zB (x : Int) : Bool := x == 0
theorem isZero (n : Int) (w : World) :
    Calls Try.prog 61 #[.int .i64 n] w fun e w' => e = .returned (.bool (zB n)) ∧ w = w' := by
  unfold zB
  go_enter Try.func61, Try.ntmps61
  go_wp2
  go_ret
  exact ⟨rfl, rfl⟩

set_option maxHeartbeats 1000000 in
set_option maxRecDepth 100000 in
theorem everyMult (lo hi : Nat) (A : Option Addr) (c : Nat) (vs : List Int) (w : World) (hA : Row lo hi w A (IntK.iv vs)) (hl : vs.length ≤ 1000000000) :
    Calls Try.prog 60 #[.slice A vs.length c, .func (.func 75) #[] #[]] w fun e w' => e = .returned (.bool (vs.all scB)) ∧ w = w' := by
  have HA := Lib.hid hA
  have FI := Lib.hid mult
  clear hA
  go_enter Try.func60, Try.ntmps60
  go_wp2
  go_loop [9] (fun i => ∃ k : Nat, k ≤ vs.length ∧ i = .int .i64 k ∧ (vs.take k).all scB = true) (fun i => vs.length - (intOf i).toNat)
  case atStart => exact ⟨0, Nat.zero_le _, rfl, rfl⟩
  case round =>
    obtain ⟨k, hk, rfl, hall⟩ := hrel
    have HAL := Lib.hid hall
    clear hall
    by_cases hlt : k < vs.length
    · obtain ⟨b, o, rfl, hbl, hc⟩ := IntK.at_ HA.out hlt
      have HN := Lib.hid (fun h => all_no1 (p := scB) hlt h)
      have HY := Lib.hid (fun h => SysS.all_take (p := scB) hlt HAL.out h)
      have hi0 : (0 : Int) ≤ (k : Int) := by omega
      have hi1 : (k : Int) < (vs.length : Int) := by omega
      generalize vs[k] = x at *
      have FX := Lib.hid (FI.out x w)
      generalize scB x = t at *
      cases t with
      | false =>
        have HR := Lib.hid (HN.out rfl)
        clear HN HY
        go_wp2_with fail
        refine (Calls.mono FX.out) ?_
        rintro e w1 ⟨rfl, rfl⟩
        go_wp2
        go_ret
        exact ⟨by rw [HR.out]; try rfl, rfl⟩
      | true =>
        have HT := Lib.hid (HY.out rfl)
        clear HN HY
        go_wp2_with fail
        refine (Calls.mono FX.out) ?_
        rintro e w1 ⟨rfl, rfl⟩
        go_wp2
        go_round
        case rel => exact ⟨k + 1, by omega, by go_num, HT.out⟩
        case measure => simp [intOf]; omega
    · obtain rfl : k = vs.length := by omega
      have HR := Lib.hid (show vs.all scB = true by have := HAL.out; rwa [List.take_length] at this)
      clear HAL
      go_wp2
      go_ret
      exact ⟨by rw [HR.out]; try rfl, rfl⟩

set_option maxHeartbeats 1000000 in
set_option maxRecDepth 100000 in
theorem everyZero (lo hi : Nat) (A : Option Addr) (c : Nat) (vs : List Int) (w : World) (hA : Row lo hi w A (IntK.iv vs)) (hl : vs.length ≤ 1000000000) :
    Calls Try.prog 60 #[.slice A vs.length c, .func (.func 61) #[] #[]] w fun e w' => e = .returned (.bool (vs.all zB)) ∧ w = w' := by
  have HA := Lib.hid hA
  have FI := Lib.hid isZero
  clear hA
  go_enter Try.func60, Try.ntmps60
  go_wp2
  go_loop [9] (fun i => ∃ k : Nat, k ≤ vs.length ∧ i = .int .i64 k ∧ (vs.take k).all zB = true) (fun i => vs.length - (intOf i).toNat)
  case atStart => exact ⟨0, Nat.zero_le _, rfl, rfl⟩
  case round =>
    obtain ⟨k, hk, rfl, hall⟩ := hrel
    have HAL := Lib.hid hall
    clear hall
    by_cases hlt : k < vs.length
    · obtain ⟨b, o, rfl, hbl, hc⟩ := IntK.at_ HA.out hlt
      have HN := Lib.hid (fun h => all_no1 (p := zB) hlt h)
      have HY := Lib.hid (fun h => SysS.all_take (p := zB) hlt HAL.out h)
      have hi0 : (0 : Int) ≤ (k : Int) := by omega
      have hi1 : (k : Int) < (vs.length : Int) := by omega
      generalize vs[k] = x at *
      have FX := Lib.hid (FI.out x w)
      generalize zB x = t at *
      cases t with
      | false =>
        have HR := Lib.hid (HN.out rfl)
        clear HN HY
        go_wp2_with fail
        refine (Calls.mono FX.out) ?_
        rintro e w1 ⟨rfl, rfl⟩
        go_wp2
        go_ret
        exact ⟨by rw [HR.out]; try rfl, rfl⟩
      | true =>
        have HT := Lib.hid (HY.out rfl)
        clear HN HY
        go_wp2_with fail
        refine (Calls.mono FX.out) ?_
        rintro e w1 ⟨rfl, rfl⟩
        go_wp2
        go_round
        case rel => exact ⟨k + 1, by omega, by go_num, HT.out⟩
        case measure => simp [intOf]; omega
    · obtain rfl : k = vs.length := by omega
      have HR := Lib.hid (show vs.all zB = true by have := HAL.out; rwa [List.take_length] at this)
      clear HAL
      go_wp2
      go_ret
      exact ⟨by rw [HR.out]; try rfl, rfl⟩

theorem isConst (lo hi : Nat) (z : Int) (A : Option Addr) (c : Nat) (zs : List Int) (w : World) (hA : Row lo hi w A (IntK.iv zs)) (hl : zs.length ≤ 1000000000) :
    Calls Try.prog 22 #[.agg #[.int .i64 z, .slice A zs.length c]] w fun e w' => e = .returned (.bool (isC zs)) ∧ Below w.heap.size w w' := by
  have b0 : Below w.heap.size w (w.alloc (Obj.cells #[Value.int IntKind.i64 z, Value.slice A zs.length c] 29)) := (Below.refl _ _).alloc (Nat.le_refl _) _
  have EV := Lib.hid (everyZero lo hi A c zs _ (hA.below b0) hl)
  have B0 := Lib.hid b0
  rw [show isC zs = zs.all zB from rfl]
  clear b0 hA
  generalize zs.all zB = R at *
  go_enter Try.func22, Try.ntmps22
  go_wp2_with fail
  refine (Calls.mono EV.out) ?_
  rintro e w1 ⟨rfl, rfl⟩
  go_wp2
  go_ret
  exact ⟨rfl, B0.out⟩

set_option maxHeartbeats 1000000 in
set_option maxRecDepth 100000 in
theorem sameInts (lo hi lo' hi' : Nat) (A B : Option Addr) (c d : Nat) (zs us : List Int) (w : World) (hA : Row lo hi w A (IntK.iv zs)) (hB : Row lo' hi' w B (IntK.iv us)) (hl : zs.length ≤ 1000000000) (hl2 : us.length ≤ 1000000000) :
    Calls Try.prog 55 #[.slice A zs.length c, .slice B us.length d] w fun e w' => e = .returned (.bool (decide (zs = us))) ∧ Below w.heap.size w w' := by
  by_cases h2 : zs.length = us.length
  · have hyes := Lib.hid (fun (h : ∀ j (h1 : j < zs.length) (h2 : j < us.length), zs[j] = us[j]) => (show decide (zs = us) = true from decide_eq_true (List.ext_getElem h2 h)))
    have hno := Lib.hid (fun j (h1 : j < zs.length) (h2 : j < us.length) (h : zs[j] ≠ us[j]) => (show decide (zs = us) = false from decide_eq_false (fun e => h (by subst e; rfl))))
    have H2 := Lib.hid h2
    have hne : ((zs.length : Int) != (us.length : Int)) = false := by simp [h2]
    clear h2
    generalize decide (zs = us) = R at *
    go_enter Try.func55, Try.ntmps55
    go_wp2
    go_loopw [13] (fun i wr => ∃ k : Nat, k ≤ zs.length ∧ i = .int .i64 k ∧ (∀ j (h1 : j < zs.length) (h2 : j < us.length), j < k → zs[j] = us[j]) ∧ Below w.heap.size w wr) (fun i _ => zs.length - (intOf i).toNat)
    case atStart => exact ⟨0, Nat.zero_le _, rfl, fun j _ _ h => by omega, Below.refl _ _⟩
    case round =>
      obtain ⟨k, hk, rfl, hpre, hb⟩ := hrel
      have HP := Lib.hid hpre
      clear hpre
      by_cases hlt : k < zs.length
      · have hlt2 : k < us.length := by rw [← H2.out]; exact hlt
        obtain ⟨b1, o1, rfl, _, hc1⟩ := IntK.at_ (hA.below hb) hlt
        obtain ⟨b2, o2, rfl, _, hc2⟩ := IntK.at_ (hB.below hb) hlt2
        have hn := Lib.hid (hno.out k hlt hlt2)
        have hs := Lib.hid (fun (h : zs[k] = us[k]) j (h1 : j < zs.length) (h2 : j < us.length) (h3 : j < k + 1) => (show zs[j] = us[j] from by
          by_cases e : j = k
          · subst e; exact h
          · exact HP.out j h1 h2 (by omega)))
        generalize zs[k] = x at *
        generalize us[k] = y at *
        have hi0 : (0 : Int) ≤ (k : Int) := by omega
        have hi1 : (k : Int) < (zs.length : Int) := by omega
        have hi2 : (k : Int) < (us.length : Int) := by omega
        clear hno hyes
        by_cases hxy : x = y
        · have hs' := Lib.hid (hs.out hxy)
          clear hs hn
          subst hxy
          go_wp2
          go_quiet (fail)
          go_wp2
          go_roundw
          case rel => exact ⟨k + 1, by omega, by go_num, hs'.out, below_drewN hb _⟩
          case measure => simp [intOf]; omega
        · have hn' := Lib.hid (hn.out hxy)
          have hxy' : (x != y) = true := by simpa using hxy
          clear hs hn hxy
          go_wp2
          go_quiet (fail)
          go_wp2
          go_ret
          exact ⟨ArithI.ret_bool hn'.out.symm, below_drewN hb _⟩
      · obtain rfl : k = zs.length := by omega
        have hv := Lib.hid (hyes.out (fun j h1 h2 => HP.out j h1 h2 h1))
        clear hyes hno
        go_wp2
        go_ret
        exact ⟨ArithI.ret_bool hv.out.symm, hb⟩
  · have hne : ((zs.length : Int) != (us.length : Int)) = true := by simp; omega
    rw [decide_eq_false (show ¬ zs = us from fun e => h2 (by rw [e]))]
    clear h2
    go_enter Try.func55, Try.ntmps55
    go_wp2
    go_ret
    exact ⟨rfl, Below.refl _ _⟩
set_option maxHeartbeats 1000000 in
set_option maxRecDepth 100000 in
theorem equal (lo hi lo' hi' : Nat) (z u : Int) (A B : Option Addr) (c d : Nat) (zs us : List Int) (w : World) (hA : Row lo hi w A (IntK.iv zs)) (hB : Row lo' hi' w B (IntK.iv us)) (hl : zs.length ≤ 1000000000) (hl2 : us.length ≤ 1000000000) :
    Calls Try.prog 14 #[.agg #[.int .i64 z, .slice A zs.length c], .agg #[.int .i64 u, .slice B us.length d]] w fun e w' => e = .returned (.bool (eqB z u zs us)) ∧ Below w.heap.size w w' := by
  have bb : Below w.heap.size w ((w.alloc (Obj.cells #[Value.int IntKind.i64 z, Value.slice A zs.length c] 31)).alloc (Obj.cells #[Value.int IntKind.i64 u, Value.slice B us.length d] 31)) := ((Below.refl _ _).alloc (Nat.le_refl _) _).alloc (by simp) _
  have BB := Lib.hid bb
  have IN := Lib.hid (fun W (h : Below w.heap.size w W) => sameInts lo hi lo' hi' A B c d zs us W (hA.below h) (hB.below h) hl hl2)
  clear bb
  unfold eqB
  by_cases h1 : z = u
  · subst h1
    generalize decide (zs = us) = R at *
    go_enter Try.func14, Try.ntmps14
    go_wp2_with fail
    refine (IN.out _ BB.out).mono ?_
    rintro e w1 ⟨rfl, b1⟩
    go_wp2
    go_ret
    exact ⟨by simp, BB.out.trans (b1.mono BB.out.size)⟩
  · have hne : (z == u) = false := by simpa using h1
    rw [decide_eq_false h1, Bool.false_and]
    clear h1
    go_enter Try.func14, Try.ntmps14
    go_wp2
    go_ret
    exact ⟨rfl, BB.out⟩
end FarkI
end Go.Proofs.Ytnbgmhlhbcoicaa
