import Derived.Test.YtmkelfjnjnjgbaaSysOwn
import Derived.Test.YtmkelfjnjnjgbaaLinImpl4
import Derived.Test.YtmkelfjnjnjgbaaLinImpl2
/-
  The program's systems: validity, satisfaction, comparison.
-/
namespace Go.Proofs.Ytmkelfjnjnjgbaa
open Go.RowKit
namespace SysI
open RowK Mem LinM

theorem rowValid (b : Nat) (n : Int) (S : Value) (lo hi : Nat) (z : Int) (B : Option Addr) (d : Nat) (zs : List Int) (w : World) (hV : Lvar w b #[.int .i64 n, S]) (hB : Row lo hi w B (IntK.iv zs)) (hl : zs.length ≤ 1000000000) :
    Calls Try.prog 91 #[.agg #[.int .i64 z, .slice B zs.length d], .pointer (some ⟨b, 0, none⟩)] w fun e w' => e = .returned (.bool (vldB z zs n)) ∧ Below w.heap.size w w' := by
  have b0 : Below w.heap.size w (w.alloc (Obj.cells #[Value.int IntKind.i64 z, Value.slice B zs.length d] 29)) := (Below.refl _ _).alloc (Nat.le_refl _) _
  have VL := Lib.hid (LinI.valid lo hi z B d zs n _ (hB.below b0) hl)
  have B0 := Lib.hid b0
  have v0 := (hV.below b0).cell 0 (.int .i64 n) rfl
  clear b0 hV hB hl
  go_enter Try.func91, Try.ntmps91
  go_wp2_with fail
  refine (Calls.mono VL.out) ?_
  rintro e w1 ⟨rfl, b1⟩
  have B1 := Lib.hid (B0.out.trans (b1.mono B0.out.size))
  clear b1
  go_wp2
  go_ret
  exact ⟨rfl, B1.out⟩

/-- The row's value is there and not negative. -/
def okRow (vs : List Int) (x : Int × List Int) : Bool := (evalL x.1 x.2 vs).isSome && decide (0 ≤ (evalL x.1 x.2 vs).getD 0)
set_option maxHeartbeats 1000000 in
set_option maxRecDepth 100000 in
/-- All rows pass. -/
theorem every1 (p : Int × List Int → Bool) (b : Nat) (q : Bool) (fp : List Nat) (A : Option Addr) (c : Nat) (xs : List (Int × List Int)) (w : World) (hA : lins.rep q w fp [.slice A xs.length c] xs) (hl : linsSize xs ≤ 1000000000)
    (hp : ∀ (W : World), Below w.heap.size w W → ∀ (lo hi : Nat) (z : Int) (B : Option Addr) (d : Nat) (zs : List Int), Row lo hi W B (IntK.iv zs) → zs.length ≤ 1000000000 →
      Calls Try.prog 91 #[.agg #[.int .i64 z, .slice B zs.length d], .pointer (some ⟨b, 0, none⟩)] W fun e w' => e = .returned (.bool (p (z, zs))) ∧ Below W.heap.size W w') :
    Calls Try.prog 90 #[.slice A xs.length c, .func (.func 91) #[] #[.pointer (some ⟨b, 0, none⟩)]] w fun e w' => e = .returned (.bool (xs.all p)) ∧ Below w.heap.size w w' := by
  have hxl : xs.length ≤ 1000000000 := by unfold linsSize at hl; omega
  have HSZ := Lib.hid (fun x (h : x ∈ xs) => linsSize_mem h)
  have HL := Lib.hid hl
  have HA := Lib.hid hA
  have HP := Lib.hid hp
  clear hl hA hp
  go_enter Try.func90, Try.ntmps90
  go_wp2
  go_loopw [9] (fun i wr => ∃ k : Nat, k ≤ xs.length ∧ i = .int .i64 k ∧ (xs.take k).all p = true ∧ Below w.heap.size w wr) (fun i _ => xs.length - (intOf i).toNat)
  case atStart => exact ⟨0, Nat.zero_le _, rfl, rfl, Below.refl _ _⟩
  case round =>
    obtain ⟨k, hk, rfl, hall, hb⟩ := hrel
    have HAL := Lib.hid hall
    have HB := Lib.hid hb
    clear hall hb
    by_cases hlt : k < xs.length
    · obtain ⟨b2, o, B, d, lo, hi, rfl, hbb, c0, c1, _, r1⟩ := lins_at (Rep.below HA.out HB.out) hlt
      have hx := HSZ.out _ (List.getElem_mem hlt)
      have hs9 : xs[k].2.length ≤ 1000000000 := by have := HL.out; omega
      have HN := Lib.hid (fun h => SysS.all_no (p := p) hlt h)
      have HY := Lib.hid (fun h => SysS.all_take (p := p) hlt HAL.out h)
      clear hx
      generalize xs[k] = x at *
      obtain ⟨z, zs⟩ := x
      simp only at c0 c1 r1 hs9
      have ha : Below wr.heap.size wr (wr.alloc (Obj.cells #[Value.int IntKind.i64 z, Value.slice B zs.length d] 29)) := (Below.refl _ _).alloc (Nat.le_refl _) _
      have BA := Lib.hid (HB.out.trans (ha.mono HB.out.size))
      have VL := Lib.hid (HP.out _ BA.out lo hi z B d zs (r1.below ha) hs9)
      have hi0 : (0 : Int) ≤ (k : Int) := by omega
      have hi1 : (k : Int) < (xs.length : Int) := by omega
      generalize p (z, zs) = t at *
      clear r1 ha
      cases t with
      | false =>
        have HR := Lib.hid (HN.out rfl)
        clear HN HY
        go_wp2_with fail
        refine (Calls.mono VL.out) ?_
        rintro e w1 ⟨rfl, b1⟩
        have B1 := Lib.hid (BA.out.trans (b1.mono BA.out.size))
        clear b1
        go_wp2
        go_ret
        exact ⟨by rw [HR.out]; try rfl, B1.out⟩
      | true =>
        have HT := Lib.hid (HY.out rfl)
        clear HN HY
        go_wp2_with fail
        refine (Calls.mono VL.out) ?_
        rintro e w1 ⟨rfl, b1⟩
        have B1 := Lib.hid (BA.out.trans (b1.mono BA.out.size))
        clear b1
        go_wp2
        go_roundw
        case rel => exact ⟨k + 1, by omega, by go_num, HT.out, B1.out⟩
        case measure => simp [intOf]; omega
    · obtain rfl : k = xs.length := by omega
      have HR := Lib.hid (show xs.all p = true by have := HAL.out; rwa [List.take_length] at this)
      clear HAL
      go_wp2
      go_ret
      exact ⟨by rw [HR.out]; try rfl, HB.out⟩

set_option maxHeartbeats 1000000 in
set_option maxRecDepth 100000 in
theorem valid (n : Int) (A : Option Addr) (c : Nat) (xs : List (Int × List Int)) (w : World) (hA : SysK.Arg w A xs.length c xs) (hl : linsSize xs ≤ 1000000000) :
    Calls Try.prog 72 #[.agg #[.int .i64 n, .slice A xs.length c]] w fun e w' => e = .returned (.bool (SysS.sysV n xs)) ∧ Below w.heap.size w w' := by
  have hxl : xs.length ≤ 1000000000 := by unfold linsSize at hl; omega
  have hmf : ∀ (fn : Fn) (first cap : Array Value) (w : World), (Instr.makeFunc fn first cap).run Try.prog w = .ok (.func fn first cap) w := fun _ _ _ _ => rfl
  have b0 : Below w.heap.size w (w.alloc (Obj.cells #[Value.int IntKind.i64 n, Value.slice A xs.length c] 26)) := (Below.refl _ _).alloc (Nat.le_refl _) _
  have V0 := Lib.hid (Lvar.new w #[Value.int IntKind.i64 n, Value.slice A xs.length c] 26)
  obtain ⟨q, fp, hA⟩ := hA
  have CN := Lib.hid (LinI.cnt n)
  have EV := Lib.hid (every1 (fun x => vldB x.1 x.2 n) w.heap.size q fp A c xs _ (Rep.below hA b0) hl (fun W hW lo hi z B d zs hB hs => rowValid w.heap.size n _ lo hi z B d zs W (V0.out.below hW) hB hs))
  have B0 := Lib.hid b0
  have hS : SysS.sysV n xs = (xs.all (fun x => vldB x.1 x.2 n) && (cntB n && decide (xs.length ≤ 20))) := rfl
  have HS := Lib.hid hS
  have v0 := V0.out.cell 0 (.int .i64 n) rfl
  have v1 := V0.out.cell 1 (.slice A xs.length c) rfl
  generalize xs.all (fun x => vldB x.1 x.2 n) = t at *
  generalize cntB n = r at *
  generalize SysS.sysV n xs = R at *
  clear hS b0 hA hl
  cases r with
  | false =>
    have HF := Lib.hid (show R = false by rw [HS.out]; simp)
    go_enter Try.func72, Try.ntmps72
    go_wp2_with fail
    refine (Calls.mono (CN.out _)) ?_
    rintro e w1 ⟨rfl, rfl⟩
    go_wp2
    go_ret
    exact ⟨by rw [HF.out]; try rfl, B0.out⟩
  | true =>
    by_cases h20 : xs.length ≤ 20
    · have HF := Lib.hid (show R = t by rw [HS.out]; simp [h20])
      clear HS
      go_enter Try.func72, Try.ntmps72
      go_wp2_with fail
      refine (Calls.mono (CN.out _)) ?_
      rintro e w1 ⟨rfl, rfl⟩
      go_wp2_with fail
      refine (Calls.mono EV.out) ?_
      rintro e w1 ⟨rfl, b1⟩
      have B1 := Lib.hid (B0.out.trans (b1.mono B0.out.size))
      clear b1
      go_wp2
      go_ret
      exact ⟨by rw [HF.out]; try rfl, B1.out⟩
    · have HF := Lib.hid (show R = false by rw [HS.out]; simp [h20])
      clear HS
      go_enter Try.func72, Try.ntmps72
      go_wp2_with fail
      refine (Calls.mono (CN.out _)) ?_
      rintro e w1 ⟨rfl, rfl⟩
      go_wp2
      go_ret
      exact ⟨by rw [HF.out]; try rfl, B0.out⟩
end SysI
end Go.Proofs.Ytmkelfjnjnjgbaa
