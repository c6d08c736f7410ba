import Derived.Test.YtaepfdgfjcdidaaRepSum
/-
  Arguments as data in memory: the laws' helpers.
-/
namespace Go.Proofs.Ytaepfdgfjcdidaa
open Go.RowKit
namespace Mem
open RowK

def argsSize (xs : List SumT) (s : ByteArray) : Nat := sumsSize xs + s.size
set_option maxHeartbeats 1000000 in
set_option maxRecDepth 100000 in
theorem copyArg (q : Bool) (fp : List Nat) (p : Bool) (s : ByteArray) (A : Option Addr) (c : Nat) (xs : List SumT) (w : World) (hA : sums.rep q w fp [.slice A xs.length c] xs) (hl : xs.length + szs ssl xs ≤ 1000000000) :
    Calls Try.prog 14 #[.agg #[.bool p, .slice A xs.length c, .string s]] w fun e w' => ∃ B, e = .returned (.agg #[.bool p, .slice B xs.length xs.length, .string s]) ∧ New sums w xs w' [.slice B xs.length xs.length] ∧ Below w.heap.size w w' := by
  have CP := Lib.hid (fun W (h : Below w.heap.size w W) => copySumS q fp A c xs W (Rep.below hA h) hl)
  clear hA hl
  go_enter Try.func14, Try.ntmps14
  go_wp2_with fail
  refine (Calls.mono (CP.out _ (((Below.refl _ _).alloc (Nat.le_refl _) _ |>.alloc (by simp) _).alloc (by simp; omega) _))) ?_
  rintro e w1 ⟨A1, rfl, hN, b1⟩
  have b0 : Below w.heap.size w w1 := (((Below.refl _ _).alloc (Nat.le_refl _) _ |>.alloc (by simp) _).alloc (by simp; omega) _).trans (b1.mono (by simp; omega))
  obtain ⟨hc, hf⟩ := LinK.bcell b1
  have hz := b1.size
  simp only [World.size_alloc] at hz
  go_wp2_with fail
  refine bodyPost_ret (v := .agg #[.bool p, .slice A1 xs.length xs.length, .string s]) (by simp [results, Try.results14, go_sem, hc]) rfl ?_
  have key : ∀ {w2 : World}, Mod w.heap.size (w.heap.size + 3) w1 w2 → New sums w xs w2 [.slice A1 xs.length xs.length] ∧ Below w.heap.size w w2 := fun hm =>
    ⟨(hN.keepG hm (by simp)).olderG (w0 := w) (by simp; omega), below_mod b0 hm (Nat.le_refl _) b0.size⟩
  refine ⟨A1, rfl, key ?_⟩
  repeat first
    | exact Mod.refl _ _ _
    | refine Mod.trans ?_ (Mod.set _ (by simp <;> omega) (by simp <;> omega) _)
set_option maxHeartbeats 1000000 in
set_option maxRecDepth 100000 in
theorem sizeArg (q : Bool) (fp : List Nat) (p : Bool) (s : ByteArray) (A : Option Addr) (c L : Nat) (xs : List SumT) (w : World) (hA : sums.rep q w fp [.slice A xs.length c] xs) (hL : L ≤ 1000000000) (hl : xs.length ≤ 9223372036854775807) (hs : ∀ x ∈ xs, WfSum x) (hb : s.size ≤ 9223372036854775807) :
    Calls Try.prog 12 #[.agg #[.bool p, .slice A xs.length c, .string s], .int .i64 L] w fun e w' => e = .returned (.int .i64 (IntK.leftOf L (argsSize xs s))) ∧ Below w.heap.size w w' := by
  have SZ := Lib.hid (fun W (h : Below w.heap.size w W) => sizeSumS q fp A c L xs W (Rep.below hA h) hL hl hs)
  unfold IntK.leftOf at SZ
  have B0 := Lib.hid ((Below.refl w.heap.size w).alloc (Nat.le_refl _) (Obj.cells #[Value.bool p, Value.slice A xs.length c, Value.string s] 35))
  have V0 := Lib.hid (Lvar.new w #[Value.bool p, Value.slice A xs.length c, Value.string s] 35)
  clear hA hs
  by_cases h0 : sumsSize xs ≤ L
  · rw [if_pos h0] at SZ
    obtain ⟨m, hm⟩ : ∃ m : Nat, m = L - sumsSize xs := ⟨_, rfl⟩
    have hcast : ((L : Int) - (sumsSize xs : Int)) = (m : Int) := by omega
    have hm9 : m ≤ 1000000000 := by omega
    rw [hcast] at SZ
    have hm0 : decide ((m : Int) < 0) = false := decide_eq_false (by omega)
    by_cases h1 : s.size ≤ m
    · have HR := Lib.hid (show IntK.leftOf L (argsSize xs s) = (m : Int) - (s.size : Int) by unfold IntK.leftOf argsSize; rw [if_pos (by omega)]; omega)
      have hm1 : decide ((m : Int) - (s.size : Int) < 0) = false := decide_eq_false (by omega)
      clear h0 hm hcast
      go_enter Try.func12, Try.ntmps12
      go_wp2_with fail
      refine (Calls.mono (SZ.out _ B0.out)) ?_
      rintro e w1 ⟨rfl, b1⟩
      have B1 := Lib.hid (B0.out.trans (b1.mono B0.out.size))
      have v2 := (V0.out.below b1).cell 2 _ rfl
      go_wp2
      go_ret
      exact ⟨by rw [HR.out]; rfl, B1.out⟩
    · have HR := Lib.hid (show IntK.leftOf L (argsSize xs s) = -1 by unfold IntK.leftOf argsSize; rw [if_neg (by omega)])
      have hm1 : decide ((m : Int) - (s.size : Int) < 0) = true := decide_eq_true (by omega)
      clear h0 hm hcast
      go_enter Try.func12, Try.ntmps12
      go_wp2_with fail
      refine (Calls.mono (SZ.out _ B0.out)) ?_
      rintro e w1 ⟨rfl, b1⟩
      have B1 := Lib.hid (B0.out.trans (b1.mono B0.out.size))
      have v2 := (V0.out.below b1).cell 2 _ rfl
      go_wp2
      go_ret
      exact ⟨by rw [HR.out]; rfl, B1.out⟩
  · rw [if_neg h0] at SZ
    have HR := Lib.hid (show IntK.leftOf L (argsSize xs s) = -1 by unfold IntK.leftOf argsSize; rw [if_neg (by omega)])
    clear h0
    go_enter Try.func12, Try.ntmps12
    go_wp2_with fail
    refine (Calls.mono (SZ.out _ B0.out)) ?_
    rintro e w1 ⟨rfl, b1⟩
    have B1 := Lib.hid (B0.out.trans (b1.mono B0.out.size))
    go_wp2
    go_ret
    exact ⟨by rw [HR.out]; rfl, B1.out⟩
set_option maxHeartbeats 1000000 in
set_option maxRecDepth 100000 in
theorem eqArg (q q2 : Bool) (fp gp : List Nat) (p : Bool) (s : ByteArray) (A B : Option Addr) (c d : Nat) (xs : List SumT) (w : World) (hA : sums.rep q w fp [.slice A xs.length c] xs) (hB : sums.rep q2 w gp [.slice B xs.length d] xs) (hl : xs.length + szs ssl xs ≤ 1000000000) :
    Calls Try.prog 16 #[.agg #[.bool p, .slice A xs.length c, .string s], .agg #[.bool p, .slice B xs.length d, .string s]] w fun e w' => e = .returned (.bool true) ∧ Below w.heap.size w w' := by
  have EQ := Lib.hid (fun W (h : Below w.heap.size w W) => eqSumS q q2 fp gp A B c d xs W (Rep.below hA h) (Rep.below hB h) hl)
  have B0 := Lib.hid (((Below.refl w.heap.size w).alloc (Nat.le_refl _) (Obj.cells #[Value.bool p, Value.slice A xs.length c, Value.string s] 40)).alloc (by simp) (Obj.cells #[Value.bool p, Value.slice B xs.length d, Value.string s] 40))
  have V0 := Lib.hid ((Lvar.new w #[Value.bool p, Value.slice A xs.length c, Value.string s] 40).alloc (Obj.cells #[Value.bool p, Value.slice B xs.length d, Value.string s] 40))
  have V1 := Lib.hid (Lvar.new (w.alloc (Obj.cells #[Value.bool p, Value.slice A xs.length c, Value.string s] 40)) #[Value.bool p, Value.slice B xs.length d, Value.string s] 40)
  simp only [World.size_alloc] at V1
  clear hA hB hl
  go_enter Try.func16, Try.ntmps16
  go_wp2_with fail
  refine (Calls.mono (EQ.out _ ?_)) ?_
  · first | exact B0.out | exact B0.out.drew | exact below_drewN B0.out _
  rintro e w1 ⟨rfl, b1⟩
  have B1 := Lib.hid (show Below w.heap.size w w1 from by first | exact B0.out.trans (b1.mono B0.out.size) | exact B0.out.drew.trans (b1.mono B0.out.size) | exact (below_drewN B0.out _).trans (b1.mono B0.out.size))
  have v02 := (show Lvar w1 _ _ from by first | exact V0.out.below b1 | exact (V0.out.below (Below.refl _ _).drew).below b1).cell 2 _ rfl
  have v12 := (show Lvar w1 _ _ from by first | exact V1.out.below b1 | exact (V1.out.below (Below.refl _ _).drew).below b1).cell 2 _ rfl
  go_wp2
  go_ret
  exact ⟨rfl, B1.out⟩
set_option maxHeartbeats 1000000 in
set_option maxRecDepth 100000 in
theorem markArg (fp : List Nat) (p : Bool) (s : ByteArray) (A : Option Addr) (c k0 : Nat) (xs : List SumT) (w : World) (hA : sums.rep true w fp [.slice A xs.length c] xs) (hn : fp.Nodup) (hl : xs.length + szs ssl xs ≤ 1000000000) (h1 : 1 ≤ k0) (hk0 : k0 ≤ 10000000000) :
    Calls Try.prog 20 #[.agg #[.bool p, .slice A xs.length c, .string s], .int .i64 k0] w (MarkedSum fp w A c k0 xs) := by
  have MK := Lib.hid (fun W (h : Below w.heap.size w W) => markSumS fp A c k0 xs W (Rep.below hA h) hn hl h1 hk0)
  have B0 := Lib.hid ((Below.refl w.heap.size w).alloc (Nat.le_refl _) (Obj.cells #[Value.bool p, Value.slice A xs.length c, Value.string s] 40))
  clear hA hl
  go_enter Try.func20, Try.ntmps20
  go_wp2_with fail
  refine (Calls.mono (MK.out _ B0.out)) ?_
  rintro e w1 ⟨rfl, r1, m1⟩
  have F := Lib.hid (show MarkedSum fp w A c k0 xs (.returned (.int .i64 ((k0 : Int) + szs nSum xs))) w1 from ⟨rfl, r1, (ModF.of_below B0.out).trans m1⟩)
  clear r1 m1
  go_wp2
  go_ret
  exact F.out
end Mem
end Go.Proofs.Ytaepfdgfjcdidaa
