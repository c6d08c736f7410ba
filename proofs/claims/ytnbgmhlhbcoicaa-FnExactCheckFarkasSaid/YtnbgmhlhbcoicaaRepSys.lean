import Derived.Test.YtnbgmhlhbcoicaaRepLin3
/-
  Systems as data in memory: the laws' helpers.
-/
namespace Go.Proofs.Ytnbgmhlhbcoicaa
open Go.RowKit
namespace Mem
open RowK

def sys : Rep (Int × List (Int × List Int)) := Rep.prod Rep.int lins
theorem sys_open {q : Bool} {w : World} {fp : List Nat} {cs : List Value} {p : Int × List (Int × List Int)} (h : sys.rep q w fp cs p) : ∃ A c, cs = [.int .i64 p.1, .slice A p.2.length c] ∧ lins.rep q w fp [.slice A p.2.length c] p.2 := by
  obtain ⟨f1, f2, c1, c2, rfl, rfl, ⟨rfl, rfl⟩, h2⟩ := h
  obtain ⟨A, c, rfl, h3⟩ := h2
  exact ⟨A, c, rfl, A, c, rfl, h3⟩
theorem sys_close {q : Bool} {w : World} {fp : List Nat} {A : Option Addr} {c : Nat} {n : Int} {xs : List (Int × List Int)} (h : lins.rep q w fp [.slice A xs.length c] xs) : sys.rep q w fp [.int .i64 n, .slice A xs.length c] (n, xs) :=
  ⟨[], fp, _, _, rfl, rfl, ⟨rfl, rfl⟩, h⟩
theorem New.keep {α : Type} {r : Rep α} {w w1 w2 : World} {lo hi : Nat} {x : α} {cs : List Value} (h : New r w x w1 cs) (m : Mod lo hi w1 w2) (hd : hi ≤ w.heap.size) : New r w x w2 cs := by
  obtain ⟨fp, h1, h2, h3⟩ := h
  exact ⟨fp, Rep.keep h1 m (fun b hb => Or.inr (by have := h3 b hb; omega)), h2, h3⟩
theorem New.older {α : Type} {r : Rep α} {w w0 w1 : World} {x : α} {cs : List Value} (h : New r w x w1 cs) (hw : w0.heap.size ≤ w.heap.size) : New r w0 x w1 cs := by
  obtain ⟨fp, h1, h2, h3⟩ := h
  exact ⟨fp, h1, h2, fun b hb => Nat.le_trans hw (h3 b hb)⟩
theorem New.sys {w w1 : World} {A : Option Addr} {c : Nat} {n : Int} {xs : List (Int × List Int)} (h : New lins w xs w1 [.slice A xs.length c]) : New Mem.sys w (n, xs) w1 [.int .i64 n, .slice A xs.length c] := by
  obtain ⟨fp, h1, h2, h3⟩ := h
  exact ⟨fp, sys_close h1, h2, h3⟩

def CopiedSys (w : World) (n : Int) (xs : List (Int × List Int)) (e : Ending) (w' : World) : Prop :=
  ∃ A, e = .returned (.agg #[.int .i64 n, .slice A xs.length xs.length]) ∧ New sys w (n, xs) w' [.int .i64 n, .slice A xs.length xs.length] ∧ Below w.heap.size w w'
set_option maxHeartbeats 1000000 in
set_option maxRecDepth 100000 in
theorem copySys (q : Bool) (fp : List Nat) (n : Int) (A : Option Addr) (c : Nat) (xs : List (Int × List Int)) (w : World) (hA : lins.rep q w fp [.slice A xs.length c] xs) (hl : linsSize xs ≤ 1000000000) :
    Calls Try.prog 31 #[.agg #[.int .i64 n, .slice A xs.length c]] w (CopiedSys w n xs) := by
  have CP := Lib.hid (fun W (h : Below w.heap.size w W) => copyS q fp A c xs W (Rep.below hA h) hl)
  clear hA hl
  go_enter Try.func31, Try.ntmps31
  go_wp2_with fail
  refine (Calls.mono (CP.out _ (((Below.refl _ _).alloc (Nat.le_refl _) _ |>.alloc (by simp) _).alloc (by simp; omega) _))) ?_
  rintro e w1 ⟨A1, rfl, hN, b1⟩
  have b0 : Below w.heap.size w w1 := (((Below.refl _ _).alloc (Nat.le_refl _) _ |>.alloc (by simp) _).alloc (by simp; omega) _).trans (b1.mono (by simp; omega))
  obtain ⟨hc, hf⟩ := LinK.bcell b1
  have hz := b1.size
  simp only [World.size_alloc] at hz
  go_wp2_with fail
  refine bodyPost_ret (v := .agg #[.int .i64 n, .slice A1 xs.length xs.length]) (by simp [results, Try.results31, go_sem, hc]) rfl ?_
  have hm : Mod w.heap.size (w.heap.size + 3) w1 (((w1.setCell { block := w.heap.size + 1 + 1, off := 1 } (Value.slice A1 xs.length xs.length)).setCell { block := w.heap.size + 1, off := 0 } (Value.int IntKind.i64 n)).setCell { block := w.heap.size + 1, off := 1 } (Value.slice A1 xs.length xs.length)) :=
    ((Mod.set _ (by simp; omega) (by simp) _).trans (Mod.set _ (by simp) (by simp) _)).trans (Mod.set _ (by simp) (by simp) _)
  have hN2 := (hN.keep hm (by simp)).older (w0 := w) (by simp; omega)
  exact ⟨A1, rfl, hN2.sys, below_mod b0 hm (Nat.le_refl _) b0.size⟩

set_option maxHeartbeats 1000000 in
set_option maxRecDepth 100000 in
theorem sizeSys (q : Bool) (fp : List Nat) (n : Int) (A : Option Addr) (c L : Nat) (xs : List (Int × List Int)) (w : World) (hA : lins.rep q w fp [.slice A xs.length c] xs) (hL : L ≤ 1000000000) (hl : xs.length ≤ 9223372036854775807) (hs : ∀ x ∈ xs, x.2.length ≤ 9223372036854775807) :
    Calls Try.prog 30 #[.agg #[.int .i64 n, .slice A xs.length c], .int .i64 L] w fun e w' => e = .returned (.int .i64 (IntK.leftOf L (linsSize xs))) ∧ Below w.heap.size w w' := by
  have SZ := Lib.hid (fun W (h : Below w.heap.size w W) => sizeS q fp A c L xs W (Rep.below hA h) hL hl hs)
  unfold IntK.leftOf at *
  have b0 : Below w.heap.size w (w.alloc (Obj.cells #[Value.int IntKind.i64 n, Value.slice A xs.length c] 52)) := (Below.refl _ _).alloc (Nat.le_refl _) _
  have B0 := Lib.hid b0
  clear hA hs b0
  by_cases h0 : linsSize xs ≤ L
  · rw [if_pos h0] at *
    have hneg : decide ((L : Int) - (linsSize xs : Int) < 0) = false := decide_eq_false (by omega)
    go_enter Try.func30, Try.ntmps30
    go_wp2_with fail
    refine (Calls.mono (SZ.out _ B0.out)) ?_
    rintro e w1 ⟨rfl, b1⟩
    have B1 := Lib.hid (B0.out.trans (b1.mono B0.out.size))
    go_wp2
    go_ret
    exact ⟨rfl, B1.out⟩
  · rw [if_neg h0] at *
    go_enter Try.func30, Try.ntmps30
    go_wp2_with fail
    refine (Calls.mono (SZ.out _ B0.out)) ?_
    rintro e w1 ⟨rfl, b1⟩
    have B1 := Lib.hid (B0.out.trans (b1.mono B0.out.size))
    go_wp2
    go_ret
    exact ⟨rfl, B1.out⟩

set_option maxHeartbeats 1000000 in
set_option maxRecDepth 100000 in
theorem eqSys (q q2 : Bool) (fp gp : List Nat) (n : Int) (A B : Option Addr) (c d : Nat) (xs : List (Int × List Int)) (w : World) (hA : lins.rep q w fp [.slice A xs.length c] xs) (hB : lins.rep q2 w gp [.slice B xs.length d] xs) (hl : linsSize xs ≤ 1000000000) :
    Calls Try.prog 33 #[.agg #[.int .i64 n, .slice A xs.length c], .agg #[.int .i64 n, .slice B xs.length d]] w fun e w' => e = .returned (.bool true) ∧ Below w.heap.size w w' := by
  have EQ := Lib.hid (fun W (h : Below w.heap.size w W) => eqS q q2 fp gp A B c d xs W (Rep.below hA h) (Rep.below hB h) hl)
  have b0 : Below w.heap.size w ((w.alloc (Obj.cells #[Value.int IntKind.i64 n, Value.slice A xs.length c] 26)).alloc (Obj.cells #[Value.int IntKind.i64 n, Value.slice B xs.length d] 26)) := ((Below.refl _ _).alloc (Nat.le_refl _) _).alloc (by simp) _
  have B0 := Lib.hid b0
  clear hA hB hl b0
  go_enter Try.func33, Try.ntmps33
  go_wp2_with fail
  refine (Calls.mono (EQ.out _ B0.out)) ?_
  rintro e w1 ⟨rfl, b1⟩
  have B1 := Lib.hid (B0.out.trans (b1.mono B0.out.size))
  go_wp2
  go_ret
  exact ⟨rfl, B1.out⟩

set_option maxHeartbeats 1000000 in
set_option maxRecDepth 100000 in
theorem markSys (fp : List Nat) (n : Int) (A : Option Addr) (c k0 : Nat) (xs : List (Int × List Int)) (w : World) (hA : lins.rep true w fp [.slice A xs.length c] xs) (hn : fp.Nodup) (hl : linsSize xs ≤ 1000000000) (hk0 : k0 ≤ 1000000000) :
    Calls Try.prog 35 #[.agg #[.int .i64 n, .slice A xs.length c], .int .i64 k0] w (MarkedS fp w A c k0 xs) := by
  have MK := Lib.hid (fun W (h : Below w.heap.size w W) => markS fp A c k0 xs W (Rep.below hA h) hn hl hk0)
  have b0 : Below w.heap.size w (w.alloc (Obj.cells #[Value.int IntKind.i64 n, Value.slice A xs.length c] 26)) := (Below.refl _ _).alloc (Nat.le_refl _) _
  have B0 := Lib.hid b0
  clear hA hl b0
  go_enter Try.func35, Try.ntmps35
  go_wp2_with fail
  refine (Calls.mono (MK.out _ B0.out)) ?_
  rintro e w1 ⟨rfl, r1, m1⟩
  have F := Lib.hid (show MarkedS fp w A c k0 xs (.returned (.int .i64 ((k0 : Int) + linsSize xs))) w1 from ⟨rfl, r1, (ModF.of_below B0.out).trans m1⟩)
  clear r1 m1
  go_wp2
  go_ret
  exact F.out

end Mem
end Go.Proofs.Ytnbgmhlhbcoicaa
