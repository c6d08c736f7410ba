import Derived.Test.YtmkelfjnjnjgbaaElimGot
import Derived.Test.YtmkelfjnjnjgbaaElimEntM
import Derived.BigQuiet
import Derived.Test.YtmkelfjnjnjgbaaElimFind
/-
  The program's search: is something entailed, is a system empty?
-/
namespace Go.Proofs.Ytmkelfjnjnjgbaa
open Go.RowKit
namespace ElimI
open RowK Mem ElimM ElimS ArithM LinM LinI FarkM

set_option maxHeartbeats 2000000 in
set_option maxRecDepth 100000 in
theorem entails (lo hi : Nat) (N : Int) (A T : Option Addr) (c d : Nat) (xs : List (Int × List Int)) (tz : Int) (ts : List Int) (w : World) (hA : SysK.Arg w A xs.length c xs) (hl : linsSize xs ≤ 1000000000) (hT : Row lo hi w T (IntK.iv ts)) (hlt : ts.length ≤ 1000000000) :
    Calls Try.prog 13 #[.agg #[.int .i64 N, .slice A xs.length c], .agg #[.int .i64 tz, .slice T ts.length d]] w fun e w' => e = .returned (.bool (entB N xs (tz, ts))) ∧ Below w.heap.size w w' := by
  have bb : Below w.heap.size w ((w.alloc (Obj.cells #[Value.int IntKind.i64 N, Value.slice A xs.length c] 26)).alloc (Obj.cells #[Value.int IntKind.i64 tz, Value.slice T ts.length d] 29)) := ((Below.refl _ _).alloc (Nat.le_refl _) _).alloc (by simp) _
  have V0 := Lib.hid ((Lvar.new w #[Value.int IntKind.i64 N, Value.slice A xs.length c] 26).alloc (Obj.cells #[Value.int IntKind.i64 tz, Value.slice T ts.length d] 29))
  have t0 := Lvar.new (w.alloc (Obj.cells #[Value.int IntKind.i64 N, Value.slice A xs.length c] 26)) #[Value.int IntKind.i64 tz, Value.slice T ts.length d] 29
  simp only [World.size_alloc] at t0
  have T0 := Lib.hid t0
  have FF := Lib.hid (findFarkas lo hi N A T c d xs tz ts _ (hA.below bb) hl (hT.below bb) hlt)
  have BB := Lib.hid bb
  clear bb t0 hA hT
  unfold entB
  generalize findF N xs (tz, ts) = R at *
  go_enter Try.func13, Try.ntmps13
  go_upto_region 1 with fail
  generalize ((w.alloc (Obj.cells #[Value.int IntKind.i64 N, Value.slice A xs.length c] 26)).alloc (Obj.cells #[Value.int IntKind.i64 tz, Value.slice T ts.length d] 29)) = W0 at *
  have v0 := V0.out.cell 0 (.int .i64 N) rfl
  have v1 := V0.out.cell 1 (.slice A xs.length c) rfl
  have t0 := T0.out.cell 0 (.int .i64 tz) rfl
  have t1 := T0.out.cell 1 (.slice T ts.length d) rfl
  go_wp2_with fail
  refine (Calls.mono FF.out) ?_
  rintro e w1 ⟨A1, c1, rfl, r1, f1, b1⟩
  have HB := Lib.hid ((BB.out.trans (b1.mono BB.out.size)).alloc (Nat.le_trans BB.out.size b1.size) (Obj.cells #[Value.int IntKind.i64 (R.getD (0, [])).1, Value.slice A1 (R.getD (0, [])).2.length c1] 33))
  clear r1 f1 b1 v0 v1 t0 t1
  go_wp2
  go_ret
  exact ⟨rfl, HB.out⟩

set_option maxHeartbeats 2000000 in
set_option maxRecDepth 100000 in
theorem isEmpty (N : Int) (A : Option Addr) (c : Nat) (xs : List (Int × List Int)) (w : World) (hA : SysK.Arg w A xs.length c xs) (hl : linsSize xs ≤ 1000000000) :
    Calls Try.prog 15 #[.agg #[.int .i64 N, .slice A xs.length c]] w fun e w' => e = .returned (.bool (empB N xs)) ∧ Below w.heap.size w w' := by
  have bb : Below w.heap.size w (w.alloc (Obj.cells #[Value.int IntKind.i64 N, Value.slice A xs.length c] 26)) := (Below.refl _ _).alloc (Nat.le_refl _) _
  have V0 := Lib.hid (Lvar.new w #[Value.int IntKind.i64 N, Value.slice A xs.length c] 26)
  have A0 := Lib.hid (hA.below bb)
  have BB := Lib.hid bb
  clear bb hA
  unfold empB
  have CO := Lib.hid (fun W => constC (-1) N W)
  have h8 := constL_small (-1) N
  generalize constL (-1) N = s0 at *
  obtain ⟨sz, ss⟩ := s0
  simp only at CO h8
  have EN := Lib.hid (fun lo hi T d W (h : Below (w.alloc (Obj.cells #[Value.int IntKind.i64 N, Value.slice A xs.length c] 26)).heap.size (w.alloc (Obj.cells #[Value.int IntKind.i64 N, Value.slice A xs.length c] 26)) W) (hT : Row lo hi W T (IntK.iv ss)) => entails lo hi N A T c d xs sz ss W (A0.out.below h) hl hT (by omega))
  generalize entB N xs (sz, ss) = q at *
  go_enter Try.func15, Try.ntmps15
  go_upto_region 1 with fail
  generalize w.alloc (Obj.cells #[Value.int IntKind.i64 N, Value.slice A xs.length c] 26) = W0 at *
  have KS := Lib.hid (fun W (h : Below W0.heap.size W0 W) => (show W.cell? ⟨w.heap.size, 0, none⟩ = some (Value.int .i64 N) ∧ W.cell? ⟨w.heap.size, 1, none⟩ = some (Value.slice A xs.length c) from ⟨(V0.out.below h).cell 0 _ rfl, (V0.out.below h).cell 1 _ rfl⟩))
  obtain ⟨k0, k1⟩ := KS.out W0 (Below.refl _ _)
  go_region_held3 (fun w' => w'.cell? ⟨w.heap.size, 0, none⟩ = some (Value.int .i64 N) ∧ w'.cell? ⟨w.heap.size, 1, none⟩ = some (Value.slice A xs.length c))
    (first | with_reducible exact KS.out _ hd5 | with_reducible exact KS.out _ hd4 | with_reducible exact KS.out _ (Below.refl _ _).drew | go_keep)
    (first
      | (go_at_call 52; refine (Calls.mono (CO.out _)) ?_; rintro e u4 ⟨C2, g2, rfl, rc2, fc2, b4, hg2⟩; (have hd4 : Below W0.heap.size W0 u4 := ((Below.refl W0.heap.size W0).drew).trans b4))
      | (go_at_call 13; refine (Calls.mono (EN.out _ _ C2 g2 _ hd4 rc2)) ?_; rintro e u5 ⟨rfl, b5⟩; (have hd5 := hd4.trans (b5.mono hd4.size))))
  have HB := Lib.hid (BB.out.trans (hd5.mono BB.out.size))
  go_wp2
  go_ret
  exact ⟨rfl, HB.out⟩
end ElimI
end Go.Proofs.Ytmkelfjnjnjgbaa

/-
  The model's search: is something entailed, is a system empty?
-/
namespace Go.Proofs.Ytmkelfjnjnjgbaa
open Go.RowKit
namespace ElimS
open RowK Mem ElimM ArithM LinM LinI FarkM

set_option maxHeartbeats 2000000 in
set_option maxRecDepth 100000 in
theorem entails (lo hi : Nat) (N : Int) (A T : Option Addr) (c d : Nat) (xs : List (Int × List Int)) (tz : Int) (ts : List Int) (w : World) (hA : SysK.Arg w A xs.length c xs) (hl : linsSize xs ≤ 1000000000) (hT : Row lo hi w T (IntK.iv ts)) (hlt : ts.length ≤ 1000000000) :
    Calls Try.prog 18 #[.agg #[.int .i64 N, .slice A xs.length c], .agg #[.int .i64 tz, .slice T ts.length d]] w fun e w' => e = .returned (.bool (entB N xs (tz, ts))) ∧ Below w.heap.size w w' := by
  have bb : Below w.heap.size w ((w.alloc (Obj.cells #[Value.int IntKind.i64 N, Value.slice A xs.length c] 26)).alloc (Obj.cells #[Value.int IntKind.i64 tz, Value.slice T ts.length d] 29)) := ((Below.refl _ _).alloc (Nat.le_refl _) _).alloc (by simp) _
  have V0 := Lib.hid ((Lvar.new w #[Value.int IntKind.i64 N, Value.slice A xs.length c] 26).alloc (Obj.cells #[Value.int IntKind.i64 tz, Value.slice T ts.length d] 29))
  have t0 := Lvar.new (w.alloc (Obj.cells #[Value.int IntKind.i64 N, Value.slice A xs.length c] 26)) #[Value.int IntKind.i64 tz, Value.slice T ts.length d] 29
  simp only [World.size_alloc] at t0
  have T0 := Lib.hid t0
  have FF := Lib.hid (find lo hi N A T c d xs tz ts _ (hA.below bb) hl (hT.below bb) hlt)
  have BB := Lib.hid bb
  clear bb t0 hA hT
  unfold entB
  generalize findF N xs (tz, ts) = R at *
  go_enter Try.func18, Try.ntmps18
  go_upto_region 1 with fail
  generalize ((w.alloc (Obj.cells #[Value.int IntKind.i64 N, Value.slice A xs.length c] 26)).alloc (Obj.cells #[Value.int IntKind.i64 tz, Value.slice T ts.length d] 29)) = W0 at *
  have v0 := V0.out.cell 0 (.int .i64 N) rfl
  have v1 := V0.out.cell 1 (.slice A xs.length c) rfl
  have t0 := T0.out.cell 0 (.int .i64 tz) rfl
  have t1 := T0.out.cell 1 (.slice T ts.length d) rfl
  go_wp2_with fail
  refine (Calls.mono FF.out) ?_
  rintro e w1 ⟨A1, c1, rfl, r1, f1, b1⟩
  have HB := Lib.hid ((BB.out.trans (b1.mono BB.out.size)).alloc (Nat.le_trans BB.out.size b1.size) (Obj.cells #[Value.int IntKind.i64 (R.getD (0, [])).1, Value.slice A1 (R.getD (0, [])).2.length c1] 33))
  clear r1 f1 b1 v0 v1 t0 t1
  go_wp2
  go_ret
  exact ⟨rfl, HB.out⟩

set_option maxHeartbeats 2000000 in
set_option maxRecDepth 100000 in
theorem isEmpty (N : Int) (A : Option Addr) (c : Nat) (xs : List (Int × List Int)) (w : World) (hA : SysK.Arg w A xs.length c xs) (hl : linsSize xs ≤ 1000000000) :
    Calls Try.prog 16 #[.agg #[.int .i64 N, .slice A xs.length c]] w fun e w' => e = .returned (.bool (empB N xs)) ∧ Below w.heap.size w w' := by
  have bb : Below w.heap.size w (w.alloc (Obj.cells #[Value.int IntKind.i64 N, Value.slice A xs.length c] 26)) := (Below.refl _ _).alloc (Nat.le_refl _) _
  have V0 := Lib.hid (Lvar.new w #[Value.int IntKind.i64 N, Value.slice A xs.length c] 26)
  have A0 := Lib.hid (hA.below bb)
  have BB := Lib.hid bb
  clear bb hA
  unfold empB
  have CO := Lib.hid (fun W => LinS.constC (-1) N W)
  have h8 := constL_small (-1) N
  generalize constL (-1) N = s0 at *
  obtain ⟨sz, ss⟩ := s0
  simp only at CO h8
  have EN := Lib.hid (fun lo hi T d W (h : Below (w.alloc (Obj.cells #[Value.int IntKind.i64 N, Value.slice A xs.length c] 26)).heap.size (w.alloc (Obj.cells #[Value.int IntKind.i64 N, Value.slice A xs.length c] 26)) W) (hT : Row lo hi W T (IntK.iv ss)) => entails lo hi N A T c d xs sz ss W (A0.out.below h) hl hT (by omega))
  generalize entB N xs (sz, ss) = q at *
  go_enter Try.func16, Try.ntmps16
  go_upto_region 1 with fail
  generalize w.alloc (Obj.cells #[Value.int IntKind.i64 N, Value.slice A xs.length c] 26) = W0 at *
  have KS := Lib.hid (fun W (h : Below W0.heap.size W0 W) => (show W.cell? ⟨w.heap.size, 0, none⟩ = some (Value.int .i64 N) ∧ W.cell? ⟨w.heap.size, 1, none⟩ = some (Value.slice A xs.length c) from ⟨(V0.out.below h).cell 0 _ rfl, (V0.out.below h).cell 1 _ rfl⟩))
  obtain ⟨k0, k1⟩ := KS.out W0 (Below.refl _ _)
  go_region_held3 (fun w' => w'.cell? ⟨w.heap.size, 0, none⟩ = some (Value.int .i64 N) ∧ w'.cell? ⟨w.heap.size, 1, none⟩ = some (Value.slice A xs.length c))
    (first | with_reducible exact KS.out _ hd5 | with_reducible exact KS.out _ hd4 | with_reducible exact KS.out _ (Below.refl _ _).drew | go_keep)
    (first
      | (go_at_call 46; refine (Calls.mono (CO.out _)) ?_; rintro e u4 ⟨C2, g2, rfl, rc2, fc2, b4, hg2⟩; (have hd4 : Below W0.heap.size W0 u4 := ((Below.refl W0.heap.size W0).drew).trans b4))
      | (go_at_call 18; refine (Calls.mono (EN.out _ _ C2 g2 _ hd4 rc2)) ?_; rintro e u5 ⟨rfl, b5⟩; (have hd5 := hd4.trans (b5.mono hd4.size))))
  have HB := Lib.hid (BB.out.trans (hd5.mono BB.out.size))
  go_wp2
  go_ret
  exact ⟨rfl, HB.out⟩
end ElimS
end Go.Proofs.Ytmkelfjnjnjgbaa
