import Derived.Test.YtbbllkhmenpnlaaGreatLinSpec
import Derived.Test.YtbbllkhmenpnlaaGreatLinImpl2
import Derived.Deep.RegionHeld3
import Derived.RegionTactic
import Derived.ChangeAlike
import Derived.Deep.RegionLaw
import Derived.Deep.AppendLies
import Derived.Test.YtbbllkhmenpnlaaGreatRepGen
/-
  The model's linear expressions: copies, tightened constraints.
-/
namespace Go.Proofs.YtbbllkhmenpnlaaGreat
open Go.RowKit
namespace LinS
open RowK LinM ArithM

set_option maxHeartbeats 1000000 in
set_option maxRecDepth 100000 in
theorem copyC (lo hi : Nat) (z : Int) (A : Option Addr) (c : Nat) (zs : List Int) (w : World) (hA : Row lo hi w A (IntK.iv zs)) (hl : zs.length ≤ 1000000000) :
  Calls Tryz.prog 183 #[.agg #[.int .i64 z, .slice A zs.length c]] w (LinI.GaveC w z zs) := by
 obtain ⟨i0, hi0, hz0, hz1, hz2⟩ := info_parts IntK.intInfo
 have HI := Lib.hid hi0
 have HZ0 := Lib.hid hz0
 have HZ1 := Lib.hid hz1
 have HZ2 := Lib.hid hz2
 clear hi0 hz0 hz1 hz2
 have hu := Lib.hid Tryz.underlying106
 have b0 := Lib.hid (((Below.refl w.heap.size w).alloc (Nat.le_refl _) (Obj.cells #[Value.int IntKind.i64 z, Value.slice A zs.length c] 108)).alloc (by simp) (Obj.cells #[Value.int IntKind.i64 0, Value.slice none 0 0] 108))
 have b1 := Lib.hid ((b0.out.alloc (by simp; omega) (Obj.cells #[] 3)).drew)
 have own := Lib.hid (World.ownsRow_lit (base := w.heap.size + 2) (e := 3) (size := 1) ((w.alloc (Obj.cells #[Value.int IntKind.i64 z, Value.slice A zs.length c] 108)).alloc (Obj.cells #[Value.int IntKind.i64 0, Value.slice none 0 0] 108)) #[] 0 (by simp) (by unfold maxLen; omega) rfl)
 have L2 := Lib.hid ((((Lvar.new (w.alloc (Obj.cells #[Value.int IntKind.i64 z, Value.slice A zs.length c] 108)) #[Value.int IntKind.i64 0, Value.slice none 0 0] 108).alloc (Obj.cells #[] 3)).below ((Below.refl _ _).drew)))
 simp only [World.size_alloc] at L2
 have L1 := (((Lvar.new w #[Value.int IntKind.i64 z, Value.slice A zs.length c] 108).alloc (Obj.cells #[Value.int IntKind.i64 0, Value.slice none 0 0] 108)).alloc (Obj.cells #[] 3)).below ((Below.refl _ _).drew)
 have hfar : ∀ b o w1, b < w.heap.size + 2 → (((w.alloc (Obj.cells #[Value.int IntKind.i64 z, Value.slice A zs.length c] 108)).alloc (Obj.cells #[Value.int IntKind.i64 0, Value.slice none 0 0] 108)).alloc (Obj.cells #[] 3)).drew.grownBy w1 (some (w.heap.size + 1 + 1)) → w1.cell? ⟨b, o, none⟩ = (((w.alloc (Obj.cells #[Value.int IntKind.i64 z, Value.slice A zs.length c] 108)).alloc (Obj.cells #[Value.int IntKind.i64 0, Value.slice none 0 0] 108)).alloc (Obj.cells #[] 3)).drew.cell? ⟨b, o, none⟩ := fun b o w1 hb hg =>
  hg.cell_far ⟨b, o, none⟩ (by show b < (((w.alloc _).alloc _).alloc _).heap.size; simp; omega) (by intro e; injection e with e; simp at e; omega)
 have KC0 := Lib.hid (fun w1 hg => (hfar w.heap.size 0 w1 (by omega) hg).trans (L1.cell 0 _ rfl))
 have KC1 := Lib.hid (fun w1 hg => (hfar w.heap.size 1 w1 (by omega) hg).trans (L1.cell 1 _ rfl))
 clear L1 hfar
 have KM := Lib.hid (fun (w1 : World) (hgrow : (((w.alloc (Obj.cells #[Value.int IntKind.i64 z, Value.slice A zs.length c] 108)).alloc (Obj.cells #[Value.int IntKind.i64 0, Value.slice none 0 0] 108)).alloc (Obj.cells #[] 3)).drew.grownBy w1 (some (w.heap.size + 1 + 1))) => L2.out.keep (w' := w1) (lo := w.heap.size + 2) (hi := w.heap.size + 3) ⟨hgrow.os, hgrow.tape, hgrow.output, hgrow.size, fun i hi hn => hgrow.block i hi (by intro e; injection e with e; omega)⟩ (by omega))
 go_enter Tryz.func183, Tryz.ntmps183
 go_wp2_with fail
 go_region_held3 (fun w' => w'.cell? ⟨w.heap.size, 0, none⟩ = some (.int .i64 z) ∧ w'.cell? ⟨w.heap.size, 1, none⟩ = some (.slice A zs.length c))
  (first | exact ⟨kc0, kc1⟩ | go_keep)
  ((refine step_append_row (by rfl) _ _ _ (by rfl) 3 i0 (.int .i64 0) 1 8 (w.heap.size + 2) hu.out HI.out HZ0.out HZ1.out HZ2.out (by rfl) (by decide) (.slice (some ⟨w.heap.size + 1 + 1, 0, none⟩) 0 0) 0 [] (by rfl) (by simpa using own.out.drew) A zs.length c (IntK.iv zs) (by rfl) (by simp [IntK.iv]) (hA.below b1.out) (fun u hu => by simp only [IntK.iv, List.mem_map] at hu; obtain ⟨x, _, rfl⟩ := hu; rfl) (by unfold maxLen; omega) (by omega) (by simp) ?_; intro v1 w1 hown hgrow; simp only [Nat.zero_add, List.nil_append] at hown; (obtain ⟨A1, c1, rfl, r1, f1, hcap1, _⟩ := of_own hown); (have kc0 : w1.cell? ⟨w.heap.size, 0, none⟩ = some (.int .i64 z) := KC0.out w1 hgrow); (have kc1 : w1.cell? ⟨w.heap.size, 1, none⟩ = some (.slice A zs.length c) := KC1.out w1 hgrow); (have m0 := (KM.out w1 hgrow).cell 0 (.int .i64 0) rfl); (have m1 := (KM.out w1 hgrow).cell 1 (.slice none 0 0) rfl); (have p0 := (KM.out w1 hgrow).frozen 0); (have p1 := (KM.out w1 hgrow).frozen 1)))
 have hgr : Below w.heap.size w w1 := b1.out.grown hgrow (by show w.heap.size ≤ (((w.alloc _).alloc _).alloc _).heap.size; simp; omega) (fun k hk => by simp [Value.ownBlock] at hk; omega)
 rw [IntK.iv_len] at f1
 have hk := LinI.keep_row (mid := w.heap.size + 2) hgr r1 f1 ((Mod.set w1 (p := ⟨w.heap.size + 1, 0, none⟩) (by simp) (by simp) (.int .i64 z)).trans (Mod.set _ (p := ⟨w.heap.size + 1, 1, none⟩) (by simp) (by simp) (.slice A1 zs.length c1))) (by omega) (by omega) (Nat.le_refl _)
 clear hown hgrow r1 f1 kc0 kc1
 go_wp2
 exact bodyPost_ret (v := .agg #[.int .i64 z, .slice A1 zs.length c1]) (by simp [results, Tryz.results183, go_sem, m0, m1]) rfl ⟨A1, c1, rfl, hk.1, hk.2.1, hk.2.2, hcap1⟩
end LinS
end Go.Proofs.YtbbllkhmenpnlaaGreat
