/-
  FormatConstraint, the program's and the model's.
-/
import Derived.Test.YtkeejkpeniinkaaDoorTextFmtS
namespace Go.Proofs.YtkeejkpeniinkaaDoor
open Go.RowKit
namespace TextI
open TextM RowK

theorem terms_len : ∀ (ps : List TItem) (t : List UInt8), (∀ p ∈ ps, p.1.natAbs ≤ 1000000000 ∧ p.2.size ≤ 8) → (ps.foldl addU t).length ≤ t.length + 21 * ps.length
  | [], t, _ => by simp
  | p :: ps, t, h => by
    have h1 := addU_len t p (h p List.mem_cons_self).1 (h p List.mem_cons_self).2
    have h2 := terms_len ps (addU t p) (fun q hq => h q (List.mem_cons_of_mem _ hq))
    simp only [List.foldl_cons, List.length_cons]
    omega
/-- A representation is short. -/
theorem F_len (ss : List ByteArray) (z : Int) (zs : List Int) : (F (okB ss) ss z zs).length ≤ 190 := by
  unfold F
  split
  · rename_i h
    have hs8 := okB_small h.1
    have HV := LinM.vldB_iff.1 h.2
    have hm : ∀ p ∈ mk ss z zs, p.1.natAbs ≤ 1000000000 ∧ p.2.size ≤ 8 := fun p hp => by
      unfold mk at hp
      rcases List.mem_append.1 hp with hp | hp
      · have := zip_mem hp
        exact ⟨inC_abs (HV.2.2.2 _ this.1), hs8 _ this.2⟩
      · rw [List.mem_singleton.1 hp]
        exact ⟨inC_abs HV.2.2.1, by show ByteArray.empty.size ≤ 8; decide⟩
    have h1 := terms_len (mk ss z zs) [] hm
    have h2 : (mk ss z zs).length ≤ 9 := by
      unfold mk
      rw [List.length_append, List.length_zip]
      simp; omega
    unfold fmt
    split
    · decide
    · show (List.foldl addU [] (mk ss z zs)).length ≤ 190
      simp only [List.length_nil] at h1
      omega
  · simp
/-- What is written of a constraint. -/
def C (t : List UInt8) : List UInt8 := if t = [] then [] else t ++ [32, 62, 61, 32, 48]

theorem endI (e t : List UInt8) (h : t.isEmpty = false) : C t = t ++ [32, 62, 61, 32, 48] := if_neg (by rintro rfl; cases h)

set_option maxHeartbeats 1000000 in
set_option maxRecDepth 100000 in
theorem cons (lo hi : Nat) (z : Int) (A B : Option Addr) (c d : Nat) (zs : List Int) (ss : List ByteArray) (w : World) (hA : Row lo hi w A (IntK.iv zs)) (hB : StrK.SRow w B ss) (hl : zs.length ≤ 1000000000) (hl2 : ss.length ≤ 1000000000)
    (hs : ∀ s ∈ ss, s.size ≤ 9223372036854775807) (htab : FmtI.Pow w) :
    Calls Tryd.prog 14 #[.agg #[.int .i64 z, .slice A zs.length c], .slice B ss.length d] w fun e w' => e = .returned (.string ⟨(C (F (okB ss) ss z zs)).toArray⟩) ∧ Below w.heap.size w w' := by
  have s0 : Below w.heap.size w (w.alloc (Obj.cells #[Value.int IntKind.i64 z, Value.slice A zs.length c] 29)) := (Below.refl _ _).alloc (Nat.le_refl _) _
  have FO := Lib.hid (format lo hi z A B c d zs ss _ (hA.below s0) (hB.below s0) hl hl2 hs (htab.below s0))
  have B0 := Lib.hid s0
  have hF := F_len ss z zs
  generalize F (okB ss) ss z zs = T at *
  have hcs : T = [] ∨ T.isEmpty = false := by cases T <;> simp
  have had := fun W => add W T [32, 62, 61, 32, 48] (by simp; omega)
  clear s0
  rcases hcs with rfl | hcs
  · go_enter Tryd.func14, Tryd.ntmps14
    go_wp2_with fail
    refine (Calls.mono FO.out) ?_
    rintro e w1 ⟨rfl, b1⟩
    have B1 := Lib.hid (B0.out.trans (b1.mono B0.out.size))
    go_wp2
    go_ret
    exact ⟨rfl, B1.out⟩
  · have HC := Lib.hid (endI [] T hcs)
    go_enter Tryd.func14, Tryd.ntmps14
    go_wp2_with fail
    refine (Calls.mono FO.out) ?_
    rintro e w1 ⟨rfl, b1⟩
    have B1 := Lib.hid (B0.out.trans (b1.mono B0.out.size))
    go_wp2
    go_ret
    exact ⟨ret_str HC.out.symm, B1.out⟩

set_option maxHeartbeats 1000000 in
set_option maxRecDepth 100000 in
theorem consS (lo hi : Nat) (z : Int) (A B : Option Addr) (c d : Nat) (zs : List Int) (ss : List ByteArray) (w : World) (hA : Row lo hi w A (IntK.iv zs)) (hB : StrK.SRow w B ss) (hl : zs.length ≤ 1000000000) (hl2 : ss.length ≤ 1000000000) (hcap : ss.length ≤ d)
    (hs : ∀ s ∈ ss, s.size ≤ 9223372036854775807) :
    Calls Tryd.prog 13 #[.agg #[.int .i64 z, .slice A zs.length c], .slice B ss.length d] w fun e w' => e = .returned (.string ⟨(C (F (okB ss) ss z zs)).toArray⟩) ∧ Below w.heap.size w w' := by
  have s0 : Below w.heap.size w (w.alloc (Obj.cells #[Value.int IntKind.i64 z, Value.slice A zs.length c] 29)) := (Below.refl _ _).alloc (Nat.le_refl _) _
  have FO := Lib.hid (TextS.format lo hi z A B c d zs ss _ (hA.below s0) (hB.below s0) hl hl2 hcap hs)
  have B0 := Lib.hid s0
  have hF := F_len ss z zs
  generalize F (okB ss) ss z zs = T at *
  have hcs : T = [] ∨ T.isEmpty = false := by cases T <;> simp
  have had := fun W => add W T [32, 62, 61, 32, 48] (by simp; omega)
  clear s0
  rcases hcs with rfl | hcs
  · go_enter Tryd.func13, Tryd.ntmps13
    go_wp2_with fail
    refine (Calls.mono FO.out) ?_
    rintro e w1 ⟨rfl, b1⟩
    have B1 := Lib.hid (B0.out.trans (b1.mono B0.out.size))
    go_wp2
    go_ret
    exact ⟨rfl, B1.out⟩
  · have HC := Lib.hid (endI [] T hcs)
    go_enter Tryd.func13, Tryd.ntmps13
    go_wp2_with fail
    refine (Calls.mono FO.out) ?_
    rintro e w1 ⟨rfl, b1⟩
    have B1 := Lib.hid (B0.out.trans (b1.mono B0.out.size))
    go_wp2
    go_ret
    exact ⟨ret_str HC.out.symm, B1.out⟩
end TextI
end Go.Proofs.YtkeejkpeniinkaaDoor
