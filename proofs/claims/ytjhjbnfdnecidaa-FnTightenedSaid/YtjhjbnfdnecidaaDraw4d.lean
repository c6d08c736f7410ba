/-
  The draws of the fourth chapter: what the law on tightened constraints is asked at.
-/
import Derived.Test.YtjhjbnfdnecidaaDraw4c
import Derived.Test.YtjhjbnfdnecidaaArithSpec
namespace Go.Proofs.Ytjhjbnfdnecidaa
open Go.RowKit
namespace Draw
open RowK

/-- A linear expression that may be out of range. -/
def AnyLin (w : World) (e : Ending) (w' : World) : Prop :=
  ∃ z zs B d lo hi, e = .returned (.agg #[.int .i64 z, .slice B zs.length d]) ∧ Any4 z zs d ∧ zs.length ≤ d ∧ Row lo hi w' B (IntK.iv zs) ∧ Below w.heap.size w w'

theorem prod_range (x k : Int) : I64 ((ArithM.mulL x k).getD 0) := by
  unfold ArithM.mulL
  split
  · rename_i h
    have := h.2.2
    simp only [ArithM.inC, Bool.and_eq_true, decide_eq_true_eq] at this
    exact ⟨by simp; omega, by simp; omega⟩
  · exact ⟨by simp, by simp⟩

theorem any_fin {w wr : World} {lo hi d m : Nat} {B : Option Addr} {z : Int} {zs : List Int} (hb : Below w.heap.size w wr) (hO : Row lo hi wr B (IntK.iv zs)) (h1 : w.heap.size + 1 ≤ lo) (hP : Any4 z zs d) (hm : zs.length = m) (hd : m ≤ d) :
    AnyLin w (.returned (.agg #[.int .i64 z, .slice B m d])) ((wr.setCell ⟨w.heap.size, 0, none⟩ (.int .i64 z)).setCell ⟨w.heap.size, 1, none⟩ (.slice B m d)) := by
  have mm : Mod w.heap.size (w.heap.size + 1) wr ((wr.setCell ⟨w.heap.size, 0, none⟩ (.int .i64 z)).setCell ⟨w.heap.size, 1, none⟩ (.slice B m d)) := (Mod.set _ (p := ⟨w.heap.size, 0, none⟩) (Nat.le_refl _) (Nat.lt_succ_self _) _).trans (Mod.set _ (p := ⟨w.heap.size, 1, none⟩) (Nat.le_refl _) (Nat.lt_succ_self _) _)
  subst hm
  exact ⟨z, zs, B, d, lo, hi, rfl, hP, hd, hO.keep mm (Or.inr h1), (hb.setCell (by simp) _).setCell (by simp) _⟩

set_option maxHeartbeats 2000000 in
set_option maxRecDepth 100000 in
theorem drawTighten (A : Option Addr) (n c : Nat) (hn : n ≤ 1048576) (w : World) (hc : Code w A n) :
    Calls Try.prog 22 #[.slice A n c] w (AnyLin w) := by
  have b0 : Below w.heap.size w (w.alloc (Obj.cells #[Value.int IntKind.i64 0, Value.slice none 0 0] 26)) := (Below.refl _ _).alloc (Nat.le_refl _) _
  have B0 := Lib.hid b0
  have La := Lib.hid (Lvar.new w #[Value.int IntKind.i64 0, Value.slice none 0 0] 26)
  have MUL := Lib.hid ArithS.mul
  clear b0
  go_enter Try.func22, Try.ntmps22
  go_wp2_with fail
  refine (new A n c hn _ (hc.keep B0.out)).mono ?_
  rintro e w1 ⟨g, rfl, hC, hg, hb⟩
  simp only [World.size_alloc] at hg
  have B1 := Lib.hid (B0.out.trans (hb.mono B0.out.size))
  have La1 := Lib.hid (La.out.below hb)
  have hgl := hC.lt
  have hl1 := La1.out.lt
  clear hb La
  go_wp2_with fail
  refine (bent4 g A n c _ hC).mono ?_
  rintro e w2 ⟨z, zs, B, d, rfl, hP, hd, hO, hK⟩
  have K2 := Lib.hid hK
  have m2 := hK.2
  have La2 := Lib.hid (La1.out.keep m2 (by omega))
  have O2 := Lib.hid hO
  have hs2 := m2.size
  have HP := Lib.hid hP
  have HD := Lib.hid hd
  clear hK m2 hO La1 hP hd
  go_wp2_with fail
  refine (once g A n c 2 (by omega) _ (K2.out.alloc _).1).mono ?_
  rintro e w3 ⟨q, rfl, hL⟩
  have m3 := hL.kept.2
  have hs3 : w2.heap.size + 1 ≤ w3.heap.size := by have := m3.size; simpa using this
  have K3 := Lib.hid ((K2.out.alloc _).trans hL.kept)
  have V3 := Lib.hid ((Lvar.new w2 #[Value.int IntKind.i64 z, Value.slice B zs.length d] 26).keep m3 (by omega))
  have La3 := Lib.hid ((La2.out.alloc _).keep m3 (by omega))
  have O3 := Lib.hid ((O2.out.below ((Below.refl _ _).alloc (Nat.le_refl _) _)).keep m3 (by omega))
  clear hL m3 K2 La2 O2
  cases q with
  | false =>
    have v30 := V3.out.cell 0 _ rfl
    have v31 := V3.out.cell 1 _ rfl
    have r0 := La3.out.cell 0 _ rfl
    have r1 := La3.out.cell 1 _ rfl
    have q0 := La3.out.frozen 0
    have q1 := La3.out.frozen 1
    have F := Lib.hid (any_fin (z := z) (kept_new B1.out (by omega) K3.out) O3.out.1 (by omega) HP.out rfl HD.out)
    go_wp2
    exact bodyPost_ret (v := .agg #[.int .i64 z, .slice B zs.length d]) (by simp [results, Try.results22, go_sem, r0, r1]) rfl F.out
  | true =>
    go_wp2_with fail
    refine (below g A n c 3 (by omega) _ K3.out.1).mono ?_
    rintro e w4 ⟨x, hx0, hx1, _, rfl, hL⟩
    have hx2 := hx1 (by omega)
    have hw4 : IntKind.i64.wrap (2 + x) = 2 + x := IntWalk.i64_in _ (by omega)
    have m4 := hL.kept.2
    have K4 := Lib.hid (K3.out.trans hL.kept)
    have V4 := Lib.hid (V3.out.keep m4 (by omega))
    have La4 := Lib.hid (La3.out.keep m4 (by omega))
    have O4 := Lib.hid (O3.out.keep m4 (by omega))
    have hs4 := m4.size
    clear hL m4 hx1 K3 V3 La3 O3
    have hz9 : zs.length ≤ 9 := HP.out.2.1
    go_wp2
    go_loopw [6] (fun i wr => ∃ (k : Nat) (us : List Int), k ≤ zs.length ∧ i = .int .i64 k ∧ us.length = zs.length ∧ (∀ x ∈ us, I64 x) ∧ IntK.Own w1.heap.size w2.heap.size wr B us ∧ Kept w1 g A n c wr ∧ w4.heap.size ≤ wr.heap.size ∧ Lvar wr w2.heap.size #[.int .i64 z, .slice B zs.length d] ∧ Lvar wr w.heap.size #[Value.int IntKind.i64 0, Value.slice none 0 0]) (fun i _ => zs.length - (intOf i).toNat)
    case atStart => exact ⟨0, zs, Nat.zero_le _, rfl, rfl, HP.out.2.2, O4.out, K4.out, Nat.le_refl _, V4.out, La4.out⟩
    case round =>
      obtain ⟨k, us, hk, rfl, hl, hr, hO, hK, hsz, hL, l0⟩ := hrel
      have HL := Lib.hid hl
      have HR := Lib.hid hr
      have HO := Lib.hid hO
      have HK := Lib.hid hK
      have HV := Lib.hid hL
      have HW := Lib.hid l0
      have v0 := HV.out.cell 0 _ rfl
      have v1 := HV.out.cell 1 _ rfl
      clear hl hr hO hK hL l0
      by_cases hlt : k < zs.length
      · obtain ⟨ab, ao, ea, hba, hcl⟩ := IntK.at_ HO.out.1 (k := k) (by rw [HL.out]; exact hlt)
        subst ea
        have hfr := HO.out.2 (by rw [HL.out]; omega) ab ao rfl k (by rw [HL.out]; exact hlt)
        have hkz : k < us.length := by rw [HL.out]; exact hlt
        generalize us[k] = y at *
        have hab' : ab ≠ w2.heap.size := by omega
        have hk0 : (0 : Int) ≤ (k : Int) := by omega
        have hk1 : (k : Int) < (zs.length : Int) := by omega
        go_wp2_with fail
        refine (MUL.out y (2 + x) _).mono ?_
        rintro e w' ⟨rfl, rfl⟩
        have hy := prod_range y (2 + x)
        generalize (ArithM.mulL y (2 + x)).getD 0 = t at *
        have S1 := Lib.hid (show IntK.Own w1.heap.size w2.heap.size (wr.setCell ⟨ab, ao + k, none⟩ (.int .i64 t)) (some ⟨ab, ao, none⟩) (us.set k t) from ⟨LinI.store_iv HO.out.1 hkz t, by rw [List.length_set]; exact HO.out.2.set _ _⟩)
        have S2 := Lib.hid (HK.out.set hgl (p := ⟨ab, ao + k, none⟩) (by show w1.heap.size ≤ ab; omega) (.int .i64 t))
        have S3 := Lib.hid (HV.out.other (p := ⟨ab, ao + k, none⟩) (Ne.symm hab') (.int .i64 t))
        have S4 := Lib.hid (HW.out.other (p := ⟨ab, ao + k, none⟩) (show w.heap.size ≠ ab by omega) (.int .i64 t))
        have S5 := Lib.hid (show ∀ y ∈ us.set k t, I64 y from fun y hy' => by
          rcases List.mem_or_eq_of_mem_set hy' with h | rfl
          · exact HR.out y h
          · exact hy)
        have hsz2 : w4.heap.size ≤ (wr.setCell ⟨ab, ao + k, none⟩ (.int .i64 t)).heap.size := by simp; omega
        clear hy
        go_wp2
        go_roundw
        case rel => exact ⟨k + 1, us.set k t, by omega, by go_num, by rw [List.length_set]; exact HL.out, S5.out, S1.out, S2.out, hsz2, S3.out, S4.out⟩
        case measure => simp [intOf]; omega
      · have r0 := HW.out.cell 0 _ rfl
        have r1 := HW.out.cell 1 _ rfl
        have q0 := HW.out.frozen 0
        have q1 := HW.out.frozen 1
        have F := Lib.hid (any_fin (z := z) (kept_new B1.out (by omega) HK.out) HO.out.1 (by omega) ⟨HP.out.1, by rw [HL.out]; exact hz9, HR.out⟩ HL.out HD.out)
        have hmk : decide ((k : Int) < (zs.length : Int)) = false := by simp; omega
        go_wp2
        exact bodyPost_ret (v := .agg #[.int .i64 z, .slice B zs.length d]) (by simp [results, Try.results22, go_sem, r0, r1]) rfl F.out
end Draw
end Go.Proofs.Ytjhjbnfdnecidaa
