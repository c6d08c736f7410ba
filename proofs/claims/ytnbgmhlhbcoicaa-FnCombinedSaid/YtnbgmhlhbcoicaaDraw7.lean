import Derived.Test.YtnbgmhlhbcoicaaDraw6c
import Derived.Test.YtnbgmhlhbcoicaaDrawInt
import Derived.Test.YtnbgmhlhbcoicaaDrawBool
import Derived.Test.YtnbgmhlhbcoicaaLinImpl2
/-
  The draws of the seventh chapter: multipliers.
-/
namespace Go.Proofs.Ytnbgmhlhbcoicaa
open Go.RowKit
namespace Draw
open RowK Mem LinM

theorem own_kept {w w' : World} {base sz k g : Nat} {e : TypeId} {v : Value} {vs : List Value} (h : w.ownsRow base e sz v k vs) (m : Mod g (g + 1) w w') (hg : g < base) : w'.ownsRow base e sz v k vs :=
  h.kept (grown_of_mod m) (by
    by_cases hv : v.ownBlock = none
    · exact Or.inl hv
    · exact Or.inr (fun e => by have := (h.lt g e).1; omega))
theorem kept_append {w w4 w5 : World} {g n c base sz k : Nat} {A : Option Addr} {e : TypeId} {v : Value} {vs : List Value} (h : w4.ownsRow base e sz v k vs) (hK : Kept w g A n c w4) (hb : base = w.heap.size) (hgl : g < w.heap.size) (o : Obj) (hg : (w4.alloc o).grownBy w5 v.ownBlock) : Kept w g A n c w5 :=
  (hK.alloc o).grown hg hgl (fun r e => by have := (h.lt r e).1; omega)
theorem store_iv0 {lo hi : Nat} {w : World} {b o : Nat} {zs : List Int} (h : Row lo hi w (some ⟨b, o, none⟩) (IntK.iv zs)) (hk : 0 < zs.length) (x : Int) : Row lo hi (w.setCell ⟨b, o + 0, none⟩ (.int .i64 x)) (some ⟨b, o, none⟩) (IntK.iv (zs.set 0 x)) := LinI.store_iv h hk x
/-- Some numbers in new memory. -/
def SomeInts (w : World) (g : Nat) (A : Option Addr) (n c k : Nat) (e : Ending) (w' : World) : Prop :=
  ∃ (B : Option Addr) (d : Nat) (ms : List Int), e = .returned (.slice B ms.length d) ∧ ms.length = k ∧ IntK.Own w.heap.size w'.heap.size w' B ms ∧ Kept w g A n c w'
def MultRel (w : World) (g : Nat) (A : Option Addr) (n c : Nat) (v i : Value) (wr : World) : Prop :=
  ∃ (k : Nat) (u : Value) (ms : List Int), k ≤ 1000000 ∧ v = u ∧ i = .int .i64 k ∧ ms.length = k ∧ wr.ownsRow w.heap.size 3 1 u ms.length (IntK.iv ms) ∧ Kept w g A n c wr
def mults : List Int := [0, 0, 1, 1, 2]
def mults2 : List Int := [-1, 1000000000, 1000000001]
theorem own_empty (w : World) : (w.alloc (.cells #[] 3)).ownsRow w.heap.size 3 1 (.slice (some ⟨w.heap.size, 0, none⟩) 0 0) 0 [] :=
  ⟨by simp, Or.inr ⟨_, 0, #[], rfl, Nat.le_refl _, heap_alloc_new _ _, by simp, by simp, by simp, by simp⟩⟩
set_option maxHeartbeats 2000000 in
set_option maxRecDepth 100000 in
theorem mult7 (g : Nat) (A : Option Addr) (n c m : Nat) (hm : m ≤ 1000000) (w : World) (hC : Cur w g A n c) :
    Calls Try.prog 45 #[.pointer (some ⟨g, 0, none⟩), .int .i64 m] w (SomeInts w g A n c m) := by
  have HC := Lib.hid (kept_refl hC)
  have hgl := hC.lt
  obtain ⟨i0, hi0, hz0, hz1, hz2⟩ := info_parts IntK.intInfo
  have O0 := Lib.hid (own_empty w)
  have K0 := Lib.hid (HC.out.alloc (.cells #[] 3))
  go_enter Try.func45, Try.ntmps45
  go_wp2
  go_loopw [5, 6] (fun v i wr => MultRel w g A n c v i wr ∧ (intOf i).toNat ≤ m) (fun _ i _ => m - (intOf i).toNat)
  case atStart => exact ⟨⟨0, _, [], by omega, rfl, rfl, rfl, O0.out, K0.out⟩, Nat.zero_le _⟩
  case round =>
    obtain ⟨⟨k, u, ms, hk, rfl, rfl, hl, hO, hK⟩, hkm⟩ := hrel
    have hkm : k ≤ m := by simpa [intOf] using hkm
    have HO := Lib.hid hO
    have HL := Lib.hid hl
    have HK := Lib.hid hK
    have hws : w.heap.size ≤ wr.heap.size := hK.2.size
    clear hO hl hK O0 K0
    by_cases hlt : k < m
    · have hi0' : (0 : Int) ≤ (k : Int) := by omega
      have hi1' : (k : Int) < (m : Int) := by omega
      have hba : Below wr.heap.size wr (wr.alloc (.cells (mults.map (Value.int .i64)).toArray 3)) := (Below.refl _ _).alloc (Nat.le_refl _) _
      have HBA := Lib.hid hba
      have PK := Lib.hid (pickInt g A n c (some ⟨wr.heap.size, 0, none⟩) 5 5 mults rfl (by decide) (by omega) _ (HK.out.1.keep hba) (irow_new wr mults 3) (fun b e => by injection e with e; subst e; show wr.heap.size ≠ g; omega))
      clear hba
      go_wp2_with fail
      refine (Calls.mono PK.out) ?_
      rintro e w4 ⟨x, hx, rfl, hL4⟩
      have k4 := (left_keep (Nat.lt_of_lt_of_le hgl hws) HBA.out hL4).kept
      have O4 := Lib.hid (own_kept HO.out k4.2 hgl)
      have K4 := Lib.hid (HK.out.trans k4)
      have hs4 := k4.2.size
      clear k4 hL4
      go_wp2_with (at_builtin; go_loud (refine wpList_append_own _ rfl (.tmp 13) (.tmp 17) 27 rfl w.heap.size 3 i0 (.int .i64 0) 1 8 Try.underlying27 hi0 hz0 hz1 hz2 rfl (by decide) _ _ _ rfl (O4.out.alloc _) ⟨w4.heap.size, 0, none⟩ 1 1 [.int .i64 x] rfl rfl (cell_one_new _ _ _) (by simp [Value.oneCell']) (by unfold maxLen; have := HL.out; omega) (by have := HL.out; omega) (by simp <;> omega) ?_); intro v4 w4' hown4 hgrow _)
      have hK5 := kept_append O4.out K4.out rfl hgl _ hgrow
      have hown5 : w4'.ownsRow w.heap.size 3 1 v4 (ms ++ [x]).length (IntK.iv (ms ++ [x])) := by simpa [IntK.iv] using hown4
      have hl5 : (ms ++ [x]).length = k + 1 := by have := HL.out; simp; omega
      clear hown4 hgrow
      generalize ms ++ [x] = ms2 at *
      have HN5 := Lib.hid hl5
      have HO5 := Lib.hid hown5
      have HK5 := Lib.hid hK5
      clear hl5 hown5 hK5 O4 K4 HO HK HL
      go_wp2
      go_roundw
      case rel => exact ⟨⟨k + 1, _, ms2, by omega, rfl, by go_num, HN5.out, HO5.out, HK5.out⟩, by simp [intOf]; omega⟩
      case measure => simp [intOf]; omega
    · obtain rfl : k = m := by omega
      obtain ⟨B, d, e5, r5, f5, _, _⟩ := of_own HO.out
      subst e5
      have RF := Lib.hid (show IntK.Own w.heap.size wr.heap.size wr B ms from ⟨r5, by rw [IntK.iv_len] at f5; exact f5⟩)
      have hlz : decide ((k : Int) < (k : Int)) = false := by simp
      clear r5 f5 HO
      by_cases h0 : k = 0
      · subst h0
        go_wp2
        go_ret
        exact ⟨B, d, ms, rfl, HL.out, RF.out, HK.out⟩
      · have hk0 : decide ((0 : Int) < (k : Int)) = true := by simp; omega
        go_wp2_with fail
        refine (once g A n c 12 (by omega) _ HK.out.1).mono ?_
        rintro e w3 ⟨q, rfl, hL⟩
        have k3 := hL.kept
        have K3 := Lib.hid (HK.out.trans k3)
        have R3 := Lib.hid (RF.out.keep k3.2 (by omega))
        have hs3 := k3.2.size
        clear k3 hL
        cases q with
        | false =>
          have RW := Lib.hid (show IntK.Own w.heap.size w3.heap.size w3 B ms from ⟨R3.out.1.wider (Nat.le_refl _) hs3 (Nat.le_refl _), R3.out.2⟩)
          go_wp2
          go_ret
          exact ⟨B, d, ms, rfl, HL.out, RW.out, K3.out⟩
        | true =>
          have hms : 0 < ms.length := by have := HL.out; omega
          have hba : Below w3.heap.size w3 (w3.alloc (.cells (mults2.map (Value.int .i64)).toArray 3)) := (Below.refl _ _).alloc (Nat.le_refl _) _
          have HBA := Lib.hid hba
          have PK := Lib.hid (pickInt g A n c (some ⟨w3.heap.size, 0, none⟩) 3 3 mults2 rfl (by decide) (by omega) _ (K3.out.1.keep hba) (irow_new w3 mults2 3) (fun b e => by injection e with e; subst e; show w3.heap.size ≠ g; omega))
          obtain ⟨b, o, rfl, hbr, _⟩ := R3.out.1 (fun e => by have e2 := congrArg List.length e; rw [IntK.iv_len] at e2; simp at e2; rw [e2] at hms; simp at hms)
          have hlen0 : ((0 : Int) < (ms.length : Int)) := by omega
          clear hba
          go_wp2_with fail
          refine (Calls.mono PK.out) ?_
          rintro e w4 ⟨x, hx, rfl, hL4⟩
          have k4 := (left_keep (by omega) HBA.out hL4).kept
          have K4 := Lib.hid (K3.out.trans k4)
          have R4 := R3.out.keep k4.2 (by omega)
          have hs4 := k4.2.size
          obtain ⟨b', o', e', _, hc4⟩ := IntK.at_ R4.1 hms
          injection e' with e'
          injection e' with e1 e2
          subst e1
          subst e2
          have hf4 := R4.2 hms _ _ rfl 0 hms
          have ST := store_iv0 R4.1 hms x
          have SF := R4.2.set ⟨b, o + 0, none⟩ (.int .i64 x)
          have SK := K4.out.set hgl (p := ⟨b, o + 0, none⟩) (by show w.heap.size ≤ b; omega) (.int .i64 x)
          rw [Nat.add_zero] at hc4 hf4 ST SF SK
          have HRES := Lib.hid (And.intro ST (And.intro SF SK))
          clear k4 hL4 R4 ST SF SK
          go_wp2
          go_ret
          exact ⟨some ⟨b, o, none⟩, d, ms.set 0 x, by simp, by simpa using HL.out, ⟨HRES.out.1.wider (Nat.le_refl _) (by simp; omega) (Nat.le_refl _), by simpa using HRES.out.2.1⟩, HRES.out.2.2⟩
end Draw
end Go.Proofs.Ytnbgmhlhbcoicaa
