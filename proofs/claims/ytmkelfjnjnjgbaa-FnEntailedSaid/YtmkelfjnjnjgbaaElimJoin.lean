import Derived.Test.YtmkelfjnjnjgbaaElimRep
import Derived.Test.YtmkelfjnjnjgbaaArithSpec
import Derived.Test.YtmkelfjnjnjgbaaLinK
import Derived.OwnWalk
import Derived.Test.YtmkelfjnjnjgbaaLinSpec3
import Derived.Test.YtmkelfjnjnjgbaaLinImpl2
import Derived.Deep.DeepCutAuto
import Derived.Deep.RegionHeld3
import Derived.IntWalk
/-
  The model's elimination: scaled sums of multipliers.
-/
namespace Go.Proofs.Ytmkelfjnjnjgbaa
open Go.RowKit
namespace ElimM
theorem scl_step {a b : Int} : ∀ {k : Nat} {x y vs : List Int} {v : Int} (h1 : k < x.length) (h2 : k < y.length), scl a b (x.take k) (y.take k) = some vs → scl1 a b x[k] y[k] = some v → scl a b (x.take (k + 1)) (y.take (k + 1)) = some (vs ++ [v])
  | 0, x :: xs, y :: ys, vs, v, _, _, h, hv => by
    simp [scl] at h
    subst h
    simp only [List.getElem_cons_zero] at hv
    simp [scl, hv]
  | k + 1, x :: xs, y :: ys, vs, v, h1, h2, h, hv => by
    simp only [List.take_succ_cons, scl] at h
    obtain ⟨u, hu, h3⟩ := Option.bind_eq_some_iff.1 h
    obtain ⟨r, hr, rfl⟩ := Option.map_eq_some_iff.1 h3
    have := scl_step (k := k) (x := xs) (y := ys) (vs := r) (v := v) (by simpa using h1) (by simpa using h2) hr (by simpa using hv)
    rw [List.take_succ_cons, List.take_succ_cons]
    simp only [scl]
    rw [hu, Option.bind_some, this]
    rfl
theorem scl_stop {a b : Int} : ∀ {k : Nat} {x y vs : List Int} (h1 : k < x.length) (h2 : k < y.length), scl a b (x.take k) (y.take k) = some vs → scl1 a b x[k] y[k] = none → scl a b x y = none
  | 0, x :: xs, y :: ys, vs, _, _, _, hv => by
    simp only [List.getElem_cons_zero] at hv
    simp [scl, hv]
  | k + 1, x :: xs, y :: ys, vs, h1, h2, h, hv => by
    simp only [List.take_succ_cons, scl] at h
    obtain ⟨u, hu, h3⟩ := Option.bind_eq_some_iff.1 h
    obtain ⟨r, hr, rfl⟩ := Option.map_eq_some_iff.1 h3
    have := scl_stop (k := k) (x := xs) (y := ys) (vs := r) (by simpa using h1) (by simpa using h2) hr (by simpa using hv)
    simp only [scl]
    rw [hu, Option.bind_some, this]
    rfl
end ElimM
namespace ElimS
open RowK Mem ElimM ArithM

/-- Multipliers in new memory, or none. -/
def GaveI (w : World) (r : Option (List Int)) (e : Ending) (w' : World) : Prop :=
  ∃ A c, e = .returned (.tuple #[.slice A (r.getD []).length c, .bool r.isSome]) ∧ Row w.heap.size w'.heap.size w' A (IntK.iv (r.getD [])) ∧ (r.getD []).length ≤ c ∧ Below w.heap.size w w'
def SclRel (w : World) (a b : Int) (x y : List Int) (v i : Value) (wr : World) : Prop :=
  ∃ (k : Nat) (vs : List Int), k ≤ x.length ∧ i = .int .i64 k ∧ vs.length = k ∧ scl a b (x.take k) (y.take k) = some vs ∧ wr.ownsRow w.heap.size 3 1 v vs.length (IntK.iv vs) ∧ Below w.heap.size w wr
theorem own_empty (w : World) : (w.alloc (.cells #[] 3)).ownsRow w.heap.size 3 1 (.slice (some ⟨w.heap.size, 0, none⟩) 0 0) 0 [] :=
  ⟨by simp, Or.inr ⟨_, 0, #[], rfl, Nat.le_refl _, heap_alloc_new _ _, by simp, by simp, by simp, by simp⟩⟩

set_option maxHeartbeats 2000000 in
set_option maxRecDepth 100000 in
theorem scaled (lo hi lo' hi' : Nat) (A B : Option Addr) (c d : Nat) (x y : List Int) (a b : Int) (w : World) (hA : Row lo hi w A (IntK.iv x)) (hB : Row lo' hi' w B (IntK.iv y)) (hl : x.length = y.length) (hx : x.length ≤ 1000) :
    Calls Try.prog 103 #[.slice A x.length c, .int .i64 a, .slice B y.length d, .int .i64 b] w (GaveI w (scl a b x y)) := by
  obtain ⟨i0, hi0, hz0, hz1, hz2⟩ := info_parts IntK.intInfo
  have HLEN := Lib.hid hl
  have HA := Lib.hid hA
  have HB := Lib.hid hB
  have MU := Lib.hid ArithS.mul
  have AD := Lib.hid ArithS.add
  have O0 := Lib.hid (own_empty w)
  have B0 := Lib.hid (show Below w.heap.size w (w.alloc (.cells #[] 3)) from (Below.refl _ _).alloc (Nat.le_refl _) _)
  have HN := Lib.hid (fun k vs (h1 : k < x.length) (h2 : k < y.length) h h3 => scl_stop (a := a) (b := b) (k := k) (x := x) (y := y) (vs := vs) h1 h2 h h3)
  have HALL := Lib.hid (fun vs (h : scl a b (x.take x.length) (y.take x.length) = some vs) => (show scl a b x y = some vs by rw [List.take_length, HLEN.out, List.take_length] at h; exact h))
  generalize scl a b x y = R at *
  clear hA hB hl
  go_enter Try.func103, Try.ntmps103
  go_wp2
  go_loopw [10, 11] (fun v i wr => SclRel w a b x y v i wr) (fun _ i _ => x.length - (intOf i).toNat)
  case atStart => exact ⟨0, [], Nat.zero_le _, rfl, rfl, rfl, O0.out, B0.out⟩
  case round =>
    obtain ⟨k, vs, hk, rfl, hlen, hs, hown, hb⟩ := hrel
    have HS := Lib.hid hs
    have HO := Lib.hid hown
    have HL := Lib.hid hlen
    have HBB := Lib.hid hb
    clear hs hown hlen hb O0 B0
    by_cases hlt : k < x.length
    · have hlt2 : k < y.length := by rw [← HLEN.out]; exact hlt
      obtain ⟨b1, o1, rfl, _, c1⟩ := IntK.at_ (HA.out.below HBB.out) hlt
      obtain ⟨b2, o2, rfl, _, c2⟩ := IntK.at_ (HB.out.below HBB.out) hlt2
      have hi0' : (0 : Int) ≤ (k : Int) := by omega
      have hi1' : (k : Int) < (x.length : Int) := by omega
      have hi2' : (k : Int) < (y.length : Int) := by omega
      have HNO := Lib.hid (fun h => HN.out k vs hlt hlt2 HS.out h)
      have HYE := Lib.hid (fun v h => scl_step (a := a) (b := b) (k := k) (v := v) hlt hlt2 HS.out h)
      have H1 := Lib.hid (show scl1 a b x[k] y[k] = (mulL x[k] a).bind fun p => (mulL y[k] b).bind fun q => addL p q from rfl)
      generalize scl1 a b x[k] y[k] = r1 at *
      generalize x[k] = xk at *
      generalize y[k] = yk at *
      have M1 := Lib.hid (MU.out xk a wr)
      have M2 := Lib.hid (MU.out yk b wr)
      have A3 := Lib.hid (AD.out ((mulL xk a).getD 0) ((mulL yk b).getD 0) wr)
      go_wp2_with fail
      refine (Calls.mono M1.out) ?_
      rintro e w1 ⟨rfl, rfl⟩
      go_wp2_with fail
      refine (Calls.mono M2.out) ?_
      rintro e w1 ⟨rfl, rfl⟩
      go_wp2_with fail
      refine (Calls.mono A3.out) ?_
      rintro e w1 ⟨rfl, rfl⟩
      clear M1 M2 A3 MU AD c1 c2
      have hfail : r1 = none → GaveI w R (.returned (.tuple #[.slice (some ⟨wr.heap.size, 0, none⟩) 0 0, .bool false])) (wr.alloc (.cells #[] 3)) := fun h => by
        rw [HNO.out h]
        exact ⟨_, 0, rfl, row_nil _ _ _ _, Nat.le_refl _, HBB.out.alloc HBB.out.size _⟩
      have HF := Lib.hid hfail
      clear hfail HNO HN
      cases h1 : mulL xk a with
      | none =>
        have HR := Lib.hid (HF.out (by rw [H1.out, h1]; rfl))
        go_wp2
        go_ret2
        exact HR.out
      | some p =>
        cases h2 : mulL yk b with
        | none =>
          have HR := Lib.hid (HF.out (by rw [H1.out, h1, h2]; rfl))
          go_wp2
          go_ret2
          exact HR.out
        | some q =>
          simp only [Option.getD_some]
          cases h3 : addL p q with
          | none =>
            have HR := Lib.hid (HF.out (by rw [H1.out, h1, h2]; exact h3))
            go_wp2
            go_ret2
            exact HR.out
          | some v =>
            have HT := Lib.hid (HYE.out v (by rw [H1.out, h1, h2]; exact h3))
            clear HF HYE H1 h1 h2 h3
            go_wp2_with (at_builtin; go_loud (refine wpList_append_own _ rfl (.tmp 60) (.tmp 62) 27 rfl w.heap.size 3 i0 (.int .i64 0) 1 8 Try.underlying27 hi0 hz0 hz1 hz2 rfl (by decide) _ _ _ rfl (HO.out.alloc _) ⟨wr.heap.size, 0, none⟩ 1 1 [.int .i64 v] rfl rfl (cell_one_new _ _ _) (by simp [Value.oneCell']) (by unfold maxLen; have := HL.out; omega) (by have := HL.out; omega) (by have := HBB.out.size; simp <;> omega) ?_); intro v4 w4 hown4 hgrow _)
            have hb4 : Below w.heap.size w w4 := (HBB.out.alloc HBB.out.size _).grown hgrow (by have := HBB.out.size; simp <;> omega) (fun j hj => (HO.out.lt j hj).1)
            have hown5 : w4.ownsRow w.heap.size 3 1 v4 (vs ++ [v]).length (IntK.iv (vs ++ [v])) := by simpa [IntK.iv] using hown4
            have hl5 : (vs ++ [v]).length = k + 1 := by have := HL.out; simp; omega
            have HT2 := HT.out
            clear hown4 hgrow HT
            generalize vs ++ [v] = vs2 at *
            have HN5 := Lib.hid hl5
            have HT3 := Lib.hid HT2
            clear hl5 HT2
            go_wp2
            go_roundw
            case rel => exact ⟨k + 1, vs2, by omega, by go_num, HN5.out, HT3.out, hown5, hb4⟩
            case measure => simp [intOf]; omega
    · obtain rfl : k = x.length := by omega
      obtain ⟨G, g, e5, r5, f5, hg, _⟩ := of_own HO.out
      subst e5
      have HR := Lib.hid (HALL.out vs HS.out)
      have hlz : decide ((x.length : Int) < (x.length : Int)) = false := by simp
      clear HALL HS HN
      go_wp2
      go_ret2
      exact ⟨G, g, by rw [HR.out]; rfl, by rw [HR.out]; exact r5.wider (Nat.le_refl _) (Nat.le_refl _) (Nat.le_refl _), by rw [HR.out]; exact hg, HBB.out⟩
end ElimS
end Go.Proofs.Ytmkelfjnjnjgbaa

/-
  The model's elimination: the combination of two derived rows.
-/
namespace Go.Proofs.Ytmkelfjnjnjgbaa
open Go.RowKit
namespace ElimS
open RowK Mem ElimM ArithM LinM

theorem max1 (a : Int) (w : World) : Calls Try.prog 55 #[.int .i64 a, .int .i64 1] w fun e w' => e = .returned (.int .i64 (mx1 a)) ∧ w = w' := by
  unfold mx1
  by_cases h : 1 < a
  · rw [if_pos h]
    go_enter Try.func55, Try.ntmps55
    go_wp2
    go_ret
    exact ⟨rfl, rfl⟩
  · rw [if_neg h]
    have hd : decide (1 < a) = false := decide_eq_false h
    go_enter Try.func55, Try.ntmps55
    go_wp2
    go_ret
    exact ⟨rfl, rfl⟩
theorem mx1_pos (a : Int) : 1 ≤ mx1 a := by unfold mx1; split <;> omega

/-- A derived row in new memory, or none. -/
def GaveD (w : World) (r : Option DR) (e : Ending) (w' : World) : Prop :=
  ∃ z A n a B m b, e = .returned (.tuple #[.agg #[.int .i64 z, .slice A n a, .slice B m b], .bool r.isSome]) ∧ (∀ d, r = some d → z = d.1.1 ∧ n = d.1.2.length ∧ m = d.2.length ∧ n ≤ a ∧ m ≤ b ∧ Row w.heap.size w'.heap.size w' A (IntK.iv d.1.2) ∧ Row w.heap.size w'.heap.size w' B (IntK.iv d.2)) ∧ Below w.heap.size w w'
/-- .. with what is known of the capacity. -/
def AfterO (w : World) (r : Option (Int × List Int)) (s t : Value) (wx : World) : Prop :=
  ∃ b A c, s = .pointer (some ⟨b, 0, none⟩) ∧ t = .bool r.isSome ∧ w.heap.size ≤ b ∧ Lvar wx b #[.int .i64 (r.getD (0, [])).1, .slice A (r.getD (0, [])).2.length c] ∧ Row w.heap.size wx.heap.size wx A (IntK.iv (r.getD (0, [])).2) ∧ (r.getD (0, [])).2.length ≤ c ∧ Below w.heap.size w wx
theorem afterO_new {w w5 : World} {r : Option (Int × List Int)} {lo c : Nat} {A : Option Addr} {t : TypeId} (hd : Below w.heap.size w w5) (hr : Row lo w5.heap.size w5 A (IntK.iv (r.getD (0, [])).2)) (hlo : w.heap.size ≤ lo) (hc : (r.getD (0, [])).2.length ≤ c) :
    AfterO w r (.pointer (some ⟨w5.heap.size, 0, none⟩)) (.bool r.isSome) (w5.alloc (Obj.cells #[.int .i64 (r.getD (0, [])).1, .slice A (r.getD (0, [])).2.length c] t)) := by
  have b : Below w5.heap.size w5 (w5.alloc (Obj.cells #[.int .i64 (r.getD (0, [])).1, .slice A (r.getD (0, [])).2.length c] t)) := (Below.refl _ _).alloc (Nat.le_refl _) _
  exact ⟨_, A, c, rfl, rfl, hd.size, Lvar.new _ _ _, (hr.below b).wider hlo (by simp) (Nat.le_refl _), hc, hd.alloc hd.size _⟩
theorem afterO_old {w w5 : World} {r : Option (Int × List Int)} {lo c b : Nat} {A : Option Addr} {x y : Value} (hd : Below w.heap.size w w5) (v : Lvar w5 b #[x, y]) (hr : Row lo w5.heap.size w5 A (IntK.iv (r.getD (0, [])).2)) (hb : w.heap.size ≤ b) (hlo : b < lo) (hc : (r.getD (0, [])).2.length ≤ c) :
    AfterO w r (.pointer (some ⟨b, 0, none⟩)) (.bool r.isSome) ((w5.setCell ⟨b, 0, none⟩ (.int .i64 (r.getD (0, [])).1)).setCell ⟨b, 1, none⟩ (.slice A (r.getD (0, [])).2.length c)) := by
  have m : Mod b (b + 1) w5 ((w5.setCell ⟨b, 0, none⟩ (.int .i64 (r.getD (0, [])).1)).setCell ⟨b, 1, none⟩ (.slice A (r.getD (0, [])).2.length c)) := (Mod.set _ (p := ⟨b, 0, none⟩) (Nat.le_refl _) (Nat.lt_succ_self _) _).trans (Mod.set _ (p := ⟨b, 1, none⟩) (Nat.le_refl _) (Nat.lt_succ_self _) _)
  have hv := (v.set 0 (.int .i64 (r.getD (0, [])).1)).set 1 (.slice A (r.getD (0, [])).2.length c)
  exact ⟨b, A, c, rfl, rfl, hb, by simpa using hv, (hr.keep m (Or.inr hlo)).wider (by omega) m.size (Nat.le_refl _), hc, (hd.setCell hb _).setCell hb _⟩

set_option maxHeartbeats 4000000 in
set_option maxRecDepth 100000 in
theorem join {N : Int} {m : Nat} (lo hi lo' hi' l1 h1 l1' h1' : Nat) (A B C D : Option Addr) (a b c d i : Nat) (x y : DR) (w : World) (hx : okD N m x) (hy : okD N m y) (hm : m ≤ 1000) (hi8 : i < x.1.2.length) (hA : Row lo hi w A (IntK.iv x.1.2)) (hB : Row lo' hi' w B (IntK.iv x.2)) (hC : Row l1 h1 w C (IntK.iv y.1.2)) (hD : Row l1' h1' w D (IntK.iv y.2)) :
    Calls Try.prog 84 #[.agg #[.int .i64 x.1.1, .slice A x.1.2.length a, .slice B x.2.length b], .agg #[.int .i64 y.1.1, .slice C y.1.2.length c, .slice D y.2.length d], .int .i64 i] w (GaveD w (joinD x y i)) := by
  have hlx := (vldB_iff.1 hx.1)
  have hly := (vldB_iff.1 hy.1)
  have hiy : i < y.1.2.length := by omega
  have hcx := cf_get hi8
  have hcy := cf_get hiy
  have hrx := cf_range (i := i) hx
  have hry := cf_range (i := i) hy
  have HXY := Lib.hid (show x.2.length = y.2.length ∧ x.2.length ≤ 1000 by rw [hx.2, hy.2]; exact ⟨rfl, hm⟩)
  have bb : Below w.heap.size w (((w.alloc (Obj.cells #[Value.int IntKind.i64 x.1.1, Value.slice A x.1.2.length a, Value.slice B x.2.length b] 76)).alloc (Obj.cells #[Value.int IntKind.i64 y.1.1, Value.slice C y.1.2.length c, Value.slice D y.2.length d] 76)).alloc (Obj.cells #[Value.int IntKind.i64 0, Value.slice none 0 0, Value.slice none 0 0] 76)) := (((Below.refl _ _).alloc (Nat.le_refl _) _).alloc (by simp) _).alloc (by simp; omega) _
  have X0 := Lib.hid (((Lvar.new w #[Value.int IntKind.i64 x.1.1, Value.slice A x.1.2.length a, Value.slice B x.2.length b] 76).alloc (Obj.cells #[Value.int IntKind.i64 y.1.1, Value.slice C y.1.2.length c, Value.slice D y.2.length d] 76)).alloc (Obj.cells #[Value.int IntKind.i64 0, Value.slice none 0 0, Value.slice none 0 0] 76))
  have y0 := (Lvar.new (w.alloc (Obj.cells #[Value.int IntKind.i64 x.1.1, Value.slice A x.1.2.length a, Value.slice B x.2.length b] 76)) #[Value.int IntKind.i64 y.1.1, Value.slice C y.1.2.length c, Value.slice D y.2.length d] 76).alloc (Obj.cells #[Value.int IntKind.i64 0, Value.slice none 0 0, Value.slice none 0 0] 76)
  have z0 := Lvar.new ((w.alloc (Obj.cells #[Value.int IntKind.i64 x.1.1, Value.slice A x.1.2.length a, Value.slice B x.2.length b] 76)).alloc (Obj.cells #[Value.int IntKind.i64 y.1.1, Value.slice C y.1.2.length c, Value.slice D y.2.length d] 76)) #[Value.int IntKind.i64 0, Value.slice none 0 0, Value.slice none 0 0] 76
  simp only [World.size_alloc] at y0 z0
  have Y0 := Lib.hid y0
  have Z0 := Lib.hid z0
  have hs0 : w.heap.size + 3 ≤ (((w.alloc (Obj.cells #[Value.int IntKind.i64 x.1.1, Value.slice A x.1.2.length a, Value.slice B x.2.length b] 76)).alloc (Obj.cells #[Value.int IntKind.i64 y.1.1, Value.slice C y.1.2.length c, Value.slice D y.2.length d] 76)).alloc (Obj.cells #[Value.int IntKind.i64 0, Value.slice none 0 0, Value.slice none 0 0] 76)).heap.size := by simp
  have HS0 := Lib.hid hs0
  have RA := Lib.hid (hA.below bb)
  have RB := Lib.hid (hB.below bb)
  have RC := Lib.hid (hC.below bb)
  have RD := Lib.hid (hD.below bb)
  have BB := Lib.hid bb
  have hnx : x.1.2.length ≤ 8 := by omega
  have hny : y.1.2.length ≤ 8 := by omega
  clear bb y0 z0 hs0 hx hy hlx hly
  have hmk := IntK.run_mk x.1.2.length (by omega)
  have HJ := Lib.hid (show joinD x y i = (addS 0 (List.replicate x.1.2.length 0) ((-cf y i).tdiv (mx1 (gcdL (cf x i) (-cf y i)))) x.1.1 x.1.2).bind fun f => (addS f.1 f.2 ((cf x i).tdiv (mx1 (gcdL (cf x i) (-cf y i)))) y.1.1 y.1.2).bind fun l => (scl ((-cf y i).tdiv (mx1 (gcdL (cf x i) (-cf y i)))) ((cf x i).tdiv (mx1 (gcdL (cf x i) (-cf y i)))) x.2 y.2).map fun s => (l, s) from rfl)
  generalize joinD x y i = R at *
  go_enter Try.func84, Try.ntmps84
  go_upto_region 1 with fail
  generalize (((w.alloc (Obj.cells #[Value.int IntKind.i64 x.1.1, Value.slice A x.1.2.length a, Value.slice B x.2.length b] 76)).alloc (Obj.cells #[Value.int IntKind.i64 y.1.1, Value.slice C y.1.2.length c, Value.slice D y.2.length d] 76)).alloc (Obj.cells #[Value.int IntKind.i64 0, Value.slice none 0 0, Value.slice none 0 0] 76)) = W0 at *
  have hs0 := HS0.out
  obtain ⟨bx, ox, rfl, _, cx⟩ := IntK.at_ RA.out hi8
  obtain ⟨by', oy, rfl, _, cy⟩ := IntK.at_ RC.out hiy
  rw [← hcx] at cx
  rw [← hcy] at cy
  obtain ⟨q, hq⟩ : ∃ q : Int, -cf y i = q := ⟨_, rfl⟩
  obtain ⟨p, hp⟩ : ∃ p : Int, cf x i = p := ⟨_, rfl⟩
  have hqr : -1000000000 ≤ q ∧ q ≤ 1000000000 := by omega
  have hwq : IntKind.i64.wrap q = q := IntWalk.i64_in _ (by omega)
  obtain ⟨v, hv⟩ : ∃ v : Int, cf y i = v := ⟨_, rfl⟩
  rw [hp] at cx hrx
  rw [hv] at cy hry hq
  rw [hp, hv, hq] at HJ
  have hi0 : (0 : Int) ≤ (i : Int) := by omega
  have hi1 : (i : Int) < (x.1.2.length : Int) := by omega
  have hi2 : (i : Int) < (y.1.2.length : Int) := by omega
  have x1 := X0.out.cell 1 (.slice (some ⟨bx, ox, none⟩) x.1.2.length a) rfl
  have y1 := Y0.out.cell 1 (.slice (some ⟨by', oy, none⟩) y.1.2.length c) rfl
  have GC := Lib.hid (ArithS.gcd p q W0)
  have hgr : ∀ G, G = mx1 (gcdL p q) → 1 ≤ G := fun G h => h ▸ mx1_pos _
  clear hcx hcy hp hv hA hB hC hD
  have MX := Lib.hid (max1 (gcdL p q))
  generalize gcdL p q = G0 at *
  obtain ⟨g, hg⟩ : ∃ g : Int, mx1 G0 = g := ⟨_, rfl⟩
  have hg1 : 1 ≤ g := hgr g hg.symm
  rw [hg] at HJ MX
  clear hgr hg
  go_wp2_with fail
  refine (Calls.mono GC.out) ?_
  rintro e w1 ⟨rfl, b1⟩
  have X1 := Lib.hid (X0.out.below b1)
  have Y1 := Lib.hid (Y0.out.below b1)
  have Z1 := Lib.hid (Z0.out.below b1)
  have RA1 := Lib.hid (RA.out.below b1)
  have RB1 := Lib.hid (RB.out.below b1)
  have RC1 := Lib.hid (RC.out.below b1)
  have RD1 := Lib.hid (RD.out.below b1)
  have B1 := Lib.hid (BB.out.trans (b1.mono BB.out.size))
  have hs1 := b1.size
  clear b1 X0 Y0 Z0 RA RB RC RD BB GC x1 y1 cx cy
  go_wp2_with fail
  refine (Calls.mono (MX.out w1)) ?_
  rintro e w2 ⟨rfl, rfl⟩
  have hgz : (g == 0) = false := by simp; omega
  have hgz2 : ¬ g = 0 := by omega
  have hwa : IntKind.i64.wrap (q.tdiv g) = q.tdiv g := IntWalk.i64_in _ (by have := tdiv_bound (inC_iff.2 hqr) hg1; omega)
  have hwb : IntKind.i64.wrap (p.tdiv g) = p.tdiv g := IntWalk.i64_in _ (by have := tdiv_bound (inC_iff.2 hrx) hg1; omega)
  obtain ⟨qa, hqa⟩ : ∃ qa : Int, q.tdiv g = qa := ⟨_, rfl⟩
  obtain ⟨pb, hpb⟩ : ∃ pb : Int, p.tdiv g = pb := ⟨_, rfl⟩
  rw [hqa] at HJ hwa
  rw [hpb] at HJ hwb
  have mk1 := LinI.made w1 x.1.2.length (by omega)
  have mk2 := LinI.made (w1.alloc (Obj.cells #[Value.int IntKind.i64 0, Value.slice none 0 0] 29)) x.1.2.length (by omega)
  have D1 := Lib.hid (show Below w1.heap.size w1 (w1.alloc (Obj.cells (madeCells #[Value.int .i64 0] x.1.2.length) 3)).drew from ((Below.refl _ _).alloc (Nat.le_refl _) _).drew)
  have D2 := Lib.hid (show Below w1.heap.size w1 ((w1.alloc (Obj.cells #[Value.int IntKind.i64 0, Value.slice none 0 0] 29)).alloc (Obj.cells (madeCells #[Value.int .i64 0] x.1.2.length) 3)).drew from (((Below.refl _ _).alloc (Nat.le_refl _) _).alloc (by simp) _).drew)
  have D3 := Lib.hid (show Below w1.heap.size w1 ((w1.alloc (Obj.cells (madeCells #[Value.int .i64 0] x.1.2.length) 3)).alloc (Obj.cells #[Value.int IntKind.i64 0, Value.slice none 0 0] 29)).drew from (((Below.refl _ _).alloc (Nat.le_refl _) _).alloc (by simp) _).drew)
  have R1 := Lib.hid (mk1.1.below (Below.refl _ _).drew)
  have r2 := mk2.1.below (Below.refl _ _).drew
  simp only [World.size_alloc] at r2
  have R2 := Lib.hid r2
  have R3 := Lib.hid (mk1.1.below (((Below.refl _ _).alloc (Nat.le_refl _) (Obj.cells #[Value.int IntKind.i64 0, Value.slice none 0 0] 29)).drew))
  have V2 := Lib.hid (show Lvar ((w1.alloc (Obj.cells #[Value.int IntKind.i64 0, Value.slice none 0 0] 29)).alloc (Obj.cells (madeCells #[Value.int .i64 0] x.1.2.length) 3)).drew w1.heap.size #[Value.int IntKind.i64 0, Value.slice none 0 0] from ((Lvar.new w1 _ _).alloc _).below (Below.refl _ _).drew)
  have v3 := (Lvar.new (w1.alloc (Obj.cells (madeCells #[Value.int .i64 0] x.1.2.length) 3)) #[Value.int IntKind.i64 0, Value.slice none 0 0] 29).below (Below.refl _ _).drew
  simp only [World.size_alloc] at v3
  have V3 := Lib.hid v3
  clear mk1 mk2 r2 v3
  have as0 := fun C0 c0 lo2 hi2 W (h1 : Below w1.heap.size w1 W) (h2 : Row lo2 hi2 W C0 (IntK.iv (List.replicate x.1.2.length 0))) => LinS.addScaledC lo2 hi2 lo hi 0 qa x.1.1 C0 (some ⟨bx, ox, none⟩) c0 a (List.replicate x.1.2.length 0) x.1.2 W h2 (RA1.out.below h1) (by simp; omega) (by omega)
  simp only [List.length_replicate] at as0
  have AS := Lib.hid as0
  clear as0
  generalize hr0 : addS 0 (List.replicate x.1.2.length 0) qa x.1.1 x.1.2 = r0 at *
  have HR0 := Lib.hid (show (r0.getD (0, [])).2.length ≤ 8 by rw [← hr0]; exact LinI.addS_len _ _ _ _ _)
  clear hr0
  have KS := Lib.hid (fun W (h : Below w1.heap.size w1 W) => (show W.cell? ⟨w.heap.size, 0, none⟩ = some (Value.int .i64 x.1.1) ∧ W.cell? ⟨w.heap.size, 1, none⟩ = some (Value.slice (some ⟨bx, ox, none⟩) x.1.2.length a) from ⟨(X1.out.below h).cell 0 _ rfl, (X1.out.below h).cell 1 _ rfl⟩))
  obtain ⟨k0, k1⟩ := KS.out w1 (Below.refl _ _)
  have lx := X1.out.lt
  go_upto_region 4 with fail
  go_cut [11, 12] (fun s t wx => AfterO w1 r0 s t wx)
  case first =>
    go_region_held3 (fun w' => w'.cell? ⟨w.heap.size, 0, none⟩ = some (Value.int .i64 x.1.1) ∧ w'.cell? ⟨w.heap.size, 1, none⟩ = some (Value.slice (some ⟨bx, ox, none⟩) x.1.2.length a))
      (first | with_reducible exact KS.out _ (Below.refl _ _).drew | with_reducible exact KS.out _ hd5 | with_reducible exact KS.out _ ((Below.refl _ _).alloc (Nat.le_refl _) _).drew | with_reducible exact KS.out _ D1.out | with_reducible exact KS.out _ D2.out | with_reducible exact KS.out _ D3.out | with_reducible exact KS.out _ (hd5.alloc hd5.size _) | with_reducible exact KS.out _ ((hd5.setCell (by first | (simp; done) | (simp; omega)) _).setCell (by first | (simp; done) | (simp; omega)) _))
      (first
        | (go_at_call 45; refine (Calls.mono (AS.out _ _ _ _ _ (by first | with_reducible exact D1.out | with_reducible exact D2.out | with_reducible exact D3.out) (by first | with_reducible exact R1.out | with_reducible exact R2.out | with_reducible exact R3.out))) ?_; rintro e u5 ⟨Aw, cw, rfl, rw5, fw5, b5, hcw⟩; (have hd5 : Below w1.heap.size w1 u5 := by first | with_reducible exact D1.out.trans (b5.mono D1.out.size) | with_reducible exact D2.out.trans (b5.mono D2.out.size) | with_reducible exact D3.out.trans (b5.mono D3.out.size)); (try (with_reducible have v5 := V2.out.below b5)); (try (with_reducible have v5 := V3.out.below b5)); (try (have z0 := v5.cell 0 (Value.int .i64 0) rfl)); (try (have z1 := v5.cell 1 (Value.slice none 0 0) rfl)); (try (have y0 := v5.frozen 0)); (try (have y1 := v5.frozen 1))))
    all_goals (go_wp2_with fail)
    all_goals go_meet
    all_goals first | exact afterO_new hd5 rw5 (by first | (simp; done) | (simp; omega)) hcw | exact afterO_old hd5 v5 rw5 (by first | exact Nat.le_refl _ | (simp; done)) (by first | (simp; done) | (simp; omega)) hcw
  case rest =>
    obtain ⟨w3, rfl⟩ : ∃ w3 : World, w3 = wc := ⟨_, rfl⟩
    obtain ⟨b11, A1, c1, rfl, rfl, hb11, V11, O11, hc11, d3⟩ := hcut
    have X3 := Lib.hid (X1.out.below d3)
    have Y3 := Lib.hid (Y1.out.below d3)
    have Z3 := Lib.hid (Z1.out.below d3)
    have RB3 := Lib.hid (RB1.out.below d3)
    have RC3 := Lib.hid (RC1.out.below d3)
    have RD3 := Lib.hid (RD1.out.below d3)
    have B3 := Lib.hid (B1.out.trans (d3.mono B1.out.size))
    have hs3 := d3.size
    have F3 := Lib.hid V11
    have RO3 := Lib.hid O11
    clear k0 k1 KS AS D1 D2 D3 R1 R2 R3 V2 V3 X1 Y1 Z1 RA1 RB1 RC1 RD1 d3 V11 O11 B1 hmk
    have AS := Lib.hid (fun W (h : Below w3.heap.size w3 W) => LinS.addScaledC _ _ _ _ (r0.getD (0, [])).1 pb y.1.1 A1 (some ⟨by', oy, none⟩) c1 c (r0.getD (0, [])).2 y.1.2 W (RO3.out.below h) (RC3.out.below h) (by have := HR0.out; omega) (by omega))
    have KS := Lib.hid (fun W (h : Below w3.heap.size w3 W) => (show W.cell? ⟨w.heap.size + 1, 0, none⟩ = some (Value.int .i64 y.1.1) ∧ W.cell? ⟨w.heap.size + 1, 1, none⟩ = some (Value.slice (some ⟨by', oy, none⟩) y.1.2.length c) ∧ W.cell? ⟨b11, 0, none⟩ = some (Value.int .i64 (r0.getD (0, [])).1) ∧ W.cell? ⟨b11, 1, none⟩ = some (Value.slice A1 (r0.getD (0, [])).2.length c1) from ⟨(Y3.out.below h).cell 0 _ rfl, (Y3.out.below h).cell 1 _ rfl, (F3.out.below h).cell 0 _ rfl, (F3.out.below h).cell 1 _ rfl⟩))
    have HJ2 := Lib.hid (fun f (h : r0 = some f) => (show r0.getD (0, []) = f by rw [h]; rfl))
    generalize hf : r0.getD (0, []) = f0 at *
    generalize hr1 : addS f0.1 f0.2 pb y.1.1 y.1.2 = r1 at *
    have HR1 := Lib.hid hr1
    clear hf hr1
    obtain ⟨k0, k1, k2, k3⟩ := KS.out w3 (Below.refl _ _)
    have ly := Y3.out.lt
    have l11 := F3.out.lt
    go_upto_region 5 with fail
    go_cut [13, 14] (fun s t wx => AfterO w3 r1 s t wx)
    case first =>
      go_region_held3 (fun w' => w'.cell? ⟨w.heap.size + 1, 0, none⟩ = some (Value.int .i64 y.1.1) ∧ w'.cell? ⟨w.heap.size + 1, 1, none⟩ = some (Value.slice (some ⟨by', oy, none⟩) y.1.2.length c) ∧ w'.cell? ⟨b11, 0, none⟩ = some (Value.int .i64 f0.1) ∧ w'.cell? ⟨b11, 1, none⟩ = some (Value.slice A1 f0.2.length c1))
        (first | with_reducible exact KS.out _ hd5 | with_reducible exact KS.out _ (Below.refl _ _).drew | with_reducible exact KS.out _ (hd5.alloc hd5.size _) | with_reducible exact KS.out _ ((Below.refl _ _).alloc (Nat.le_refl _) _).drew | with_reducible exact KS.out _ ((hd5.setCell (by first | exact Nat.le_refl _ | exact hd5.size) _).setCell (by first | exact Nat.le_refl _ | exact hd5.size) _))
        (first
          | (go_at_call 45; refine (Calls.mono (AS.out _ (by first | exact (Below.refl _ _).drew | exact ((Below.refl _ _).alloc (Nat.le_refl _) _).drew))) ?_; rintro e u5 ⟨Aw, cw, rfl, rw5, fw5, b5, hcw⟩; (have hd5 : Below w3.heap.size w3 u5 := by first | exact ((Below.refl w3.heap.size w3).drew).trans (b5.mono ((Below.refl w3.heap.size w3).drew).size) | exact (((Below.refl w3.heap.size w3).alloc (Nat.le_refl _) _).drew).trans (b5.mono (((Below.refl w3.heap.size w3).alloc (Nat.le_refl _) _).drew).size)); (try (have v5 : Lvar u5 w3.heap.size #[Value.int .i64 0, Value.slice none 0 0] := ((Lvar.new w3 _ _).below (Below.refl _ _).drew).below b5)); (try (have z0 := v5.cell 0 (Value.int .i64 0) rfl)); (try (have z1 := v5.cell 1 (Value.slice none 0 0) rfl)); (try (have y0 := v5.frozen 0)); (try (have y1 := v5.frozen 1))))
      all_goals (go_wp2_with fail)
      all_goals go_meet
      all_goals first | exact afterO_new hd5 rw5 (by first | exact Nat.le_refl _ | (simp; done)) hcw | exact afterO_old hd5 v5 rw5 (Nat.le_refl _) (by first | (simp; done) | (simp; omega)) hcw
    case rest =>
      obtain ⟨w4, rfl⟩ : ∃ w4 : World, w4 = wc := ⟨_, rfl⟩
      obtain ⟨b13, A2, c2, rfl, rfl, hb13, V13, O13, hc13, d4⟩ := hcut
      have X4 := Lib.hid (X3.out.below d4)
      have Y4 := Lib.hid (Y3.out.below d4)
      have Z4 := Lib.hid (Z3.out.below d4)
      have RB4 := Lib.hid (RB3.out.below d4)
      have RD4 := Lib.hid (RD3.out.below d4)
      have B4 := Lib.hid (B3.out.trans (d4.mono B3.out.size))
      have hs4 := d4.size
      have F4 := Lib.hid V13
      have RO4 := Lib.hid O13
      clear k0 k1 k2 k3 KS AS X3 Y3 Z3 RB3 RC3 RD3 d4 V13 O13 B3 F3 RO3
      have SC := Lib.hid (scaled _ _ _ _ B D b d x.2 y.2 qa pb w4.drew (RB4.out.below (Below.refl _ _).drew) (RD4.out.below (Below.refl _ _).drew) HXY.out.1 HXY.out.2)
      generalize hr2 : scl qa pb x.2 y.2 = r2 at *
      clear hr2
      have KS := Lib.hid (fun W (h : Below w4.heap.size w4 W) => (show W.cell? ⟨w.heap.size, 2, none⟩ = some (Value.slice B x.2.length b) ∧ W.cell? ⟨w.heap.size + 1, 2, none⟩ = some (Value.slice D y.2.length d) from ⟨(X4.out.below h).cell 2 _ rfl, (Y4.out.below h).cell 2 _ rfl⟩))
      obtain ⟨k0, k1⟩ := KS.out w4 (Below.refl _ _)
      go_wp2_with fail
      go_region_held3 (fun w' => w'.cell? ⟨w.heap.size, 2, none⟩ = some (Value.slice B x.2.length b) ∧ w'.cell? ⟨w.heap.size + 1, 2, none⟩ = some (Value.slice D y.2.length d))
        (first | with_reducible exact KS.out _ hd5 | with_reducible exact KS.out _ (Below.refl _ _).drew | go_keep)
        ((go_at_call 103; refine (Calls.mono SC.out) ?_; rintro e w5 ⟨M, cm, rfl, rm, hcm, b5⟩; (have hd5 : Below w4.heap.size w4 w5 := (Below.refl w4.heap.size w4).drew.trans b5)))
      have F5 := Lib.hid (F4.out.below hd5)
      have Z5 := Lib.hid (Z4.out.below hd5)
      have RO5 := Lib.hid (RO4.out.below hd5)
      have B5 := Lib.hid (B4.out.trans (hd5.mono B4.out.size))
      have hs5 := hd5.size
      have RM := Lib.hid (show Row w4.heap.size w5.heap.size w5 M (IntK.iv (r2.getD [])) from rm)
      have t0 := F5.out.cell 0 (.int .i64 (r1.getD (0, [])).1) rfl
      have t1 := F5.out.cell 1 (.slice A2 (r1.getD (0, [])).2.length c2) rfl
      have z0 := Z5.out.cell 0 (.int .i64 0) rfl
      have z1 := Z5.out.cell 1 (.slice none 0 0) rfl
      have z2 := Z5.out.cell 2 (.slice none 0 0) rfl
      have p0 := Z5.out.frozen 0
      have p1 := Z5.out.frozen 1
      have p2 := Z5.out.frozen 2
      have mm : Mod (w.heap.size + 1 + 1) (w.heap.size + 1 + 1 + 1) w5 (((w5.setCell ⟨w.heap.size + 1 + 1, 0, none⟩ (.int .i64 (r1.getD (0, [])).1)).setCell ⟨w.heap.size + 1 + 1, 1, none⟩ (.slice A2 (r1.getD (0, [])).2.length c2)).setCell ⟨w.heap.size + 1 + 1, 2, none⟩ (.slice M (r2.getD []).length cm)) :=
        ((Mod.set _ (p := ⟨w.heap.size + 1 + 1, 0, none⟩) (Nat.le_refl _) (Nat.lt_succ_self _) _).trans (Mod.set _ (p := ⟨w.heap.size + 1 + 1, 1, none⟩) (Nat.le_refl _) (Nat.lt_succ_self _) _)).trans (Mod.set _ (p := ⟨w.heap.size + 1 + 1, 2, none⟩) (Nat.le_refl _) (Nat.lt_succ_self _) _)
      have hfin : GaveD w R (.returned (.tuple #[.agg #[.int .i64 (r1.getD (0, [])).1, .slice A2 (r1.getD (0, [])).2.length c2, .slice M (r2.getD []).length cm], .bool R.isSome])) _ := ⟨_, _, _, _, _, _, _, rfl, fun dd hdd => by
        rw [HJ.out] at hdd
        obtain ⟨f, hf, h2⟩ := Option.bind_eq_some_iff.1 hdd
        rw [← HJ2.out f hf, HR1.out] at h2
        obtain ⟨l, hl, h3⟩ := Option.bind_eq_some_iff.1 h2
        obtain ⟨t, ht, rfl⟩ := Option.map_eq_some_iff.1 h3
        subst hl
        subst ht
        exact ⟨rfl, rfl, rfl, hc13, hcm, (RO5.out.keep mm (Or.inr (by omega))).wider (by omega) (Nat.le_trans hs5 mm.size) (Nat.le_refl _), (RM.out.keep mm (Or.inr (by omega))).wider (by omega) mm.size (Nat.le_refl _)⟩, below_mod B5.out mm (by omega) B5.out.size⟩
      have HFIN := Lib.hid hfin
      have HIS := Lib.hid (show R.isSome = (r0.isSome && (r1.isSome && r2.isSome)) by
        rw [HJ.out]
        cases h0 : r0 with
        | none => rfl
        | some f =>
          rw [Option.bind_some, ← HJ2.out f h0, HR1.out]
          cases r1 with
          | none => rfl
          | some l =>
            cases r2 with
            | none => rfl
            | some t => rfl)
      clear hfin mm hd5 k0 k1 rm b5
      generalize hz0 : r0.isSome = q0 at *
      generalize hz1 : r1.isSome = q1 at *
      generalize hz2 : r2.isSome = q2 at *
      generalize R.isSome = qr at *
      clear hz0 hz1 hz2
      have HQ := HIS.out
      clear HIS
      cases q0 <;> cases q1 <;> cases q2 <;> simp only [Bool.and_true, Bool.and_false] at HQ <;> subst HQ
      all_goals
        go_wp2
        refine bodyPost_ret (v := .tuple #[.agg #[.int .i64 (r1.getD (0, [])).1, .slice A2 (r1.getD (0, [])).2.length c2, .slice M (r2.getD []).length cm], .bool _]) (by simp [results, Try.results84, go_sem, z0, z1, z2]) rfl HFIN.out
end ElimS
end Go.Proofs.Ytmkelfjnjnjgbaa
