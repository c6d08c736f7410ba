import Derived.Test.YtmkelfjnjnjgbaaDraw6d
import Derived.Test.YtmkelfjnjnjgbaaDrawAny3
import Derived.Test.YtmkelfjnjnjgbaaLinImpl2
import Derived.Test.YtmkelfjnjnjgbaaSysCopy
import Derived.IntWalk
import Derived.Test.YtmkelfjnjnjgbaaFarkSpec2
import Derived.Test.YtmkelfjnjnjgbaaFarkMath2
/-
  The draws of the seventh chapter: multipliers.
-/
namespace Go.Proofs.Ytmkelfjnjnjgbaa
open Go.RowKit
namespace Draw
open RowK Mem LinM

theorem own_kept {w w' : World} {base sz k g : Nat} {e : TypeId} {v : Value} {vs : List Value} (h : w.ownsRow base e sz v k vs) (m : Mod g (g + 1) w w') (hg : g < base) : w'.ownsRow base e sz v k vs :=
  h.kept (grown_of_mod m) (by
    by_cases hv : v.ownBlock = none
    · exact Or.inl hv
    · exact Or.inr (fun e => by have := (h.lt g e).1; omega))
theorem kept_append {w w4 w5 : World} {g n c base sz k : Nat} {A : Option Addr} {e : TypeId} {v : Value} {vs : List Value} (h : w4.ownsRow base e sz v k vs) (hK : Kept w g A n c w4) (hb : base = w.heap.size) (hgl : g < w.heap.size) (o : Obj) (hg : (w4.alloc o).grownBy w5 v.ownBlock) : Kept w g A n c w5 :=
  (hK.alloc o).grown hg hgl (fun r e => by have := (h.lt r e).1; omega)
theorem store_iv0 {lo hi : Nat} {w : World} {b o : Nat} {zs : List Int} (h : Row lo hi w (some ⟨b, o, none⟩) (IntK.iv zs)) (hk : 0 < zs.length) (x : Int) : Row lo hi (w.setCell ⟨b, o + 0, none⟩ (.int .i64 x)) (some ⟨b, o, none⟩) (IntK.iv (zs.set 0 x)) := LinI.store_iv h hk x
/-- Some numbers in new memory. -/
def SomeInts (w : World) (g : Nat) (A : Option Addr) (n c k : Nat) (e : Ending) (w' : World) : Prop :=
  ∃ (B : Option Addr) (d : Nat) (ms : List Int), e = .returned (.slice B ms.length d) ∧ ms.length = k ∧ IntK.Own w.heap.size w'.heap.size w' B ms ∧ Kept w g A n c w'
def MultRel (w : World) (g : Nat) (A : Option Addr) (n c : Nat) (v i : Value) (wr : World) : Prop :=
  ∃ (k : Nat) (u : Value) (ms : List Int), k ≤ 1000000 ∧ v = u ∧ i = .int .i64 k ∧ ms.length = k ∧ wr.ownsRow w.heap.size 3 1 u ms.length (IntK.iv ms) ∧ Kept w g A n c wr
def mults : List Int := [0, 0, 1, 1, 2]
def mults2 : List Int := [-1, 1000000000, 1000000001]
theorem own_empty (w : World) : (w.alloc (.cells #[] 3)).ownsRow w.heap.size 3 1 (.slice (some ⟨w.heap.size, 0, none⟩) 0 0) 0 [] :=
  ⟨by simp, Or.inr ⟨_, 0, #[], rfl, Nat.le_refl _, heap_alloc_new _ _, by simp, by simp, by simp, by simp⟩⟩
set_option maxHeartbeats 2000000 in
set_option maxRecDepth 100000 in
theorem mult7 (g : Nat) (A : Option Addr) (n c m : Nat) (hm : m ≤ 1000000) (w : World) (hC : Cur w g A n c) :
    Calls Try.prog 69 #[.pointer (some ⟨g, 0, none⟩), .int .i64 m] w (SomeInts w g A n c m) := by
  have HC := Lib.hid (kept_refl hC)
  have hgl := hC.lt
  obtain ⟨i0, hi0, hz0, hz1, hz2⟩ := info_parts IntK.intInfo
  have O0 := Lib.hid (own_empty w)
  have K0 := Lib.hid (HC.out.alloc (.cells #[] 3))
  go_enter Try.func69, Try.ntmps69
  go_wp2
  go_loopw [5, 6] (fun v i wr => MultRel w g A n c v i wr ∧ (intOf i).toNat ≤ m) (fun _ i _ => m - (intOf i).toNat)
  case atStart => exact ⟨⟨0, _, [], by omega, rfl, rfl, rfl, O0.out, K0.out⟩, Nat.zero_le _⟩
  case round =>
    obtain ⟨⟨k, u, ms, hk, rfl, rfl, hl, hO, hK⟩, hkm⟩ := hrel
    have hkm : k ≤ m := by simpa [intOf] using hkm
    have HO := Lib.hid hO
    have HL := Lib.hid hl
    have HK := Lib.hid hK
    have hws : w.heap.size ≤ wr.heap.size := hK.2.size
    clear hO hl hK O0 K0
    by_cases hlt : k < m
    · have hi0' : (0 : Int) ≤ (k : Int) := by omega
      have hi1' : (k : Int) < (m : Int) := by omega
      have hba : Below wr.heap.size wr (wr.alloc (.cells (mults.map (Value.int .i64)).toArray 3)) := (Below.refl _ _).alloc (Nat.le_refl _) _
      have HBA := Lib.hid hba
      have PK := Lib.hid (pickInt g A n c (some ⟨wr.heap.size, 0, none⟩) 5 5 mults rfl (by decide) (by omega) _ (HK.out.1.keep hba) (irow_new wr mults 3) (fun b e => by injection e with e; subst e; show wr.heap.size ≠ g; omega))
      clear hba
      go_wp2_with fail
      refine (Calls.mono PK.out) ?_
      rintro e w4 ⟨x, hx, rfl, hL4⟩
      have k4 := (left_keep (Nat.lt_of_lt_of_le hgl hws) HBA.out hL4).kept
      have O4 := Lib.hid (own_kept HO.out k4.2 hgl)
      have K4 := Lib.hid (HK.out.trans k4)
      have hs4 := k4.2.size
      clear k4 hL4
      go_wp2_with (at_builtin; go_loud (refine wpList_append_own _ rfl (.tmp 13) (.tmp 17) 27 rfl w.heap.size 3 i0 (.int .i64 0) 1 8 Try.underlying27 hi0 hz0 hz1 hz2 rfl (by decide) _ _ _ rfl (O4.out.alloc _) ⟨w4.heap.size, 0, none⟩ 1 1 [.int .i64 x] rfl rfl (cell_one_new _ _ _) (by simp [Value.oneCell']) (by unfold maxLen; have := HL.out; omega) (by have := HL.out; omega) (by simp <;> omega) ?_); intro v4 w4' hown4 hgrow _)
      have hK5 := kept_append O4.out K4.out rfl hgl _ hgrow
      have hown5 : w4'.ownsRow w.heap.size 3 1 v4 (ms ++ [x]).length (IntK.iv (ms ++ [x])) := by simpa [IntK.iv] using hown4
      have hl5 : (ms ++ [x]).length = k + 1 := by have := HL.out; simp; omega
      clear hown4 hgrow
      generalize ms ++ [x] = ms2 at *
      have HN5 := Lib.hid hl5
      have HO5 := Lib.hid hown5
      have HK5 := Lib.hid hK5
      clear hl5 hown5 hK5 O4 K4 HO HK HL
      go_wp2
      go_roundw
      case rel => exact ⟨⟨k + 1, _, ms2, by omega, rfl, by go_num, HN5.out, HO5.out, HK5.out⟩, by simp [intOf]; omega⟩
      case measure => simp [intOf]; omega
    · obtain rfl : k = m := by omega
      obtain ⟨B, d, e5, r5, f5, _, _⟩ := of_own HO.out
      subst e5
      have RF := Lib.hid (show IntK.Own w.heap.size wr.heap.size wr B ms from ⟨r5, by rw [IntK.iv_len] at f5; exact f5⟩)
      have hlz : decide ((k : Int) < (k : Int)) = false := by simp
      clear r5 f5 HO
      by_cases h0 : k = 0
      · subst h0
        go_wp2
        go_ret
        exact ⟨B, d, ms, rfl, HL.out, RF.out, HK.out⟩
      · have hk0 : decide ((0 : Int) < (k : Int)) = true := by simp; omega
        go_wp2_with fail
        refine (once g A n c 12 (by omega) _ HK.out.1).mono ?_
        rintro e w3 ⟨q, rfl, hL⟩
        have k3 := hL.kept
        have K3 := Lib.hid (HK.out.trans k3)
        have R3 := Lib.hid (RF.out.keep k3.2 (by omega))
        have hs3 := k3.2.size
        clear k3 hL
        cases q with
        | false =>
          have RW := Lib.hid (show IntK.Own w.heap.size w3.heap.size w3 B ms from ⟨R3.out.1.wider (Nat.le_refl _) hs3 (Nat.le_refl _), R3.out.2⟩)
          go_wp2
          go_ret
          exact ⟨B, d, ms, rfl, HL.out, RW.out, K3.out⟩
        | true =>
          have hms : 0 < ms.length := by have := HL.out; omega
          have hba : Below w3.heap.size w3 (w3.alloc (.cells (mults2.map (Value.int .i64)).toArray 3)) := (Below.refl _ _).alloc (Nat.le_refl _) _
          have HBA := Lib.hid hba
          have PK := Lib.hid (pickInt g A n c (some ⟨w3.heap.size, 0, none⟩) 3 3 mults2 rfl (by decide) (by omega) _ (K3.out.1.keep hba) (irow_new w3 mults2 3) (fun b e => by injection e with e; subst e; show w3.heap.size ≠ g; omega))
          obtain ⟨b, o, rfl, hbr, _⟩ := R3.out.1 (fun e => by have e2 := congrArg List.length e; rw [IntK.iv_len] at e2; simp at e2; rw [e2] at hms; simp at hms)
          have hlen0 : ((0 : Int) < (ms.length : Int)) := by omega
          clear hba
          go_wp2_with fail
          refine (Calls.mono PK.out) ?_
          rintro e w4 ⟨x, hx, rfl, hL4⟩
          have k4 := (left_keep (by omega) HBA.out hL4).kept
          have K4 := Lib.hid (K3.out.trans k4)
          have R4 := R3.out.keep k4.2 (by omega)
          have hs4 := k4.2.size
          obtain ⟨b', o', e', _, hc4⟩ := IntK.at_ R4.1 hms
          injection e' with e'
          injection e' with e1 e2
          subst e1
          subst e2
          have hf4 := R4.2 hms _ _ rfl 0 hms
          have ST := store_iv0 R4.1 hms x
          have SF := R4.2.set ⟨b, o + 0, none⟩ (.int .i64 x)
          have SK := K4.out.set hgl (p := ⟨b, o + 0, none⟩) (by show w.heap.size ≤ b; omega) (.int .i64 x)
          rw [Nat.add_zero] at hc4 hf4 ST SF SK
          have HRES := Lib.hid (And.intro ST (And.intro SF SK))
          clear k4 hL4 R4 ST SF SK
          go_wp2
          go_ret
          exact ⟨some ⟨b, o, none⟩, d, ms.set 0 x, by simp, by simpa using HL.out, ⟨HRES.out.1.wider (Nat.le_refl _) (by simp; omega) (Nat.le_refl _), by simpa using HRES.out.2.1⟩, HRES.out.2.2⟩
end Draw
end Go.Proofs.Ytmkelfjnjnjgbaa

/-
  The draws of the seventh chapter: a system and multipliers.
-/
namespace Go.Proofs.Ytmkelfjnjnjgbaa
open Go.RowKit
namespace Draw
open RowK Mem LinM

/-- A system and some numbers. -/
def SysInts (w : World) (e : Ending) (w' : World) : Prop :=
  ∃ (N : Int) (B : Option Addr) (d : Nat) (xs : List (Int × List Int)) (C : Option Addr) (f : Nat) (ms : List Int) (lo hi : Nat), e = .returned (.tuple #[.agg #[.int .i64 N, .slice B xs.length d], .slice C ms.length f]) ∧ Any6 N xs ∧ ms.length ≤ 25 ∧ SysK.Arg w' B xs.length d xs ∧ Row lo hi w' C (IntK.iv ms) ∧ Below w.heap.size w w'

end Draw
end Go.Proofs.Ytmkelfjnjnjgbaa

/-
  The draws of the seventh chapter: a target.
-/
namespace Go.Proofs.Ytmkelfjnjnjgbaa
open Go.RowKit
namespace Draw
open RowK Mem LinM FarkM

/-- A linear expression in new memory. -/
def SomeLin7 (w : World) (g : Nat) (A : Option Addr) (n c : Nat) (e : Ending) (w' : World) : Prop :=
  ∃ (z : Int) (zs : List Int) (C : Option Addr) (d : Nat), e = .returned (.agg #[.int .i64 z, .slice C zs.length d]) ∧ zs.length ≤ 9 ∧ IntK.Own w.heap.size w'.heap.size w' C zs ∧ Kept w g A n c w'
/-- Behind a statement that lays a combination into a new variable, beside a bool. -/
def AfterT (w : World) (g : Nat) (A : Option Addr) (n c : Nat) (s t : Value) (wx : World) : Prop :=
  ∃ (T : Int × List Int) (q : Bool) (b : Nat) (B : Option Addr) (d : Nat), s = .pointer (some ⟨b, 0, none⟩) ∧ t = .bool q ∧ T.2.length ≤ 8 ∧ (-1000000000 ≤ T.1 ∧ T.1 ≤ 1000000000) ∧ w.heap.size ≤ b ∧ Lvar wx b #[.int .i64 T.1, .slice B T.2.length d] ∧ Kept w g A n c wx ∧ ∃ lo hi, IntK.Own lo hi wx B T.2 ∧ w.heap.size ≤ lo ∧ hi ≤ wx.heap.size ∧ (b < lo ∨ hi ≤ b)
theorem afterT_new {w w5 : World} {g n c : Nat} {A : Option Addr} {T : Int × List Int} {q : Bool} {lo d : Nat} {B : Option Addr} {t : TypeId} (h8 : T.2.length ≤ 8) (hr : -1000000000 ≤ T.1 ∧ T.1 ≤ 1000000000) (hd : Kept w g A n c w5) (r : Row lo w5.heap.size w5 B (IntK.iv T.2)) (f : Free w5 B T.2.length) (hlo : w.heap.size ≤ lo) :
    AfterT w g A n c (.pointer (some ⟨w5.heap.size, 0, none⟩)) (.bool q) (w5.alloc (Obj.cells #[.int .i64 T.1, .slice B T.2.length d] t)) := by
  have b : Below w5.heap.size w5 (w5.alloc (Obj.cells #[.int .i64 T.1, .slice B T.2.length d] t)) := (Below.refl _ _).alloc (Nat.le_refl _) _
  have f' := f.below r (by rw [IntK.iv_len]; exact Nat.le_refl _) b
  exact ⟨T, q, _, B, d, rfl, rfl, h8, hr, hd.2.size, Lvar.new _ _ _, hd.alloc _, lo, w5.heap.size, ⟨r.below b, f'⟩, hlo, b.size, Or.inr (Nat.le_refl _)⟩
theorem afterT_old {w w5 : World} {g n c : Nat} {A : Option Addr} {T : Int × List Int} {q : Bool} {lo d b : Nat} {B : Option Addr} {x y : Value} (h8 : T.2.length ≤ 8) (hr : -1000000000 ≤ T.1 ∧ T.1 ≤ 1000000000) (hgl : g < w.heap.size) (hd : Kept w g A n c w5) (v : Lvar w5 b #[x, y]) (r : Row lo w5.heap.size w5 B (IntK.iv T.2)) (f : Free w5 B T.2.length) (hb : w.heap.size ≤ b) (hlo : b < lo) :
    AfterT w g A n c (.pointer (some ⟨b, 0, none⟩)) (.bool q) ((w5.setCell ⟨b, 0, none⟩ (.int .i64 T.1)).setCell ⟨b, 1, none⟩ (.slice B T.2.length d)) := by
  have m : Mod b (b + 1) w5 ((w5.setCell ⟨b, 0, none⟩ (.int .i64 T.1)).setCell ⟨b, 1, none⟩ (.slice B T.2.length d)) := (Mod.set _ (p := ⟨b, 0, none⟩) (Nat.le_refl _) (Nat.lt_succ_self _) _).trans (Mod.set _ (p := ⟨b, 1, none⟩) (Nat.le_refl _) (Nat.lt_succ_self _) _)
  have hv := (v.set 0 (.int .i64 T.1)).set 1 (.slice B T.2.length d)
  have f' := f.keep r (by rw [IntK.iv_len]; exact Nat.le_refl _) m (Or.inr hlo)
  have r' := r.keep m (Or.inr hlo)
  exact ⟨T, q, b, B, d, rfl, rfl, h8, hr, hb, by simpa using hv, (hd.set hgl hb _).set hgl hb _, lo, w5.heap.size, ⟨r', f'⟩, by omega, m.size, Or.inl hlo⟩

theorem new_keep {W u4 : World} {g n c : Nat} {A : Option Addr} {cs : Array Value} {T : TypeId} (hgW : g < W.heap.size) (hK4 : Kept ((W.alloc (Obj.cells cs T)).drew) g A n c u4) : Lvar u4 W.heap.size cs := ((Lvar.new W _ _).below (Below.refl _ _).drew).keep hK4.2 (Or.inr hgW)
set_option maxHeartbeats 4000000 in
set_option maxRecDepth 100000 in
theorem target7 (g : Nat) (A : Option Addr) (n c lo hi : Nat) (N : Int) (B : Option Addr) (d : Nat) (xs : List (Int × List Int)) (hP : Any6 N xs) (w : World) (hC : Cur w g A n c) (hO : SysK.Own lo hi w B xs.length d xs) (hg : hi ≤ g ∨ g + 1 ≤ lo) :
    Calls Try.prog 36 #[.pointer (some ⟨g, 0, none⟩), .agg #[.int .i64 N, .slice B xs.length d]] w (SomeLin7 w g A n c) := by
  have hgl := hC.lt
  have hsz : linsSize xs ≤ 1000 := by
    have h1 := linsSize_le (m := 9) hP.2.2
    have := hP.2.1
    omega
  have hx24 := hP.2.1
  have a0 : Below w.heap.size w ((w.alloc (Obj.cells #[Value.int IntKind.i64 N, Value.slice B xs.length d] 26)).alloc (Obj.cells #[Value.int IntKind.i64 0, Value.slice none 0 0] 29)) := ((Below.refl _ _).alloc (Nat.le_refl _) _).alloc (by simp) _
  have V0 := Lib.hid ((Lvar.new w #[Value.int IntKind.i64 N, Value.slice B xs.length d] 26).alloc (Obj.cells #[Value.int IntKind.i64 0, Value.slice none 0 0] 29))
  have Z0 := Lib.hid (new1 w (Obj.cells #[Value.int IntKind.i64 N, Value.slice B xs.length d] 26) #[Value.int IntKind.i64 0, Value.slice none 0 0] 29)
  have KW := Lib.hid (((kept_refl hC).alloc (Obj.cells #[Value.int IntKind.i64 N, Value.slice B xs.length d] 26)).alloc (Obj.cells #[Value.int IntKind.i64 0, Value.slice none 0 0] 29))
  have O0 := Lib.hid (hO.below a0)
  have hs0 : ((w.alloc (Obj.cells #[Value.int IntKind.i64 N, Value.slice B xs.length d] 26)).alloc (Obj.cells #[Value.int IntKind.i64 0, Value.slice none 0 0] 29)).heap.size = w.heap.size + 2 := by simp
  have HS0 := Lib.hid hs0
  clear a0 hO hs0 hP
  go_enter Try.func36, Try.ntmps36
  go_upto_region 1 with fail
  generalize ((w.alloc (Obj.cells #[Value.int IntKind.i64 N, Value.slice B xs.length d] 26)).alloc (Obj.cells #[Value.int IntKind.i64 0, Value.slice none 0 0] 29)) = W at *
  have hs0 : w.heap.size + 2 ≤ W.heap.size := Nat.le_of_eq HS0.out.symm
  have HK := Lib.hid (kept_refl KW.out.1)
  have KS := Lib.hid (fun W' (h : Kept W g A n c W') => (show W'.cell? ⟨w.heap.size, 0, none⟩ = some (Value.int .i64 N) ∧ W'.cell? ⟨w.heap.size, 1, none⟩ = some (Value.slice B xs.length d) from ⟨(V0.out.keep h.2 (by omega)).cell 0 _ rfl, (V0.out.keep h.2 (by omega)).cell 1 _ rfl⟩))
  have SA := Lib.hid (fun W' (h : Kept W g A n c W') => (O0.out.keep h.2 (by omega)).arg)
  obtain ⟨k0, k1⟩ := KS.out W HK.out
  have lv := V0.out.lt
  have hgW : g < W.heap.size := by omega
  go_cut [5, 6] (fun s5 s6 wx => AfterT W g A n c s5 s6 wx)
  case first =>
    go_region_held3 (fun w' => w'.cell? ⟨w.heap.size, 0, none⟩ = some (Value.int .i64 N) ∧ w'.cell? ⟨w.heap.size, 1, none⟩ = some (Value.slice B xs.length d))
      (first | exact KS.out _ hd5 | exact KS.out _ hd4 | exact KS.out _ HK.out.drew | exact KS.out _ (hd5.alloc _) | exact KS.out _ (hd4.alloc _) | exact KS.out _ (HK.out.alloc _).drew | exact KS.out _ ((hd5.set hgW (by first | exact hd4.2.size | exact Nat.le_refl _) _).set hgW (by first | exact hd4.2.size | exact Nat.le_refl _) _))
      (first
        | (go_at_call 69; refine (Calls.mono (mult7 g A n c xs.length (by omega) _ (by first | exact HK.out.drew.1 | exact (HK.out.alloc _).drew.1))) ?_; rintro e u4 ⟨C2, g2, ms, rfl, hlm, hO4, hK4⟩; (have HLM := Lib.hid hlm); clear hlm; (have hd4 : Kept W g A n c u4 := by first | exact HK.out.drew.trans hK4 | exact (HK.out.alloc _).drew.trans hK4); (try (have v4 := new_keep hgW hK4)))
        | (go_at_call 49; refine (Calls.mono (FarkS.combine _ _ N B C2 d g2 xs ms _ (SA.out _ (by first | exact hd4 | exact hd4.alloc _)) (by omega) (hO4.1.below (by first | exact Below.refl _ _ | exact (Below.refl _ _).alloc (Nat.le_refl _) _)) (by have := HLM.out; omega))) ?_; rintro e u5 ⟨Aw, cw, rfl, rw5, fw5, b5⟩; (have hs5 : Below u4.heap.size u4 u5 := by first | exact b5 | exact ((Below.refl _ _).alloc (Nat.le_refl _) _).trans (b5.mono (by simp))); (have hd5 := hd4.below hs5); (try (have v5 := v4.below hs5)); (try (have v5 : Lvar u5 u4.heap.size #[Value.int .i64 0, Value.slice none 0 0] := (Lvar.new u4 _ _).below b5)); (try (have z0 := v5.cell 0 (Value.int .i64 0) rfl)); (try (have z1 := v5.cell 1 (Value.slice none 0 0) rfl)); (try (have y0 := v5.frozen 0)); (try (have y1 := v5.frozen 1))))
    all_goals (go_wp2_with fail)
    all_goals go_meet
    all_goals first | exact afterT_new (combR_small N xs ms) (combR_range N xs ms) hd5 rw5 fw5 (by first | exact hd4.2.size | (have := hd4.2.size; simp; omega)) | exact afterT_old (combR_small N xs ms) (combR_range N xs ms) hgW hd5 v5 rw5 fw5 (by first | exact hd4.2.size | exact Nat.le_refl _) (by first | exact v4.lt | (simp; done) | (simp; omega))
  case rest =>
    obtain ⟨T, q, bt, Bt, dt, rfl, rfl, h8, hr, hbt, Vt, Kt, lo7, hi7, Ot, hlo7, hhi7, hd7⟩ := hcut
    have hsc := Kt.2.size
    have K1 := Lib.hid (KW.out.trans Kt)
    have V1 := Lib.hid (V0.out.keep Kt.2 (by omega))
    have Z1 := Lib.hid (Z0.out.keep Kt.2 (by omega))
    have VT := Lib.hid Vt
    have OT := Lib.hid Ot
    have btl := Vt.lt
    clear Kt Vt Ot V0 Z0 KW HK KS SA k0 k1 O0 HS0
    cases q with
    | false =>
      have n0 := V1.out.cell 0 (.int .i64 N) rfl
      go_wp2_with fail
      refine (Calls.mono (max0 N _)) ?_
      rintro e w8 ⟨kk, rfl, rfl⟩
      go_wp2_with fail
      refine (Calls.mono (min9 kk _)) ?_
      rintro e w9 ⟨mm, hmm, rfl, rfl⟩
      go_wp2_with fail
      refine (Calls.mono (draw4 g A n c mm (by omega) wc K1.out.1)) ?_
      rintro e w10 ⟨z, zs, C, f, rfl, hP5, hd5, hO5, hK5⟩
      have hU := Lib.hid (show zs.length ≤ 9 by rw [hP5.2.1]; exact hmm)
      have Z10 := Lib.hid (Z1.out.keep hK5.2 (by omega))
      have K10 := Lib.hid (K1.out.trans hK5)
      have hs10 : wc.heap.size ≤ w10.heap.size := hK5.2.size
      have q0 := Z10.out.cell 0 (.int .i64 0) rfl
      have q1 := Z10.out.cell 1 (.slice none 0 0) rfl
      have p0 := Z10.out.frozen 0
      have p1 := Z10.out.frozen 1
      have mm' : Mod (w.heap.size + 1) (w.heap.size + 1 + 1) w10 ((w10.setCell ⟨w.heap.size + 1, 0, none⟩ (.int .i64 z)).setCell ⟨w.heap.size + 1, 1, none⟩ (.slice C zs.length f)) := (Mod.set _ (p := ⟨w.heap.size + 1, 0, none⟩) (Nat.le_refl _) (Nat.lt_succ_self _) _).trans (Mod.set _ (p := ⟨w.heap.size + 1, 1, none⟩) (Nat.le_refl _) (Nat.lt_succ_self _) _)
      have ho := hO5.keep mm' (Or.inr (by omega))
      have HO := Lib.hid (show IntK.Own w.heap.size _ ((w10.setCell ⟨w.heap.size + 1, 0, none⟩ (.int .i64 z)).setCell ⟨w.heap.size + 1, 1, none⟩ (.slice C zs.length f)) C zs from ⟨ho.1.wider (by omega) mm'.size (Nat.le_refl _), ho.2⟩)
      have HKF := Lib.hid ((K10.out.set hgl (p := ⟨w.heap.size + 1, 0, none⟩) (Nat.le_succ _) (.int .i64 z)).set hgl (p := ⟨w.heap.size + 1, 1, none⟩) (Nat.le_succ _) (.slice C zs.length f))
      clear ho mm' hO5 hK5 hP5 hd5
      go_wp2
      refine bodyPost_ret (v := .agg #[.int .i64 z, .slice C zs.length f]) (by simp [results, Try.results36, go_sem, q0, q1]) rfl ⟨z, zs, C, f, rfl, hU.out, HO.out, HKF.out⟩
    | true =>
      go_wp2_with fail
      refine (once g A n c 4 (by omega) _ K1.out.1).mono ?_
      rintro e w7 ⟨q2, rfl, hL⟩
      have m7 := hL.kept.2
      have K7 := Lib.hid (K1.out.trans hL.kept)
      have V7 := Lib.hid (V1.out.keep m7 (by omega))
      have Z7 := Lib.hid (Z1.out.keep m7 (by omega))
      have VT7 := Lib.hid (VT.out.keep m7 (by omega))
      have OT7 := Lib.hid (OT.out.keep m7 (by omega))
      have hs7 := m7.size
      clear hL m7 K1 V1 Z1 VT OT
      cases q2 with
      | true =>
        have n0 := V7.out.cell 0 (.int .i64 N) rfl
        go_wp2_with fail
        refine (Calls.mono (max0 N _)) ?_
        rintro e w8 ⟨kk, rfl, rfl⟩
        go_wp2_with fail
        refine (Calls.mono (min9 kk _)) ?_
        rintro e w9 ⟨mm, hmm, rfl, rfl⟩
        go_wp2_with fail
        refine (Calls.mono (draw4 g A n c mm (by omega) w7 K7.out.1)) ?_
        rintro e w10 ⟨z, zs, C, f, rfl, hP5, hd5, hO5, hK5⟩
        have hU := Lib.hid (show zs.length ≤ 9 by rw [hP5.2.1]; exact hmm)
        have Z10 := Lib.hid (Z7.out.keep hK5.2 (by omega))
        have K10 := Lib.hid (K7.out.trans hK5)
        have hs10 : w7.heap.size ≤ w10.heap.size := hK5.2.size
        have q0 := Z10.out.cell 0 (.int .i64 0) rfl
        have q1 := Z10.out.cell 1 (.slice none 0 0) rfl
        have p0 := Z10.out.frozen 0
        have p1 := Z10.out.frozen 1
        have mm' : Mod (w.heap.size + 1) (w.heap.size + 1 + 1) w10 ((w10.setCell ⟨w.heap.size + 1, 0, none⟩ (.int .i64 z)).setCell ⟨w.heap.size + 1, 1, none⟩ (.slice C zs.length f)) := (Mod.set _ (p := ⟨w.heap.size + 1, 0, none⟩) (Nat.le_refl _) (Nat.lt_succ_self _) _).trans (Mod.set _ (p := ⟨w.heap.size + 1, 1, none⟩) (Nat.le_refl _) (Nat.lt_succ_self _) _)
        have ho := hO5.keep mm' (Or.inr (by omega))
        have HO := Lib.hid (show IntK.Own w.heap.size _ ((w10.setCell ⟨w.heap.size + 1, 0, none⟩ (.int .i64 z)).setCell ⟨w.heap.size + 1, 1, none⟩ (.slice C zs.length f)) C zs from ⟨ho.1.wider (by omega) mm'.size (Nat.le_refl _), ho.2⟩)
        have HKF := Lib.hid ((K10.out.set hgl (p := ⟨w.heap.size + 1, 0, none⟩) (Nat.le_succ _) (.int .i64 z)).set hgl (p := ⟨w.heap.size + 1, 1, none⟩) (Nat.le_succ _) (.slice C zs.length f))
        clear ho mm' hO5 hK5 hP5 hd5
        go_wp2
        refine bodyPost_ret (v := .agg #[.int .i64 z, .slice C zs.length f]) (by simp [results, Try.results36, go_sem, q0, q1]) rfl ⟨z, zs, C, f, rfl, hU.out, HO.out, HKF.out⟩
      | false =>
        have t0 := VT7.out.cell 0 (.int .i64 T.1) rfl
        go_wp2_with fail
        go_region_law (first
          | (go_simp; go_at_call 66; refine (Calls.mono (below g A n c 4 (by omega) _ (K7.out.drew).1)) ?_; rintro e w8 ⟨y, hy0, hy1, _, rfl, hL8⟩; (have hy2 := hy1 (by omega)); (have hw1 : IntKind.i64.wrap (T.1 + y) = T.1 + y := IntWalk.i64_in _ (by omega)); (have hw2 : IntKind.i64.wrap (T.1 + y - 1) = T.1 + y - 1 := IntWalk.i64_in _ (by omega)); (have m8 := hL8.kept.2); (have VT8 : Lvar w8 bt #[Value.int IntKind.i64 T.1, Value.slice Bt T.2.length dt] := Lvar.keep (w := w7.drew) VT7.out m8 (by omega)); (have t80 := VT8.cell 0 (.int .i64 T.1) rfl); (have f80 := VT8.frozen 0)))
        all_goals
          have K8 := K7.out.drew.trans hL8.kept
          have hs8 : w7.heap.size ≤ w8.heap.size := m8.size
          have Z8 : Lvar w8 (w.heap.size + 1) #[Value.int IntKind.i64 0, Value.slice none 0 0] := Lvar.keep (w := w7.drew) Z7.out m8 (by omega)
          have OT8 : IntK.Own lo7 hi7 w8 Bt T.2 := IntK.Own.keep (w := w7.drew) OT7.out m8 (by omega)
          have hv9 := VT8.set 0 (.int .i64 (T.1 + y - 1))
          have VT9 := Lib.hid (show Lvar (w8.setCell ⟨bt, 0, none⟩ (.int .i64 (T.1 + y - 1))) bt #[.int .i64 (T.1 + y - 1), .slice Bt T.2.length dt] by simpa using hv9)
          have m9 : Mod bt (bt + 1) w8 (w8.setCell ⟨bt, 0, none⟩ (.int .i64 (T.1 + y - 1))) := Mod.set _ (p := ⟨bt, 0, none⟩) (Nat.le_refl _) (Nat.lt_succ_self _) _
          have K9 := Lib.hid (K8.set hgl (p := ⟨bt, 0, none⟩) (by show w.heap.size ≤ bt; omega) (.int .i64 (T.1 + y - 1)))
          have Z9 := Lib.hid (Z8.keep m9 (by omega))
          have OT9 := Lib.hid (OT8.keep m9 (by omega))
          have hs9 : (w8.setCell ⟨bt, 0, none⟩ (.int .i64 (T.1 + y - 1))).heap.size = w8.heap.size := by simp [World.setCell]
          have HS9 := Lib.hid hs9
          clear hv9 m9 K8 Z8 OT8 hL8 m8 VT8 t80 f80 t0 hs9
          go_upto_region 5 with fail
          generalize w8.setCell ⟨bt, 0, none⟩ (.int .i64 (T.1 + y - 1)) = w9 at *
          have hs9 : w8.heap.size ≤ w9.heap.size := Nat.le_of_eq HS9.out.symm
          have t0 := VT9.out.cell 0 (.int .i64 (T.1 + y - 1)) rfl
          have t1 := VT9.out.cell 1 (.slice Bt T.2.length dt) rfl
          have q0 := Z9.out.cell 0 (.int .i64 0) rfl
          have q1 := Z9.out.cell 1 (.slice none 0 0) rfl
          have p0 := Z9.out.frozen 0
          have p1 := Z9.out.frozen 1
          have mm' : Mod (w.heap.size + 1) (w.heap.size + 1 + 1) w9 ((w9.setCell ⟨w.heap.size + 1, 0, none⟩ (.int .i64 (T.1 + y - 1))).setCell ⟨w.heap.size + 1, 1, none⟩ (.slice Bt T.2.length dt)) := (Mod.set _ (p := ⟨w.heap.size + 1, 0, none⟩) (Nat.le_refl _) (Nat.lt_succ_self _) _).trans (Mod.set _ (p := ⟨w.heap.size + 1, 1, none⟩) (Nat.le_refl _) (Nat.lt_succ_self _) _)
          have ho := OT9.out.keep mm' (Or.inr (by omega))
          have HO := Lib.hid (show IntK.Own w.heap.size _ ((w9.setCell ⟨w.heap.size + 1, 0, none⟩ (.int .i64 (T.1 + y - 1))).setCell ⟨w.heap.size + 1, 1, none⟩ (.slice Bt T.2.length dt)) Bt T.2 from ⟨ho.1.wider (by omega) (Nat.le_trans (by omega) mm'.size) (Nat.le_refl _), ho.2⟩)
          have HKF := Lib.hid ((K9.out.set hgl (p := ⟨w.heap.size + 1, 0, none⟩) (Nat.le_succ _) (.int .i64 (T.1 + y - 1))).set hgl (p := ⟨w.heap.size + 1, 1, none⟩) (Nat.le_succ _) (.slice Bt T.2.length dt))
          clear ho mm'
          go_wp2
          refine bodyPost_ret (v := .agg #[.int .i64 (T.1 + y - 1), .slice Bt T.2.length dt]) (by simp [results, Try.results36, go_sem, q0, q1]) rfl ⟨T.1 + y - 1, T.2, Bt, dt, rfl, by omega, HO.out, HKF.out⟩
end Draw
end Go.Proofs.Ytmkelfjnjnjgbaa

/-
  The draws of the eighth chapter: a system and a target.
-/
namespace Go.Proofs.Ytmkelfjnjnjgbaa
open Go.RowKit
namespace Draw
open RowK Mem LinM FarkM

/-- A system and an expression in new memory. -/
def SysLinO (w : World) (e : Ending) (w' : World) : Prop :=
  ∃ (N : Int) (B : Option Addr) (d : Nat) (xs : List (Int × List Int)) (z : Int) (zs : List Int) (C : Option Addr) (f lo hi lo' hi' : Nat), e = .returned (.tuple #[.agg #[.int .i64 N, .slice B xs.length d], .agg #[.int .i64 z, .slice C zs.length f]]) ∧ Any6 N xs ∧ zs.length ≤ 9 ∧ SysK.Own lo hi w' B xs.length d xs ∧ Row lo' hi' w' C (IntK.iv zs) ∧ w.heap.size ≤ lo ∧ w.heap.size ≤ lo' ∧ Below w.heap.size w w'
theorem SysLinO.plain {w w' : World} {e : Ending} (h : SysLinO w e w') : SysLin w e w' := by
  obtain ⟨N, B, d, xs, z, zs, C, f, lo, hi, lo', hi', h1, h2, h3, h4, h5, _, _, h6⟩ := h
  exact ⟨N, B, d, xs, z, zs, C, f, lo', hi', h1, h2, h3, h4.arg, h5, h6⟩

set_option maxHeartbeats 4000000 in
set_option maxRecDepth 100000 in
theorem drawFindFarkas (A : Option Addr) (n c : Nat) (hn : n ≤ 1048576) (w : World) (hc : Code w A n) :
    Calls Try.prog 9 #[.slice A n c] w (SysLinO w) := by
  have b0 : Below w.heap.size w ((w.alloc (Obj.cells #[Value.int IntKind.i64 0, Value.slice none 0 0] 26)).alloc (Obj.cells #[Value.int IntKind.i64 0, Value.slice none 0 0] 29)) := ((Below.refl _ _).alloc (Nat.le_refl _) _).alloc (by simp) _
  have B0 := Lib.hid b0
  have La := Lib.hid ((Lvar.new w #[Value.int IntKind.i64 0, Value.slice none 0 0] 26).alloc (Obj.cells #[Value.int IntKind.i64 0, Value.slice none 0 0] 29))
  have Lb := Lib.hid (new1 w (Obj.cells #[Value.int IntKind.i64 0, Value.slice none 0 0] 26) #[Value.int IntKind.i64 0, Value.slice none 0 0] 29)
  clear b0
  go_enter Try.func9, Try.ntmps9
  go_wp2_with fail
  refine (new A n c hn _ (hc.keep B0.out)).mono ?_
  rintro e w1 ⟨g, rfl, hC, hg, hb⟩
  simp only [World.size_alloc] at hg
  have B1 := Lib.hid (B0.out.trans (hb.mono B0.out.size))
  have La1 := Lib.hid (La.out.below hb)
  have Lb1 := Lib.hid (Lb.out.below hb)
  have hgl := hC.lt
  clear hb La Lb
  go_wp2_with fail
  refine (bent6 g A n c _ hC).mono ?_
  rintro e w2 ⟨N, v, xs, rfl, hP, hO, hK⟩
  obtain ⟨B, d, rfl, hOS⟩ := SysS.own_slice (lo := w1.heap.size) hO (fun b h => h)
  have K2 := Lib.hid hK
  have m2 := hK.2
  have La2 := Lib.hid (La1.out.keep m2 (by omega))
  have Lb2 := Lib.hid (Lb1.out.keep m2 (by omega))
  have O2 := Lib.hid hOS
  have hs2 := m2.size
  have HP := Lib.hid hP
  clear hK m2 hO hOS La1 Lb1 hP
  have V3 := Lib.hid (Lvar.new w2 #[Value.int IntKind.i64 N, Value.slice B xs.length d] 26)
  have K3 := Lib.hid (K2.out.alloc (Obj.cells #[Value.int IntKind.i64 N, Value.slice B xs.length d] 26))
  have La3 := Lib.hid (La2.out.alloc (Obj.cells #[Value.int IntKind.i64 N, Value.slice B xs.length d] 26))
  have Lb3 := Lib.hid (Lb2.out.alloc (Obj.cells #[Value.int IntKind.i64 N, Value.slice B xs.length d] 26))
  have O3 := Lib.hid (O2.out.below ((Below.refl _ _).alloc (Nat.le_refl _) (Obj.cells #[Value.int IntKind.i64 N, Value.slice B xs.length d] 26)))
  have hs3 : w2.heap.size + 1 ≤ (w2.alloc (Obj.cells #[Value.int IntKind.i64 N, Value.slice B xs.length d] 26)).heap.size := by simp
  have HS3 := Lib.hid hs3
  clear K2 La2 Lb2 O2 hs3
  go_upto_region 3 with fail
  generalize w2.alloc (Obj.cells #[Value.int IntKind.i64 N, Value.slice B xs.length d] 26) = w3 at *
  have hs3 := HS3.out
  have v30 := V3.out.cell 0 _ rfl
  have v31 := V3.out.cell 1 _ rfl
  have v3l := V3.out.lt
  have la := La3.out.lt
  have lb := Lb3.out.lt
  have TG := Lib.hid (target7 g A n c w1.heap.size w2.heap.size N B d xs HP.out w3.drew (K3.out.drew).1 (SysK.Own.below (w := w3) O3.out (Below.refl _ _).drew) (Or.inr (by omega)))
  go_region_held3 (fun W => W.cell? ⟨w2.heap.size, 0, none⟩ = some (.int .i64 N) ∧ W.cell? ⟨w2.heap.size, 1, none⟩ = some (.slice B xs.length d))
    (first | with_reducible exact ⟨k50, k51⟩ | with_reducible exact ⟨kA0, kA1⟩ | with_reducible exact ⟨kB0, kB1⟩ | with_reducible exact ⟨kAB0, kAB1⟩ | with_reducible exact ⟨kBA0, kBA1⟩ | go_keep)
    ((go_at_call 36; refine (Calls.mono TG.out) ?_; rintro e w5 ⟨u, us, C, f, rfl, hU, hO5, hK5⟩; (have m5 := hK5.2); (have V5 : Lvar w5 w2.heap.size #[Value.int IntKind.i64 N, Value.slice B xs.length d] := Lvar.keep (w := w3.drew) V3.out m5 (by omega)); (have La5 : Lvar w5 w.heap.size #[Value.int IntKind.i64 0, Value.slice none 0 0] := Lvar.keep (w := w3.drew) La3.out m5 (by omega)); (have Lb5 : Lvar w5 (w.heap.size + 1) #[Value.int IntKind.i64 0, Value.slice none 0 0] := Lvar.keep (w := w3.drew) Lb3.out m5 (by omega)); (have a0 := La5.cell 0 _ rfl); (have a1 := La5.cell 1 _ rfl); (have e0 := La5.frozen 0); (have e1 := La5.frozen 1); (have i0 := Lb5.cell 0 _ rfl); (have i1 := Lb5.cell 1 _ rfl); (have j0 := Lb5.frozen 0); (have j1 := Lb5.frozen 1); (have VA := other01 (u := .int .i64 N) (v := .slice B xs.length d) (b := w.heap.size) V5 (by omega)); (have VB := other01 (u := .int .i64 u) (v := .slice C us.length f) (b := w.heap.size + 1) V5 (by omega)); (have VAB := other01 (u := .int .i64 u) (v := .slice C us.length f) (b := w.heap.size + 1) VA (by omega)); (have VBA := other01 (u := .int .i64 N) (v := .slice B xs.length d) (b := w.heap.size) VB (by omega)); (have k50 := V5.cell 0 _ rfl); (have k51 := V5.cell 1 _ rfl); (have kA0 := VA.cell 0 _ rfl); (have kA1 := VA.cell 1 _ rfl); (have kB0 := VB.cell 0 _ rfl); (have kB1 := VB.cell 1 _ rfl); (have kAB0 := VAB.cell 0 _ rfl); (have kAB1 := VAB.cell 1 _ rfl); (have kBA0 := VBA.cell 0 _ rfl); (have kBA1 := VBA.cell 1 _ rfl)))
  all_goals
    have hrz : SysK.Own w1.heap.size w2.heap.size w5 B xs.length d xs := SysK.Own.keep (w := w3.drew) O3.out m5 (by omega)
    have hbk : Below w.heap.size w w5 := kept_new B1.out (by omega) ((K3.out.drew).trans hK5)
    have hs5 : w3.heap.size ≤ w5.heap.size := m5.size
    clear m5 V5 hK5 La5 Lb5 VA VB VAB VBA k50 k51 kA0 kA1 kB0 kB1 kAB0 kAB1 kBA0 kBA1
    go_wp2
    refine bodyPost_ret (v := .tuple #[.agg #[.int .i64 N, .slice B xs.length d], .agg #[.int .i64 u, .slice C us.length f]]) (by simp [results, Try.results9, go_sem, a0, a1, i0, i1]) rfl ⟨N, B, d, xs, u, us, C, f, _, _, _, _, rfl, HP.out, hU, (SysK.Own.keep (lo' := w.heap.size) (hi' := w.heap.size + 2) hrz ((((Mod.set _ (by first | (simp; done) | (simp; omega)) (by first | (simp; done) | (simp; omega)) _).trans (Mod.set _ (by first | (simp; done) | (simp; omega)) (by first | (simp; done) | (simp; omega)) _)).trans (Mod.set _ (by first | (simp; done) | (simp; omega)) (by first | (simp; done) | (simp; omega)) _)).trans (Mod.set _ (by first | (simp; done) | (simp; omega)) (by first | (simp; done) | (simp; omega)) _)) (Or.inr (by omega))), Row.keep (lo' := w.heap.size) (hi' := w.heap.size + 2) hO5.1 ((((Mod.set _ (by first | (simp; done) | (simp; omega)) (by first | (simp; done) | (simp; omega)) _).trans (Mod.set _ (by first | (simp; done) | (simp; omega)) (by first | (simp; done) | (simp; omega)) _)).trans (Mod.set _ (by first | (simp; done) | (simp; omega)) (by first | (simp; done) | (simp; omega)) _)).trans (Mod.set _ (by first | (simp; done) | (simp; omega)) (by first | (simp; done) | (simp; omega)) _)) (Or.inr (by show w.heap.size + 2 ≤ w3.heap.size; omega)), by omega, (by show w.heap.size ≤ w3.heap.size; omega), ((((hbk.setCell (by first | (simp; done) | (simp; omega)) _).setCell (by first | (simp; done) | (simp; omega)) _).setCell (by first | (simp; done) | (simp; omega)) _).setCell (by first | (simp; done) | (simp; omega)) _)⟩

set_option maxHeartbeats 2000000 in
set_option maxRecDepth 100000 in
theorem drawEntails (A : Option Addr) (n c : Nat) (hn : n ≤ 1048576) (w : World) (hc : Code w A n) :
    Calls Try.prog 17 #[.slice A n c] w (SysLin w) := by
  have b0 : Below w.heap.size w ((w.alloc (Obj.cells #[Value.int IntKind.i64 0, Value.slice none 0 0] 26)).alloc (Obj.cells #[Value.int IntKind.i64 0, Value.slice none 0 0] 29)) := ((Below.refl _ _).alloc (Nat.le_refl _) _).alloc (by simp) _
  have B0 := Lib.hid b0
  have La := Lib.hid ((Lvar.new w #[Value.int IntKind.i64 0, Value.slice none 0 0] 26).alloc (Obj.cells #[Value.int IntKind.i64 0, Value.slice none 0 0] 29))
  have Lb := Lib.hid (new1 w (Obj.cells #[Value.int IntKind.i64 0, Value.slice none 0 0] 26) #[Value.int IntKind.i64 0, Value.slice none 0 0] 29)
  have hs0 : w.heap.size + 2 ≤ ((w.alloc (Obj.cells #[Value.int IntKind.i64 0, Value.slice none 0 0] 26)).alloc (Obj.cells #[Value.int IntKind.i64 0, Value.slice none 0 0] 29)).heap.size := by simp
  have HS0 := Lib.hid hs0
  clear b0 hs0
  go_enter Try.func17, Try.ntmps17
  go_upto_region 1 with fail
  generalize ((w.alloc (Obj.cells #[Value.int IntKind.i64 0, Value.slice none 0 0] 26)).alloc (Obj.cells #[Value.int IntKind.i64 0, Value.slice none 0 0] 29)) = w0 at *
  have DF := Lib.hid (drawFindFarkas A n c hn _ (hc.keep B0.out))
  go_wp2_with fail
  refine (Calls.mono DF.out) ?_
  rintro e w1 ⟨N, B, d, xs, z, zs, C, f, lo, hi, lo', hi', rfl, hP, hz, hA, hC, hlo, hlo', b1⟩
  have La1 := La.out.below b1
  have Lb1 := Lb.out.below b1
  have hs0 := HS0.out
  have hs1 := b1.size
  have B1 := Lib.hid (B0.out.trans (b1.mono B0.out.size))
  have a0 := La1.cell 0 _ rfl
  have a1 := La1.cell 1 _ rfl
  have e0 := La1.frozen 0
  have e1 := La1.frozen 1
  have i0 := Lb1.cell 0 _ rfl
  have i1 := Lb1.cell 1 _ rfl
  have j0 := Lb1.frozen 0
  have j1 := Lb1.frozen 1
  have mm : Mod w.heap.size (w.heap.size + 2) w1 ((((w1.setCell ⟨w.heap.size, 0, none⟩ (.int .i64 N)).setCell ⟨w.heap.size, 1, none⟩ (.slice B xs.length d)).setCell ⟨w.heap.size + 1, 0, none⟩ (.int .i64 z)).setCell ⟨w.heap.size + 1, 1, none⟩ (.slice C zs.length f)) :=
    (((Mod.set _ (p := ⟨w.heap.size, 0, none⟩) (Nat.le_refl _) (by simp) _).trans (Mod.set _ (p := ⟨w.heap.size, 1, none⟩) (Nat.le_refl _) (by simp) _)).trans (Mod.set _ (p := ⟨w.heap.size + 1, 0, none⟩) (by simp) (by simp) _)).trans (Mod.set _ (p := ⟨w.heap.size + 1, 1, none⟩) (by simp) (by simp) _)
  have H1 := Lib.hid (hA.keep mm (Or.inr (by omega)))
  have H2 := Lib.hid (hC.keep mm (Or.inr (by omega)))
  have H3 := Lib.hid (below_mod B1.out mm (Nat.le_refl _) B1.out.size)
  clear mm hA hC b1 La1 Lb1
  go_wp2
  refine bodyPost_ret (v := .tuple #[.agg #[.int .i64 N, .slice B xs.length d], .agg #[.int .i64 z, .slice C zs.length f]]) (by simp [results, Try.results17, go_sem, a0, a1, i0, i1]) rfl ⟨N, B, d, xs, z, zs, C, f, _, _, rfl, hP, hz, H1.out.arg, H2.out, H3.out⟩
end Draw
end Go.Proofs.Ytmkelfjnjnjgbaa
