import Derived.Test.YtmkelfjnjnjgbaaDraw4b
import Derived.Test.YtmkelfjnjnjgbaaRepOwn
import Derived.Test.YtmkelfjnjnjgbaaRepSys
import Derived.Test.YtmkelfjnjnjgbaaDraw6b
import Derived.Test.YtmkelfjnjnjgbaaSysCopy
/-
  The draws of the sixth chapter: a small system.
-/
namespace Go.Proofs.Ytmkelfjnjnjgbaa
open Go.RowKit
namespace Draw
open RowK Mem LinM

theorem grown_of_mod {g : Nat} {w w' : World} (h : Mod g (g + 1) w w') : w.grownBy w' (some g) := ⟨h.os, h.tape, h.output, h.size, fun i hi hn => h.block i hi (by rcases Nat.lt_trichotomy i g with h1 | h1 | h1; exact Or.inl h1; exact absurd (by rw [h1]) hn; exact Or.inr h1)⟩
theorem Cur.grow {w w' : World} {g : Nat} {A : Option Addr} {n c : Nat} {row : Option Nat} (h : Cur w g A n c) (hg : w.grownBy w' row) (hr : ∀ r, row = some r → g < r) : Cur w' g A n c := by
  have hlt := h.lt
  obtain ⟨hc, ha, i, x, h1, h2, hh⟩ := h
  have hne : some g ≠ row := fun e => by have := hr g e.symm; omega
  refine ⟨fun hn => ?_, ha, i, x, h1, h2, by rw [hg.block g hlt hne]; exact hh⟩
  obtain ⟨b, o, rfl, hbl, hcell⟩ := hc hn
  have hbg := ha _ rfl hn
  refine ⟨b, o, rfl, Nat.lt_of_lt_of_le hbl hg.size, fun j hj => ?_⟩
  obtain ⟨y, h0, h255, hy⟩ := hcell j hj
  refine ⟨y, h0, h255, ?_⟩
  rw [World.cell?_of_block (w := w) (hg.block b hbl (fun e => by have := hr b e.symm; have e2 : (⟨b, o, none⟩ : Addr).block = b := rfl; omega))]
  exact hy
theorem Kept.grown {w w' w2 : World} {g n c : Nat} {A : Option Addr} {row : Option Nat} (h : Kept w g A n c w') (hg : w'.grownBy w2 row) (hgl : g < w.heap.size) (hr : ∀ r, row = some r → w.heap.size ≤ r) : Kept w g A n c w2 :=
  ⟨h.1.grow hg (fun r e => by have := hr r e; omega), hg.os.trans h.2.os, hg.tape.trans h.2.tape, hg.output.trans h.2.output, Nat.le_trans h.2.size hg.size, fun i hi hn => (hg.block i (Nat.lt_of_lt_of_le hi h.2.size) (fun e => by have := hr i e.symm; omega)).trans (h.2.block i hi hn)⟩
theorem owned_mod {α : Type} {r : Rep α} {e : TypeId} {ok : Nat → Prop} {w w' : World} {v : Value} {xs : List α} {g : Nat} (h : Owned r e ok w v xs) (m : Mod g (g + 1) w w') (hg : ¬ ok g) : Owned r e ok w' v xs := h.grown (grown_of_mod m) (fun b e => by injection e with e; subst e; exact hg)

/-- A small system in new memory. -/
def SomeSys (w : World) (g : Nat) (A : Option Addr) (n c : Nat) (P : Int → List (Int × List Int) → Prop) (e : Ending) (w' : World) : Prop :=
  ∃ (N : Int) (v : Value) (xs : List (Int × List Int)), e = .returned (.agg #[.int .i64 N, v]) ∧ P N xs ∧ Owned lin 29 (fun b => w.heap.size ≤ b) w' v xs ∧ Kept w g A n c w'
def Small6 (m : Nat) (N : Int) (xs : List (Int × List Int)) : Prop := N = m ∧ xs.length ≤ 4 ∧ ∀ x ∈ xs, x.2.length = m
def DrawRel (w : World) (g : Nat) (A : Option Addr) (n c m : Nat) (i : Value) (wr : World) : Prop :=
  ∃ (k : Nat) (v : Value) (xs : List (Int × List Int)), k ≤ 4 ∧ i = .int .i64 k ∧ xs.length = k ∧ (∀ x ∈ xs, x.2.length = m) ∧ Owned lin 29 (fun b => w.heap.size + 2 ≤ b) wr v xs ∧ Lvar wr w.heap.size #[.int .i64 0, .slice none 0 0] ∧ Lvar wr (w.heap.size + 1) #[.int .i64 m, v] ∧ Kept w g A n c wr
theorem linsSize_le {m : Nat} : ∀ {xs : List (Int × List Int)}, (∀ x ∈ xs, x.2.length ≤ m) → linsSize xs ≤ xs.length * (m + 1)
  | [], _ => by simp [linsSize]
  | x :: xs, h => by
    have h1 := linsSize_le (xs := xs) (fun y hy => h y (List.mem_cons_of_mem _ hy))
    have h2 := h x List.mem_cons_self
    rw [linsSize_cons, List.length_cons, Nat.succ_mul]
    omega

set_option maxHeartbeats 2000000 in
set_option maxRecDepth 100000 in
theorem draw6 (g : Nat) (A : Option Addr) (n c m : Nat) (hm : m ≤ 3) (w : World) (hC : Cur w g A n c) :
    Calls Try.prog 65 #[.pointer (some ⟨g, 0, none⟩), .int .i64 m] w (SomeSys w g A n c (Small6 m)) := by
  have HC := Lib.hid (kept_refl hC)
  have hgl := hC.lt
  obtain ⟨i0, hi0, hz0, hz1, hz2⟩ := info_parts linInfo
  have HI := Lib.hid hi0
  have HZ0 := Lib.hid hz0
  have HZ1 := Lib.hid hz1
  have HZ2 := Lib.hid hz2
  have hu := Lib.hid Try.underlying24
  have L0 := Lib.hid ((Lvar.new w #[Value.int IntKind.i64 0, Value.slice none 0 0] 26).alloc (Obj.cells #[Value.int IntKind.i64 m, Value.slice none 0 0] 26))
  have L1 := Lib.hid (new1 w (Obj.cells #[Value.int IntKind.i64 0, Value.slice none 0 0] 26) #[Value.int IntKind.i64 m, Value.slice none 0 0] 26)
  have K0 := Lib.hid ((HC.out.alloc (Obj.cells #[Value.int IntKind.i64 0, Value.slice none 0 0] 26)).alloc (Obj.cells #[Value.int IntKind.i64 m, Value.slice none 0 0] 26))
  clear hi0 hz0 hz1 hz2
  go_enter Try.func65, Try.ntmps65
  go_wp2_with fail
  refine (below g A n c 5 (by omega) _ K0.out.1).mono ?_
  rintro e w1 ⟨x, hx0, hx1, _, rfl, hL⟩
  have hx2 := hx1 (by omega)
  obtain ⟨q, rfl⟩ := Int.eq_ofNat_of_zero_le hx0
  have m1 := hL.kept.2
  have K1 := Lib.hid (K0.out.trans hL.kept)
  have R1 := Lib.hid (L0.out.keep m1 (by omega))
  have S1 := Lib.hid (L1.out.keep m1 (by omega))
  have hs1 : w.heap.size + 2 ≤ w1.heap.size := by have := m1.size; simp at this; omega
  clear hL m1 hx1 L0 L1 K0
  go_wp2
  go_loopw [7] (fun i wr => DrawRel w g A n c m i wr) (fun i _ => 10 - (intOf i).toNat)
  case atStart => exact ⟨0, .slice none 0 0, [], by omega, rfl, rfl, (fun _ h => by cases h), Owned.nil _ _ _ _, R1.out, S1.out, K1.out⟩
  case round =>
    obtain ⟨k, v, xs, hk, rfl, hl, hr, hO, hR, hS, hK⟩ := hrel
    have HL := Lib.hid hl
    have HR := Lib.hid hr
    have HO := Lib.hid hO
    have V1 := Lib.hid hR
    have V2 := Lib.hid hS
    have HK := Lib.hid hK
    have hsz : w.heap.size + 2 ≤ wr.heap.size := hS.lt
    have v20 := hS.cell 0 (.int .i64 m) rfl
    have v21 := hS.cell 1 v rfl
    clear hl hr hO hR hS hK
    by_cases hlt : (k : Int) < (q : Int)
    · have hk3 : k ≤ 3 := by omega
      obtain ⟨es, hes, hown, he, hn, hog, hdis⟩ := HO.out
      have hown : wr.ownsRow 0 29 2 v xs.length (cells es) := hown
      have hob : v.ownBlock ≠ some (w.heap.size + 1) ∧ v.ownBlock ≠ some w.heap.size ∧ v.ownBlock ≠ some g := by
        refine ⟨fun e => ?_, fun e => ?_, fun e => ?_⟩ <;> (have h9 : w.heap.size + 2 ≤ _ := hog _ e; omega)
      have HOB := Lib.hid hob
      have HES := Lib.hid hes
      have HOW := Lib.hid hown
      have HEL := Lib.hid he
      have HN := Lib.hid hn
      have HOG := Lib.hid hog
      have HDI := Lib.hid hdis
      clear hes hown he hn hog hdis hob
      go_wp2_with fail
      go_region_law (first
        | (refine step_append_where rfl _ _ _ rfl 29 i0 (.agg #[.int .i64 0, .slice none 0 0]) 2 32 0 hu.out HI.out HZ0.out HZ1.out HZ2.out rfl (by decide) (v) xs.length (cells es) rfl (OW4.out.alloc _) ⟨w4.heap.size, 0, none⟩ 1 1 [.int .i64 z, .slice C zs.length c'] rfl rfl (World.news_of_block (cs := #[.int .i64 z, .slice C zs.length c']) (heap_alloc_new w4 _)) (by simp [Value.oneCell']) (by rw [HL.out]; unfold maxLen; omega) (by rw [HL.out]; omega) (Nat.zero_le _) ?_; intro v5 w5 hown5 hgrow5 hwh5; (obtain ⟨A5, c5, rfl, _, _, _, _⟩ := RowK.of_own hown5); (have V25 := lvar_grown (V24.alloc (Obj.cells #[.int .i64 z, .slice C zs.length c'] 29)) hgrow5 HOB.out.1); (have v250 := V25.cell 0 _ rfl); (have v251 := V25.cell 1 (v) rfl); (have p250 := V25.frozen 0); (have p251 := V25.frozen 1))
        | (go_simp; go_at_call 70; refine (Calls.mono (draw4 g A n c m (by omega) _ (HK.out.drew).1)) ?_; rintro e w4 ⟨z, zs, C, c', rfl, hP, hcC, hOC, hK4⟩; (have m4 := hK4.2); (have V24 : Lvar w4 (w.heap.size + 1) #[Value.int IntKind.i64 m, v] := Lvar.keep (w := wr.drew) V2.out m4 (by omega)); (have v240 := V24.cell 0 (.int .i64 m) rfl); (have v241 := V24.cell 1 v rfl); (have v4l := V24.lt); (have OW4 := Lib.hid (HOW.out.drew.kept (grown_of_mod m4) (Or.inr HOB.out.2.2)))))
      all_goals
        have hdr : Below wr.heap.size wr wr.drew := (Below.refl _ _).drew
        have hlt' : ∀ b ∈ fps es, b < wr.heap.size := fun b hb => by
          obtain ⟨e, h6, h7⟩ := List.mem_flatMap.1 hb
          exact lin.lt (HEL.out e h6) b h7
        have hs4 : wr.heap.size ≤ w4.heap.size := m4.size
        have ta : Below w4.heap.size w4 (w4.alloc (Obj.cells #[.int .i64 z, .slice C zs.length c'] 29)) := (Below.refl _ _).alloc (Nat.le_refl _) _
        obtain ⟨fpC, q1, q2, q3⟩ := lin_close (q := true) (z := z) (hOC.1.below ta) (fun _ => hOC.2.below hOC.1 (by rw [IntK.iv_len]; exact Nat.le_refl _) ta) hcC
        have RR := Owned.snoc (r := lin) (m := wr.heap.size) HES.out (fun x hx => Rep.below (Rep.keep (Rep.below (HEL.out x hx) hdr) m4 (fun b hb => Or.inr (by have h9 : w.heap.size + 2 ≤ b := (HDI.out b (mem_fps hx hb)).1; omega))) ta) hlt' HN.out HDI.out (fun g e => ⟨HOG.out g e, (HOW.out.lt g e).2⟩) q1 q2 (fun b hb => (q3 b hb).1) (fun b hb => Nat.le_trans hsz hb) hown5 hgrow5 hwh5 (Nat.le_trans hs4 (by simp))
        have hs5 := hgrow5.size
        simp only [World.size_alloc] at hs5
        have RF := Lib.hid (RR.set (b := w.heap.size + 1) (by show ¬ (w.heap.size + 2 ≤ w.heap.size + 1); omega) 1 (.slice A5 (xs.length + 1) c5))
        have W1 := Lib.hid ((lvar_grown (((Lvar.keep (w := wr.drew) V1.out m4 (by omega)).alloc (Obj.cells #[.int .i64 z, .slice C zs.length c'] 29))) hgrow5 HOB.out.2.1).other (p := ⟨w.heap.size + 1, 1, none⟩) (by show w.heap.size ≠ w.heap.size + 1; omega) (.slice A5 (xs.length + 1) c5))
        have W2 := V25.set 1 (.slice A5 (xs.length + 1) c5)
        have W2 := Lib.hid (show Lvar (w5.setCell ⟨w.heap.size + 1, 1, none⟩ (.slice A5 (xs.length + 1) c5)) (w.heap.size + 1) #[.int .i64 m, .slice A5 (xs.length + 1) c5] by simpa using W2)
        have KF := Lib.hid (((((HK.out.drew).trans hK4).alloc (Obj.cells #[.int .i64 z, .slice C zs.length c'] 29)).grown hgrow5 hgl (fun r e => by have h9 : w.heap.size + 2 ≤ r := HOG.out r e; omega)).set hgl (p := ⟨w.heap.size + 1, 1, none⟩) (by show w.heap.size ≤ w.heap.size + 1; omega) (.slice A5 (xs.length + 1) c5))
        have HR5 := Lib.hid (show ∀ x ∈ xs ++ [(z, zs)], x.2.length = m from fun x hx => by
          rcases List.mem_append.1 hx with h | h
          · exact HR.out x h
          · rw [List.mem_singleton.1 h]; exact hP.2.1)
        have HL5 := Lib.hid (show (xs ++ [(z, zs)]).length = k + 1 by have := HL.out; simp; omega)
        clear RR hown5 hgrow5 hwh5 hOC hcC hP hK4 m4 ta hdr V24 v240 v241 V25 v250 v251 p250 p251 OW4 hlt' v20 v21 HOB q1 q2 q3
        go_wp2
        go_roundw
        case rel => exact ⟨k + 1, .slice A5 (xs.length + 1) c5, xs ++ [(z, zs)], by omega, by go_num, HL5.out, HR5.out, RF.out, W1.out, W2.out, KF.out⟩
        case measure => simp [intOf]; omega
    · obtain ⟨A2, c2, fp2, rfl, _⟩ := HO.out.rep (Nat.succ_pos _)
      have R2 := (HO.out.set (b := w.heap.size) (by show ¬ (w.heap.size + 2 ≤ w.heap.size); omega) 0 (.int .i64 m)).set (b := w.heap.size) (by show ¬ (w.heap.size + 2 ≤ w.heap.size); omega) 1 (.slice A2 xs.length c2)
      have F := Lib.hid (show SomeSys w g A n c (Small6 m) (.returned (.agg #[.int .i64 m, .slice A2 xs.length c2])) ((wr.setCell ⟨w.heap.size, 0, none⟩ (.int .i64 m)).setCell ⟨w.heap.size, 1, none⟩ (.slice A2 xs.length c2)) from
        ⟨_, _, xs, rfl, ⟨rfl, by rw [HL.out]; exact hk, HR.out⟩, R2.to (fun b _ (h : w.heap.size + 2 ≤ b) => by omega), (HK.out.set hgl (p := ⟨w.heap.size, 0, none⟩) (Nat.le_refl _) _).set hgl (p := ⟨w.heap.size, 1, none⟩) (Nat.le_refl _) _⟩)
      have l0 := V1.out.cell 0 (.int .i64 0) rfl
      have l1 := V1.out.cell 1 (.slice none 0 0) rfl
      have p0 := V1.out.frozen 0
      have p1 := V1.out.frozen 1
      have hdl : decide ((k : Int) < (q : Int)) = false := decide_eq_false hlt
      clear R2
      go_wp2
      refine bodyPost_ret (v := .agg #[.int .i64 m, .slice A2 xs.length c2]) (by simp [results, Try.results65, go_sem, l0, l1]) rfl ?_
      exact F.out
end Draw
end Go.Proofs.Ytmkelfjnjnjgbaa

/-
  The draws of the sixth chapter: a system that may not be valid.
-/
namespace Go.Proofs.Ytmkelfjnjnjgbaa
open Go.RowKit
namespace Draw
open RowK Mem LinM

def Any6 (N : Int) (xs : List (Int × List Int)) : Prop := (-1 ≤ N ∧ N ≤ 9) ∧ xs.length ≤ 24 ∧ ∀ x ∈ xs, x.2.length ≤ 9
theorem some6_fin {w wr : World} {g n c d : Nat} {A B : Option Addr} {N : Int} {xs : List (Int × List Int)} {ok : Nat → Prop} {P : Int → List (Int × List Int) → Prop} (hgl : g < w.heap.size) (hK : Kept w g A n c wr) (hO : Owned lin 29 ok wr (.slice B xs.length d) xs) (hok : ∀ b, ok b → w.heap.size < b) (hP : P N xs) :
    SomeSys w g A n c P (.returned (.agg #[.int .i64 N, .slice B xs.length d])) ((wr.setCell ⟨w.heap.size, 0, none⟩ (.int .i64 N)).setCell ⟨w.heap.size, 1, none⟩ (.slice B xs.length d)) := by
  have hn : ¬ ok w.heap.size := fun h => Nat.lt_irrefl _ (hok _ h)
  exact ⟨N, _, xs, rfl, hP, ((hO.set hn 0 _).set hn 1 _).to (fun b _ h => Nat.le_of_lt (hok b h)), (hK.set hgl (p := ⟨w.heap.size, 0, none⟩) (Nat.le_refl _) _).set hgl (p := ⟨w.heap.size, 1, none⟩) (Nat.le_refl _) _⟩
theorem const_len (k n : Int) : (constL k n).2.length ≤ 9 := by
  unfold constL
  split
  · rename_i h
    have := cntB_iff.1 h.1
    simp
    omega
  · simp
def ConstAny (w : World) (e : Ending) (w' : World) : Prop := ∃ z zs C c', e = .returned (.agg #[.int .i64 z, .slice C zs.length c']) ∧ zs.length ≤ 9 ∧ zs.length ≤ c' ∧ IntK.Own w.heap.size w'.heap.size w' C zs ∧ Below w.heap.size w w'
theorem constAny (k n : Int) (w : World) : Calls Try.prog 46 #[.int .i64 k, .int .i64 n] w (ConstAny w) :=
  (LinS.constC k n w).mono fun _ _ ⟨C, c', he, h1, h2, h3, h4⟩ => ⟨_, _, C, c', he, const_len k n, h4, ⟨h1, h2⟩, h3⟩
def BentRel (w w1 w2 : World) (g : Nat) (A : Option Addr) (n c l : Nat) (N : Int) (i : Value) (wr : World) : Prop :=
  ∃ (k : Nat) (v : Value) (xs : List (Int × List Int)), k ≤ 20 ∧ i = .int .i64 k ∧ xs.length = l + k ∧ (∀ x ∈ xs, x.2.length ≤ 9) ∧ Owned lin 29 (fun b => w1.heap.size ≤ b ∧ b ≠ w2.heap.size) wr v xs ∧ Lvar wr w.heap.size #[.int .i64 0, .slice none 0 0] ∧ Lvar wr w2.heap.size #[.int .i64 N, v] ∧ Kept w g A n c wr

set_option maxHeartbeats 4000000 in
set_option maxRecDepth 100000 in
theorem bent6 (g : Nat) (A : Option Addr) (n c : Nat) (w : World) (hC : Cur w g A n c) :
    Calls Try.prog 35 #[.pointer (some ⟨g, 0, none⟩)] w (SomeSys w g A n c Any6) := by
  have HC := Lib.hid (kept_refl hC)
  have hgl := hC.lt
  obtain ⟨i0, hi0, hz0, hz1, hz2⟩ := info_parts linInfo
  have HI := Lib.hid hi0
  have HZ0 := Lib.hid hz0
  have HZ1 := Lib.hid hz1
  have HZ2 := Lib.hid hz2
  have hu := Lib.hid Try.underlying24
  clear hi0 hz0 hz1 hz2
  go_enter Try.func35, Try.ntmps35
  go_wp2_with fail
  refine (below g A n c 4 (by omega) _ (HC.out.alloc _).1).mono ?_
  rintro e w1 ⟨x, hx0, hx1, _, rfl, hL⟩
  have hx4 := hx1 (by omega)
  obtain ⟨m, rfl⟩ := Int.eq_ofNat_of_zero_le hx0
  have m1 := hL.kept.2
  have K1 := Lib.hid ((HC.out.alloc _).trans hL.kept)
  have R1 := Lib.hid ((Lvar.new w #[Value.int IntKind.i64 0, Value.slice none 0 0] 26).keep m1 (by omega))
  have hs1 : w.heap.size + 1 ≤ w1.heap.size := R1.out.lt
  clear hL m1 hx1
  go_wp2_with fail
  refine (draw6 g A n c m (by omega) _ K1.out.1).mono ?_
  rintro e w2 ⟨N, v, xs, rfl, ⟨rfl, hl, hr⟩, hO, hK⟩
  obtain ⟨B, d, fpB, rfl, _⟩ := hO.rep (Nat.succ_pos _)
  have m2 := hK.2
  have K2 := Lib.hid (K1.out.trans hK)
  have R2 := Lib.hid (R1.out.keep m2 (by omega))
  have hs2 := m2.size
  have O2 := Lib.hid (show Owned lin 29 (fun b => w1.heap.size ≤ b ∧ b ≠ w2.heap.size) w2 (.slice B xs.length d) xs from hO.to (fun b hb h => ⟨h, Nat.ne_of_lt hb⟩))
  have HL := Lib.hid hl
  have HR := Lib.hid (show ∀ x ∈ xs, x.2.length ≤ 9 from fun x hx => by have := hr x hx; omega)
  clear hO hK m2 hl hr K1 R1
  go_wp2_with fail
  refine (below g A n c 16 (by omega) _ (K2.out.alloc _).1).mono ?_
  rintro e w3 ⟨y, hy0, hy1, _, rfl, hL⟩
  have m3 := hL.kept.2
  have hs3 : w2.heap.size + 1 ≤ w3.heap.size := by have := m3.size; simpa using this
  have K3 := Lib.hid ((K2.out.alloc _).trans hL.kept)
  have V3 := Lib.hid ((Lvar.new w2 #[Value.int IntKind.i64 m, Value.slice B xs.length d] 26).keep m3 (by omega))
  have R3 := Lib.hid ((R2.out.alloc _).keep m3 (by omega))
  have hng : ¬ (w1.heap.size ≤ g ∧ g ≠ w2.heap.size) := fun h => by omega
  have O3 := Lib.hid (owned_mod (O2.out.below ((Below.refl _ _).alloc (Nat.le_refl _) (Obj.cells #[Value.int IntKind.i64 m, Value.slice B xs.length d] 26))) m3 hng)
  have HOK := Lib.hid (show ∀ b, (w1.heap.size ≤ b ∧ b ≠ w2.heap.size) → w.heap.size < b from fun b h => by omega)
  clear hL m3 hy1 K2 R2 O2
  have v30 := V3.out.cell 0 _ rfl
  have v31 := V3.out.cell 1 _ rfl
  have f30 := V3.out.frozen 0
  have f31 := V3.out.frozen 1
  have r30 := R3.out.cell 0 _ rfl
  have r31 := R3.out.cell 1 _ rfl
  have q30 := R3.out.frozen 0
  have q31 := R3.out.frozen 1
  have v3l := V3.out.lt
  have r3l := R3.out.lt
  have hne := show w2.heap.size ≠ w.heap.size by omega
  have hne' := show w.heap.size ≠ w2.heap.size by omega
  by_cases y0 : y = 0
  · subst y0
    go_wp2_with fail
    have hba : Below w3.heap.size w3 (w3.alloc (.cells (([-1, 9, (m : Int) + 1] : List Int).map (Value.int .i64)).toArray 3)) := (Below.refl _ _).alloc (Nat.le_refl _) _
    refine ((pickInt g A n c (some ⟨w3.heap.size, 0, none⟩) 3 3 [-1, 9, (m : Int) + 1] rfl (by simp) (by omega) _ (K3.out.1.keep hba) (irow_new w3 [-1, 9, (m : Int) + 1] 3) (fun b e => by injection e with e; subst e; show w3.heap.size ≠ g; omega))).mono ?_
    rintro e w4 ⟨t, ht, rfl, hL⟩
    have ht2 : -1 ≤ t ∧ t ≤ 9 := by
      simp only [List.mem_cons, List.not_mem_nil, or_false] at ht
      omega
    have m4 := hL.kept.2
    have K4 := Lib.hid ((K3.out.below hba).trans hL.kept)
    have V4 := Lib.hid ((V3.out.below hba).keep m4 (by omega))
    have R4 := Lib.hid ((R3.out.below hba).keep m4 (by omega))
    have O4 := Lib.hid (owned_mod (O3.out.below hba) m4 hng)
    clear hL m4 v30 v31 f30 f31 r30 r31 q30 q31 ht hba
    have v40 := V4.out.cell 0 _ rfl
    have v41 := V4.out.cell 1 _ rfl
    have f40 := V4.out.frozen 0
    have r40 := R4.out.cell 0 _ rfl
    have r41 := R4.out.cell 1 _ rfl
    have q40 := R4.out.frozen 0
    have q41 := R4.out.frozen 1
    have F := Lib.hid (some6_fin (P := Any6) (N := t) hgl (K4.out.set hgl (p := ⟨w2.heap.size, 0, none⟩) (by show w.heap.size ≤ w2.heap.size; omega) (.int .i64 t)) (O4.out.set (b := w2.heap.size) (fun h => h.2 rfl) 0 (.int .i64 t)) HOK.out ⟨ht2, by have := HL.out; omega, HR.out⟩)
    go_wp2
    exact bodyPost_ret (v := .agg #[.int .i64 t, .slice B xs.length d]) (by simp [results, Try.results35, go_sem, r40, r41]) rfl F.out
  · have y0' : (y == 0) = false := by simpa using y0
    by_cases y1 : y = 1
    · subst y1
      obtain ⟨es, hes, hown, he, hn, hog, hdis⟩ := O3.out
      have hown : w3.ownsRow 0 29 2 (.slice B xs.length d) xs.length (cells es) := hown
      have HOB := Lib.hid (show (Value.slice B xs.length d).ownBlock ≠ some w2.heap.size ∧ (Value.slice B xs.length d).ownBlock ≠ some w.heap.size ∧ (Value.slice B xs.length d).ownBlock ≠ some g from
        ⟨fun e => (hog _ e).2 rfl, fun e => by have := (hog _ e).1; omega, fun e => by have := (hog _ e).1; omega⟩)
      have HES := Lib.hid hes
      have HOW := Lib.hid hown
      have HEL := Lib.hid he
      have HN := Lib.hid hn
      have HOG := Lib.hid hog
      have HDI := Lib.hid hdis
      have hl4 := HL.out
      clear hes hown he hn hog hdis y0 f30 f31 r30 r31 q30 q31
      go_wp2_with fail
      go_region_law (first
        | (refine step_append_where rfl _ _ _ rfl 29 i0 (.agg #[.int .i64 0, .slice none 0 0]) 2 32 0 hu.out HI.out HZ0.out HZ1.out HZ2.out rfl (by decide) (.slice B xs.length d) xs.length (cells es) rfl (OW4.out.alloc _) ⟨w4.heap.size, 0, none⟩ 1 1 [.int .i64 z, .slice C zs.length c'] rfl rfl (World.news_of_block (cs := #[.int .i64 z, .slice C zs.length c']) (heap_alloc_new w4 _)) (by simp [Value.oneCell']) (by skip; unfold maxLen; omega) (by skip; omega) (Nat.zero_le _) ?_; intro v5 w5 hown5 hgrow5 hwh5; (obtain ⟨A5, c5, rfl, _, _, _, _⟩ := RowK.of_own hown5); (have V25 := lvar_grown (V24.alloc (Obj.cells #[.int .i64 z, .slice C zs.length c'] 29)) hgrow5 HOB.out.1); (have v250 := V25.cell 0 _ rfl); (have v251 := V25.cell 1 (.slice B xs.length d) rfl); (have p250 := V25.frozen 0); (have p251 := V25.frozen 1))
        | (go_simp; go_at_call 68; refine (Calls.mono (bent4 g A n c _ (K3.out.drew).1)) ?_; rintro e w4 ⟨z, zs, C, c', rfl, hP, hcC, hOC, hK4⟩; (have m4 := hK4.2); (have V24 : Lvar w4 w2.heap.size #[Value.int IntKind.i64 m, Value.slice B xs.length d] := Lvar.keep (w := w3.drew) V3.out m4 (by omega)); (have v240 := V24.cell 0 _ rfl); (have v241 := V24.cell 1 _ rfl); (have v4l := V24.lt); (have OW4 := Lib.hid (HOW.out.drew.kept (grown_of_mod m4) (Or.inr HOB.out.2.2)))))
      all_goals
        have hdr : Below w3.heap.size w3 w3.drew := (Below.refl _ _).drew
        have hlt' : ∀ b ∈ fps es, b < w3.heap.size := fun b hb => by
          obtain ⟨e, h6, h7⟩ := List.mem_flatMap.1 hb
          exact lin.lt (HEL.out e h6) b h7
        have hs4 : w3.heap.size ≤ w4.heap.size := m4.size
        have ta : Below w4.heap.size w4 (w4.alloc (Obj.cells #[.int .i64 z, .slice C zs.length c'] 29)) := (Below.refl _ _).alloc (Nat.le_refl _) _
        obtain ⟨fpC, q1, q2, q3⟩ := lin_close (q := true) (z := z) (hOC.1.below ta) (fun _ => hOC.2.below hOC.1 (by rw [IntK.iv_len]; exact Nat.le_refl _) ta) hcC
        have RR := Owned.snoc (r := lin) (m := w3.heap.size) HES.out (fun x hx => Rep.below (Rep.keep (Rep.below (HEL.out x hx) hdr) m4 (fun b hb => Or.inr (by have h9 := (HDI.out b (mem_fps hx hb)).1; omega))) ta) hlt' HN.out HDI.out (fun g e => ⟨HOG.out g e, (HOW.out.lt g e).2⟩) q1 q2 (fun b hb => (q3 b hb).1) (fun b hb => ⟨by omega, by omega⟩) hown5 hgrow5 hwh5 (Nat.le_trans hs4 (by simp))
        have hs5 := hgrow5.size
        simp only [World.size_alloc] at hs5
        have RF := RR.set (b := w2.heap.size) (fun h => h.2 rfl) 1 (.slice A5 (xs.length + 1) c5)
        have W1 := Lib.hid ((lvar_grown (((Lvar.keep (w := w3.drew) R3.out m4 (by omega)).alloc (Obj.cells #[.int .i64 z, .slice C zs.length c'] 29))) hgrow5 HOB.out.2.1).other (p := ⟨w2.heap.size, 1, none⟩) (by show w.heap.size ≠ w2.heap.size; omega) (.slice A5 (xs.length + 1) c5))
        have W2 := V25.set 1 (.slice A5 (xs.length + 1) c5)
        have W2 := Lib.hid (show Lvar (w5.setCell ⟨w2.heap.size, 1, none⟩ (.slice A5 (xs.length + 1) c5)) w2.heap.size #[.int .i64 m, .slice A5 (xs.length + 1) c5] by simpa using W2)
        have KF := ((((K3.out.drew).trans hK4).alloc (Obj.cells #[.int .i64 z, .slice C zs.length c'] 29)).grown hgrow5 hgl (fun r e => by have h9 := HOG.out r e; omega)).set hgl (p := ⟨w2.heap.size, 1, none⟩) (by show w.heap.size ≤ w2.heap.size; omega) (.slice A5 (xs.length + 1) c5)
        have hlen : (xs ++ [(z, zs)]).length = xs.length + 1 := by simp
        have F := some6_fin (P := Any6) (N := m) (B := A5) (d := c5) hgl KF (by rw [hlen]; exact RF) HOK.out ⟨⟨by omega, by omega⟩, by rw [hlen]; omega, fun x hx => by
          rcases List.mem_append.1 hx with h | h
          · exact HR.out x h
          · rw [List.mem_singleton.1 h]; exact hP.2.1⟩
        rw [hlen] at F
        have FF := Lib.hid F
        clear F RR RF KF hown5 hgrow5 hwh5 hOC hcC hP hK4 m4 ta hdr V24 v240 v241 V25 v250 v251 p250 p251 OW4 hlt' v30 v31 HOB q1 q2 q3
        generalize w5.setCell ⟨w2.heap.size, 1, none⟩ (Value.slice A5 (xs.length + 1) c5) = w6 at *
        have v60 := W2.out.cell 0 _ rfl
        have v61 := W2.out.cell 1 _ rfl
        have r60 := W1.out.cell 0 _ rfl
        have r61 := W1.out.cell 1 _ rfl
        have q60 := W1.out.frozen 0
        have q61 := W1.out.frozen 1
        go_wp2
        exact bodyPost_ret (v := .agg #[.int .i64 m, .slice A5 (xs.length + 1) c5]) (by simp [results, Try.results35, go_sem, r60, r61]) rfl FF.out
    · have y1' : (y == 1) = false := by simpa using y1
      by_cases y2 : y = 2
      · subst y2
        clear y0 y1
        go_wp2
        go_loopw [4] (fun i wr => BentRel w w1 w2 g A n c xs.length m i wr) (fun i _ => 30 - (intOf i).toNat)
        case atStart => exact ⟨0, _, xs, by omega, rfl, rfl, HR.out, O3.out, R3.out, V3.out, K3.out⟩
        case round =>
          obtain ⟨k, v, ys, hk, rfl, hl, hr, hO, hR, hS, hK⟩ := hrel
          have HLy := Lib.hid hl
          have HRy := Lib.hid hr
          have HO := Lib.hid hO
          have V1 := Lib.hid hR
          have V2 := Lib.hid hS
          have HK := Lib.hid hK
          have hsz : w2.heap.size + 1 ≤ wr.heap.size := hS.lt
          have hl4 := HL.out
          clear hl hr hO hR hS hK v30 v31 f30 f31 r30 r31 q30 q31
          have v20 := V2.out.cell 0 (.int .i64 m) rfl
          have v21 := V2.out.cell 1 v rfl
          by_cases hlt : k < 20
          · obtain ⟨es, hes, hown, he, hn, hog, hdis⟩ := HO.out
            have hown : wr.ownsRow 0 29 2 v ys.length (cells es) := hown
            have hob : v.ownBlock ≠ some w2.heap.size ∧ v.ownBlock ≠ some w.heap.size :=
              ⟨fun e => (hog _ e).2 rfl, fun e => by have := (hog _ e).1; omega⟩
            have HOB := Lib.hid hob
            have HES := Lib.hid hes
            have HOW := Lib.hid hown
            have HEL := Lib.hid he
            have HN := Lib.hid hn
            have HOG := Lib.hid hog
            have HDI := Lib.hid hdis
            clear hes hown he hn hog hdis hob
            have hk20 : (k : Int) < 20 := by omega
            go_wp2_with fail
            go_region_law (first
        | (refine step_append_where rfl _ _ _ rfl 29 i0 (.agg #[.int .i64 0, .slice none 0 0]) 2 32 0 hu.out HI.out HZ0.out HZ1.out HZ2.out rfl (by decide) (v) ys.length (cells es) rfl (OW4.out.alloc _) ⟨w4.heap.size, 0, none⟩ 1 1 [.int .i64 z, .slice C zs.length c'] rfl rfl (World.news_of_block (cs := #[.int .i64 z, .slice C zs.length c']) (heap_alloc_new w4 _)) (by simp [Value.oneCell']) (by rw [HLy.out]; unfold maxLen; omega) (by rw [HLy.out]; omega) (Nat.zero_le _) ?_; intro v5 w5 hown5 hgrow5 hwh5; (obtain ⟨A5, c5, rfl, _, _, _, _⟩ := RowK.of_own hown5); (have V25 := lvar_grown (V24.alloc (Obj.cells #[.int .i64 z, .slice C zs.length c'] 29)) hgrow5 HOB.out.1); (have v250 := V25.cell 0 _ rfl); (have v251 := V25.cell 1 (v) rfl); (have p250 := V25.frozen 0); (have p251 := V25.frozen 1))
        | (go_simp; go_at_call 46; refine (Calls.mono (constAny 1 m wr.drew)) ?_; rintro e w4 ⟨z, zs, C, c', rfl, hP, hcC, hOC, b4⟩; (have dd : Below wr.heap.size wr w4 := (Below.refl wr.heap.size wr).drew.trans b4); (have V24 := V2.out.below dd); (have v240 := V24.cell 0 (.int .i64 m) rfl); (have v241 := V24.cell 1 v rfl); (have v4l := V24.lt); (have OW4 := Lib.hid (HOW.out.kept (StrK.only_below dd none) (by by_cases hv : v.ownBlock = none; exact Or.inl hv; exact Or.inr hv)))))
            all_goals
              have hlt' : ∀ b ∈ fps es, b < wr.heap.size := fun b hb => by
                obtain ⟨e, h6, h7⟩ := List.mem_flatMap.1 hb
                exact lin.lt (HEL.out e h6) b h7
              have hs4 : wr.heap.size ≤ w4.heap.size := dd.size
              have ta : Below w4.heap.size w4 (w4.alloc (Obj.cells #[.int .i64 z, .slice C zs.length c'] 29)) := (Below.refl _ _).alloc (Nat.le_refl _) _
              obtain ⟨fpC, q1, q2, q3⟩ := lin_close (q := true) (z := z) (hOC.1.below ta) (fun _ => hOC.2.below hOC.1 (by rw [IntK.iv_len]; exact Nat.le_refl _) ta) hcC
              have RR := Owned.snoc (r := lin) (m := wr.heap.size) HES.out (fun x hx => Rep.below (Rep.below (HEL.out x hx) dd) ta) hlt' HN.out HDI.out (fun g e => ⟨HOG.out g e, (HOW.out.lt g e).2⟩) q1 q2 (fun b hb => (q3 b hb).1) (fun b hb => ⟨by omega, by omega⟩) hown5 hgrow5 hwh5 (Nat.le_trans hs4 (by simp))
              have hs5 := hgrow5.size
              simp only [World.size_alloc] at hs5
              have RF := Lib.hid (RR.set (b := w2.heap.size) (fun h => h.2 rfl) 1 (.slice A5 (ys.length + 1) c5))
              have W1 := Lib.hid ((lvar_grown (((V1.out.below dd).alloc (Obj.cells #[.int .i64 z, .slice C zs.length c'] 29))) hgrow5 HOB.out.2).other (p := ⟨w2.heap.size, 1, none⟩) (by show w.heap.size ≠ w2.heap.size; omega) (.slice A5 (ys.length + 1) c5))
              have W2 := V25.set 1 (.slice A5 (ys.length + 1) c5)
              have W2 := Lib.hid (show Lvar (w5.setCell ⟨w2.heap.size, 1, none⟩ (.slice A5 (ys.length + 1) c5)) w2.heap.size #[.int .i64 m, .slice A5 (ys.length + 1) c5] by simpa using W2)
              have KF := Lib.hid ((((HK.out.below dd).alloc (Obj.cells #[.int .i64 z, .slice C zs.length c'] 29)).grown hgrow5 hgl (fun r e => by have h9 := HOG.out r e; omega)).set hgl (p := ⟨w2.heap.size, 1, none⟩) (by show w.heap.size ≤ w2.heap.size; omega) (.slice A5 (ys.length + 1) c5))
              have HR5 := Lib.hid (show ∀ x ∈ ys ++ [(z, zs)], x.2.length ≤ 9 from fun x hx => by
                rcases List.mem_append.1 hx with h | h
                · exact HRy.out x h
                · rw [List.mem_singleton.1 h]; exact hP)
              have HL5 := Lib.hid (show (ys ++ [(z, zs)]).length = xs.length + (k + 1) by have := HLy.out; simp; omega)
              clear RR hown5 hgrow5 hwh5 hOC hcC hP dd b4 ta V24 v240 v241 V25 v250 v251 p250 p251 OW4 hlt' v20 v21 HOB q1 q2 q3
              go_wp2
              go_roundw
              case rel => exact ⟨k + 1, .slice A5 (ys.length + 1) c5, ys ++ [(z, zs)], by omega, by go_num, HL5.out, HR5.out, RF.out, W1.out, W2.out, KF.out⟩
              case measure => simp [intOf]; omega
          · have hk20 : decide ((k : Int) < 20) = false := decide_eq_false (by omega)
            obtain ⟨A2, c2, fp2, rfl, _⟩ := HO.out.rep (Nat.succ_pos _)
            have F := Lib.hid (some6_fin (P := Any6) (N := m) (B := A2) (d := c2) hgl HK.out HO.out HOK.out ⟨⟨by omega, by omega⟩, by rw [HLy.out]; omega, HRy.out⟩)
            have r60 := V1.out.cell 0 _ rfl
            have r61 := V1.out.cell 1 _ rfl
            have q60 := V1.out.frozen 0
            have q61 := V1.out.frozen 1
            go_wp2
            exact bodyPost_ret (v := .agg #[.int .i64 m, .slice A2 ys.length c2]) (by simp [results, Try.results35, go_sem, r60, r61]) rfl F.out
      · have y2' : (y == 2) = false := by simpa using y2
        have F := Lib.hid (some6_fin (P := Any6) (N := m) hgl K3.out O3.out HOK.out ⟨⟨by omega, by omega⟩, by have := HL.out; omega, HR.out⟩)
        clear y0 y1 y2
        go_wp2
        exact bodyPost_ret (v := .agg #[.int .i64 m, .slice B xs.length d]) (by simp [results, Try.results35, go_sem, r30, r31]) rfl F.out
end Draw
end Go.Proofs.Ytmkelfjnjnjgbaa

/-
  The draws of the sixth chapter: a system and a row.
-/
namespace Go.Proofs.Ytmkelfjnjnjgbaa
open Go.RowKit
namespace Draw
open RowK Mem LinM

def ANat (w : World) (e : Ending) (w' : World) : Prop := ∃ k : Nat, e = .returned (.int .i64 k) ∧ w = w'
theorem max0 (x : Int) (w : World) : Calls Try.prog 55 #[.int .i64 x, .int .i64 0] w (ANat w) := by
  by_cases h : 0 < x
  · obtain ⟨k, rfl⟩ := Int.eq_ofNat_of_zero_le (Int.le_of_lt h)
    go_enter Try.func55, Try.ntmps55
    go_wp2
    go_ret
    exact ⟨k, rfl, rfl⟩
  · have hd : decide (0 < x) = false := decide_eq_false h
    go_enter Try.func55, Try.ntmps55
    go_wp2
    go_ret
    exact ⟨0, rfl, rfl⟩
theorem min9 (k : Nat) (w : World) : Calls Try.prog 71 #[.int .i64 k, .int .i64 9] w fun e w' => ∃ m : Nat, m ≤ 9 ∧ e = .returned (.int .i64 m) ∧ w = w' := by
  by_cases h : (k : Int) < 9
  · go_enter Try.func71, Try.ntmps71
    go_wp2
    go_ret
    exact ⟨k, by omega, rfl, rfl⟩
  · have hd : decide ((k : Int) < 9) = false := decide_eq_false h
    go_enter Try.func71, Try.ntmps71
    go_wp2
    go_ret
    exact ⟨9, by omega, rfl, rfl⟩

/-- A system and a linear expression. -/
def SysLin (w : World) (e : Ending) (w' : World) : Prop :=
  ∃ (N : Int) (B : Option Addr) (d : Nat) (xs : List (Int × List Int)) (z : Int) (zs : List Int) (C : Option Addr) (f lo hi : Nat), e = .returned (.tuple #[.agg #[.int .i64 N, .slice B xs.length d], .agg #[.int .i64 z, .slice C zs.length f]]) ∧ Any6 N xs ∧ zs.length ≤ 9 ∧ SysK.Arg w' B xs.length d xs ∧ Row lo hi w' C (IntK.iv zs) ∧ Below w.heap.size w w'

end Draw
end Go.Proofs.Ytmkelfjnjnjgbaa
