import Derived.Test.YtompaciebpdmfaaSysOwn
import Derived.Test.YtompaciebpdmfaaLinSpec2
import Derived.Test.YtompaciebpdmfaaRepOwn
/-
  The model's copy of a system.
-/
namespace Go.Proofs.Ytompaciebpdmfaa
open Go.RowKit
namespace SysS
open RowK Mem LinM

/-- A system in new memory, whose rows may be appended to. -/
def GaveSys (w : World) (n : Int) (xs : List (Int × List Int)) (e : Ending) (w' : World) : Prop :=
  ∃ v, e = .returned (.agg #[.int .i64 n, v]) ∧ Owned lin 29 (fun b => w.heap.size ≤ b) w' v xs ∧ Below w.heap.size w w'
theorem own_slice {ok : Nat → Prop} {lo : Nat} {w : World} {v : Value} {xs : List (Int × List Int)} (h : Owned lin 29 ok w v xs) (hk : ∀ b, ok b → lo ≤ b) : ∃ A c, v = .slice A xs.length c ∧ SysK.Own lo w.heap.size w A xs.length c xs := by
  obtain ⟨A, c, fp, rfl, h1, h2, h3⟩ := h.rep (Nat.succ_pos _)
  exact ⟨A, c, rfl, Nat.le_refl _, fp, h1, h2, fun b hb => ⟨hk b (h3 b hb), lins.lt h1 b hb⟩⟩
theorem own_wider {lo hi lo' hi' n c : Nat} {w : World} {A : Option Addr} {xs : List (Int × List Int)} (h : SysK.Own lo hi w A n c xs) (h1 : lo' ≤ lo) (h2 : hi ≤ hi') (h3 : hi' ≤ w.heap.size) : SysK.Own lo' hi' w A n c xs := by
  obtain ⟨_, fp, k1, k2, k3⟩ := h
  exact ⟨h3, fp, k1, k2, fun b hb => ⟨Nat.le_trans h1 (k3 b hb).1, Nat.lt_of_lt_of_le (k3 b hb).2 h2⟩⟩
def addB (n : Int) (xs : List (Int × List Int)) (x : Int × List Int) : Bool := sysV n xs && sysV n (xs ++ [x])
def addL (n : Int) (xs : List (Int × List Int)) (x : Int × List Int) : List (Int × List Int) := if addB n xs x = true then xs ++ [x] else xs
def GaveAdd (w : World) (n : Int) (xs : List (Int × List Int)) (x : Int × List Int) (e : Ending) (w' : World) : Prop :=
  ∃ A c, e = .returned (.tuple #[.agg #[.int .i64 n, .slice A (addL n xs x).length c], .bool (addB n xs x)]) ∧ SysK.Own w.heap.size w'.heap.size w' A (addL n xs x).length c (addL n xs x) ∧ Below w.heap.size w w'
theorem linsSize_snoc (xs : List (Int × List Int)) (x : Int × List Int) : linsSize (xs ++ [x]) = linsSize xs + 1 + x.2.length := by simp [linsSize]; omega
theorem sysV_of_snoc {n : Int} {xs : List (Int × List Int)} {x : Int × List Int} (h : sysV n (xs ++ [x]) = true) : sysV n xs = true := by
  unfold sysV at h ⊢
  simp only [List.all_append, List.length_append, List.length_singleton, Bool.and_eq_true, decide_eq_true_eq] at h ⊢
  exact ⟨h.1.1, h.2.1, by omega⟩
theorem gaveAdd_yes {w w' : World} {n : Int} {xs : List (Int × List Int)} {x : Int × List Int} {A : Option Addr} {c : Nat} (h : addB n xs x = true) (hO : SysK.Own w.heap.size w'.heap.size w' A (xs ++ [x]).length c (xs ++ [x])) (hb : Below w.heap.size w w') :
    GaveAdd w n xs x (.returned (.tuple #[.agg #[.int .i64 n, .slice A (xs ++ [x]).length c], .bool true])) w' := by
  have e : addL n xs x = xs ++ [x] := if_pos h
  exact ⟨A, c, by rw [e, h], by rw [e]; exact hO, hb⟩
theorem gaveAdd_no {w w' : World} {n : Int} {xs : List (Int × List Int)} {x : Int × List Int} {A : Option Addr} {c : Nat} (h : addB n xs x = false) (hO : SysK.Own w.heap.size w'.heap.size w' A xs.length c xs) (hb : Below w.heap.size w w') :
    GaveAdd w n xs x (.returned (.tuple #[.agg #[.int .i64 n, .slice A xs.length c], .bool false])) w' := by
  have e : addL n xs x = xs := if_neg (by rw [h]; simp)
  exact ⟨A, c, by rw [e, h], by rw [e]; exact hO, hb⟩

def CopyRel (w : World) (n : Int) (A : Option Addr) (c : Nat) (xs : List (Int × List Int)) (i : Value) (wr : World) : Prop :=
  ∃ (k : Nat) (v : Value), k ≤ xs.length ∧ i = .int .i64 k ∧ Owned lin 29 (fun b => w.heap.size + 3 ≤ b) wr v (xs.take k) ∧ Lvar wr w.heap.size #[.int .i64 n, .slice A xs.length c] ∧ Lvar wr (w.heap.size + 1) #[.int .i64 0, .slice none 0 0] ∧ Lvar wr (w.heap.size + 1 + 1) #[.int .i64 n, v] ∧ Below w.heap.size w wr

set_option maxHeartbeats 2000000 in
set_option maxRecDepth 100000 in
theorem copy6 (n : Int) (A : Option Addr) (c : Nat) (xs : List (Int × List Int)) (w : World) (hA : SysK.Arg w A xs.length c xs) (hl : linsSize xs ≤ 1000000000) :
    Calls Try.prog 40 #[.agg #[.int .i64 n, .slice A xs.length c]] w (GaveSys w n xs) := by
  have hxl : xs.length ≤ 1000000000 := by unfold linsSize at hl; omega
  obtain ⟨i0, hi0, hz0, hz1, hz2⟩ := info_parts linInfo
  have HI := Lib.hid hi0
  have HZ0 := Lib.hid hz0
  have HZ1 := Lib.hid hz1
  have HZ2 := Lib.hid hz2
  have hu := Lib.hid Try.underlying24
  have HSZ := Lib.hid (fun x (h : x ∈ xs) => linsSize_mem h)
  have HL := Lib.hid hl
  have HA := Lib.hid hA
  have HB0 := Lib.hid (((Below.refl w.heap.size w).alloc (Nat.le_refl _) (Obj.cells #[Value.int IntKind.i64 n, Value.slice A xs.length c] 26)).alloc (by simp) (Obj.cells #[Value.int IntKind.i64 0, Value.slice none 0 0] 26))
  have HB1 := Lib.hid (HB0.out.alloc (by simp; omega) (Obj.cells #[Value.int IntKind.i64 n, Value.slice none 0 0] 26))
  have L0 := Lib.hid (((Lvar.new w #[Value.int IntKind.i64 n, Value.slice A xs.length c] 26).alloc (Obj.cells #[Value.int IntKind.i64 0, Value.slice none 0 0] 26)).alloc (Obj.cells #[Value.int IntKind.i64 n, Value.slice none 0 0] 26))
  have L1 := Lib.hid ((Lvar.new (w.alloc (Obj.cells #[Value.int IntKind.i64 n, Value.slice A xs.length c] 26)) #[Value.int IntKind.i64 0, Value.slice none 0 0] 26).alloc (Obj.cells #[Value.int IntKind.i64 n, Value.slice none 0 0] 26))
  have L2 := Lib.hid (Lvar.new ((w.alloc (Obj.cells #[Value.int IntKind.i64 n, Value.slice A xs.length c] 26)).alloc (Obj.cells #[Value.int IntKind.i64 0, Value.slice none 0 0] 26)) #[Value.int IntKind.i64 n, Value.slice none 0 0] 26)
  simp only [World.size_alloc] at L1 L2
  clear hi0 hz0 hz1 hz2 hl hA
  go_enter Try.func40, Try.ntmps40
  go_wp2
  go_loopw [4] (fun i wr => CopyRel w n A c xs i wr) (fun i _ => xs.length - (intOf i).toNat)
  case atStart => exact ⟨0, .slice none 0 0, Nat.zero_le _, rfl, Owned.nil _ _ _ _, L0.out, L1.out, L2.out, HB1.out⟩
  case round =>
    obtain ⟨k, v, hk, rfl, hR, h0, h1, h2, hb⟩ := hrel
    have HR := Lib.hid hR
    have V0 := Lib.hid h0
    have V1 := Lib.hid h1
    have V2 := Lib.hid h2
    have HB := Lib.hid hb
    have hsz : w.heap.size + 3 ≤ wr.heap.size := h2.lt
    have v00 := h0.cell 0 (.int .i64 n) rfl
    have v01 := h0.cell 1 (.slice A xs.length c) rfl
    have v20 := h2.cell 0 (.int .i64 n) rfl
    have v21 := h2.cell 1 v rfl
    clear hR h0 h1 h2 hb
    by_cases hlt : k < xs.length
    · obtain ⟨q, fp, hA'⟩ := HA.out.below HB.out
      obtain ⟨b, o, B, d, lo, hi, rfl, hbb, c0, c1, hd, r1⟩ := lins_at hA' hlt
      have hx := HSZ.out _ (List.getElem_mem hlt)
      have hs9 : xs[k].2.length ≤ 1000000000 := by have := HL.out; omega
      have HT := Lib.hid (take_succ hlt)
      clear hx hA'
      generalize xs[k] = x at *
      obtain ⟨z, zs⟩ := x
      simp only at c0 c1 r1 hs9 hd
      have hdr : Below wr.heap.size wr wr.drew := (Below.refl _ _).drew
      have CP := Lib.hid (LinS.copyC lo hi z B d zs wr.drew (r1.below hdr) hs9)
      have hi0 : (0 : Int) ≤ (k : Int) := by omega
      have hi1 : (k : Int) < (xs.length : Int) := by omega
      have htl : (xs.take k).length = k := by rw [List.length_take]; omega
      have HTL := Lib.hid htl
      obtain ⟨es, hes, hown, he, hn, hog, hdis⟩ := HR.out
      have hown : wr.ownsRow 0 29 2 v (xs.take k).length (cells es) := hown
      have hob : v.ownBlock ≠ some (w.heap.size + 1 + 1) ∧ v.ownBlock ≠ some (w.heap.size + 1) ∧ v.ownBlock ≠ some w.heap.size := by
        refine ⟨fun e => ?_, fun e => ?_, fun e => ?_⟩ <;> (have h9 : w.heap.size + 3 ≤ _ := hog _ e; omega)
      have HOB := Lib.hid hob
      have HES := Lib.hid hes
      have HOW := Lib.hid hown
      have HEL := Lib.hid he
      have HN := Lib.hid hn
      have HOG := Lib.hid hog
      have HDI := Lib.hid hdis
      clear r1 hd htl hes hown he hn hog hdis hob
      go_wp2_with fail
      go_region_law (first
        | (refine step_append_where rfl _ _ _ rfl 29 i0 (.agg #[.int .i64 0, .slice none 0 0]) 2 32 0 hu.out HI.out HZ0.out HZ1.out HZ2.out rfl (by decide) v (xs.take k).length (cells es) rfl (OW4.out.alloc _) ⟨w4.heap.size, 0, none⟩ 1 1 [.int .i64 z, .slice C zs.length c'] rfl rfl (World.news_of_block (cs := #[.int .i64 z, .slice C zs.length c']) (heap_alloc_new w4 _)) (by simp [Value.oneCell']) (by rw [HTL.out]; unfold maxLen; omega) (by rw [HTL.out]; omega) (Nat.zero_le _) ?_; intro v5 w5 hown5 hgrow5 hwh5; (obtain ⟨A5, c5, rfl, _, _, _, _⟩ := RowK.of_own hown5); (have V25 := lvar_grown (V24.alloc (Obj.cells #[.int .i64 z, .slice C zs.length c'] 29)) hgrow5 HOB.out.1); (have v250 := V25.cell 0 (.int .i64 n) rfl); (have v251 := V25.cell 1 v rfl); (have p250 := V25.frozen 0); (have p251 := V25.frozen 1))
        | (go_simp; go_at_call 41; refine (Calls.mono CP.out) ?_; rintro e w4 ⟨C, c', rfl, rC, fC, b4, hcC⟩; (have dd : Below wr.heap.size wr w4 := (Below.refl wr.heap.size wr).drew.trans b4); (have V24 := V2.out.below dd); (have v240 := V24.cell 0 (.int .i64 n) rfl); (have v241 := V24.cell 1 v rfl); (have v4l := V24.lt); (have hs4 : wr.heap.size ≤ w4.heap.size := dd.size); (have OW4 := Lib.hid (HOW.out.kept (StrK.only_below dd none) (by by_cases hv : v.ownBlock = none; exact Or.inl hv; exact Or.inr hv)))))
      all_goals
        have hlt' : ∀ b ∈ fps es, b < wr.heap.size := fun b hb => by
          obtain ⟨e, h6, h7⟩ := List.mem_flatMap.1 hb
          exact lin.lt (HEL.out e h6) b h7
        have ta : Below w4.heap.size w4 (w4.alloc (Obj.cells #[.int .i64 z, .slice C zs.length c'] 29)) := (Below.refl _ _).alloc (Nat.le_refl _) _
        obtain ⟨fpC, q1, q2, q3⟩ := lin_close (q := true) (z := z) (rC.below ta) (fun _ => fC.below rC (by rw [IntK.iv_len]; exact Nat.le_refl _) ta) hcC
        have RR := Owned.snoc (m := wr.heap.size) HES.out (fun e h => Rep.below (Rep.below (HEL.out e h) dd) ta) hlt' HN.out HDI.out (fun g e => ⟨HOG.out g e, (HOW.out.lt g e).2⟩) q1 q2 (fun b hb => (q3 b hb).1) (fun b hb => Nat.le_trans hsz hb) hown5 hgrow5 hwh5 (Nat.le_trans hs4 (by simp))
        rw [← HT.out] at RR
        have hs5 := hgrow5.size
        simp only [World.size_alloc] at hs5
        have RF := Lib.hid (RR.set (b := w.heap.size + 1 + 1) (by show ¬ (w.heap.size + 3 ≤ w.heap.size + 1 + 1); omega) 1 (.slice A5 ((xs.take k).length + 1) c5))
        have W0 := Lib.hid ((lvar_grown ((V0.out.below dd).alloc _) hgrow5 HOB.out.2.2).other (p := ⟨w.heap.size + 1 + 1, 1, none⟩) (by show w.heap.size ≠ w.heap.size + 1 + 1; omega) (.slice A5 ((xs.take k).length + 1) c5))
        have W1 := Lib.hid ((lvar_grown ((V1.out.below dd).alloc _) hgrow5 HOB.out.2.1).other (p := ⟨w.heap.size + 1 + 1, 1, none⟩) (by show w.heap.size + 1 ≠ w.heap.size + 1 + 1; omega) (.slice A5 ((xs.take k).length + 1) c5))
        have W2 := Lib.hid (V25.set 1 (.slice A5 ((xs.take k).length + 1) c5))
        have BF := Lib.hid ((((HB.out.trans (dd.mono HB.out.size)).alloc (Nat.le_trans HB.out.size hs4) (Obj.cells #[.int .i64 z, .slice C zs.length c'] 29)).grown hgrow5 (by simp; omega) (fun g e => by have h9 : w.heap.size + 3 ≤ g := HOG.out g e; omega)).setCell (p := ⟨w.heap.size + 1 + 1, 1, none⟩) (by show w.heap.size ≤ w.heap.size + 1 + 1; omega) (.slice A5 ((xs.take k).length + 1) c5))
        rw [HTL.out] at RF W0 W1 W2 BF
        clear RR hown5 hgrow5 hwh5 rC fC b4 dd ta V24 v240 v241 V25 v250 v251 p250 p251 OW4 hlt' v00 v01 v20 v21 c0 c1 HOB q1 q2 q3
        go_wp2
        go_roundw
        case rel => exact ⟨k + 1, .slice A5 (k + 1) c5, by omega, by go_num, RF.out, W0.out, W1.out, by simpa using W2.out, BF.out⟩
        case measure => simp [intOf]; omega
    · obtain rfl : k = xs.length := by omega
      have hR := HR.out
      rw [List.take_length] at hR
      obtain ⟨A2, c2, rfl, _⟩ := own_slice (lo := 0) hR (fun b _ => Nat.zero_le _)
      have R2 := (hR.set (b := w.heap.size + 1) (by show ¬ (w.heap.size + 3 ≤ w.heap.size + 1); omega) 0 (.int .i64 n)).set (b := w.heap.size + 1) (by show ¬ (w.heap.size + 3 ≤ w.heap.size + 1); omega) 1 (.slice A2 xs.length c2)
      have F := Lib.hid (show GaveSys w n xs (.returned (.agg #[.int .i64 n, .slice A2 xs.length c2])) ((wr.setCell ⟨w.heap.size + 1, 0, none⟩ (.int .i64 n)).setCell ⟨w.heap.size + 1, 1, none⟩ (.slice A2 xs.length c2)) from
        ⟨_, rfl, R2.to (fun b _ (h : w.heap.size + 3 ≤ b) => by omega), (HB.out.setCell (p := ⟨w.heap.size + 1, 0, none⟩) (by show w.heap.size ≤ w.heap.size + 1; omega) _).setCell (p := ⟨w.heap.size + 1, 1, none⟩) (by show w.heap.size ≤ w.heap.size + 1; omega) _⟩)
      have l0 := V1.out.cell 0 (.int .i64 0) rfl
      have l1 := V1.out.cell 1 (.slice none 0 0) rfl
      have p0 := V1.out.frozen 0
      have p1 := V1.out.frozen 1
      clear hR R2
      go_wp2
      refine bodyPost_ret (v := .agg #[.int .i64 n, .slice A2 xs.length c2]) (by simp [results, Try.results40, go_sem, l0, l1]) rfl ?_
      exact F.out
end SysS
end Go.Proofs.Ytompaciebpdmfaa
