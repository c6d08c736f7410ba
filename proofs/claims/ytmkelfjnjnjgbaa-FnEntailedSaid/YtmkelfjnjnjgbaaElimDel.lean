import Derived.Test.YtmkelfjnjnjgbaaElimRep
import Derived.Test.YtmkelfjnjnjgbaaLinImpl2
import Derived.Test.YtmkelfjnjnjgbaaLinK
import Derived.Deep.DeepCutAuto
import Derived.Deep.RegionHeld3
import Derived.IntWalk
import Derived.Lib.SliceRun
import Derived.Deep.AppendLies
/-
  The program's search: sums of two products, the closures, the certificate of a derived row.
-/
namespace Go.Proofs.Ytmkelfjnjnjgbaa
open Go.RowKit
namespace ElimI
open RowK Mem ElimM ArithM LinM LinI

theorem mulL_comm (x y : Int) : mulL x y = mulL y x := by
  unfold mulL
  rw [Int.mul_comm y x]
  by_cases h : inC x = true ∧ inC y = true ∧ inC (x * y) = true
  · rw [if_pos h, if_pos ⟨h.2.1, h.1, h.2.2⟩]
  · rw [if_neg h, if_neg (fun h' => h ⟨h'.2.1, h'.1, h'.2.2⟩)]
theorem scl1_eq (k m x y : Int) : scl1 k m x y = (mulL k x).bind fun p => addP p m y := by
  unfold scl1 addP
  rw [mulL_comm x k, mulL_comm y m]

set_option maxHeartbeats 1000000 in
set_option maxRecDepth 100000 in
theorem addProducts (k x m y : Int) (w : World) :
    Calls Try.prog 96 #[.int .i64 k, .int .i64 x, .int .i64 m, .int .i64 y] w fun e w' => e = .returned (.tuple #[.int .i64 ((scl1 k m x y).getD 0), .bool (scl1 k m x y).isSome]) ∧ Below w.heap.size w w' := by
  have ML := Lib.hid (fun W => ArithI.mul k x W)
  have AL := Lib.hid (fun p W => addProduct p m y W)
  rw [scl1_eq]
  cases hm : ArithM.mulL k x with
  | none =>
    rw [hm] at ML
    go_enter Try.func96, Try.ntmps96
    go_wp2_with fail
    refine (ML.out _).mono ?_
    rintro e w1 ⟨rfl, b1⟩
    go_wp2
    go_ret2
    exact ⟨rfl, b1⟩
  | some p =>
    rw [hm] at ML
    simp only [Option.bind_some]
    have AP := Lib.hid (AL.out p)
    clear AL hm
    generalize addP p m y = r at *
    simp only [Option.getD_some, Option.isSome_some] at ML
    go_enter Try.func96, Try.ntmps96
    go_wp2_with fail
    refine (ML.out _).mono ?_
    rintro e w1 ⟨rfl, b1⟩
    go_wp2_with fail
    refine (AP.out _).mono ?_
    rintro e w2 ⟨rfl, b2⟩
    go_wp2
    go_ret2
    exact ⟨rfl, below_step b1 b2⟩

/-- A derived row as an argument. -/
def drV (z : Int) (A : Option Addr) (n a : Nat) (B : Option Addr) (m b : Nat) : Value := .agg #[.int .i64 z, .slice A n a, .slice B m b]

set_option maxHeartbeats 1000000 in
theorem isNegative (z : Int) (A B : Option Addr) (n a m b : Nat) (w : World) :
    Calls Try.prog 40 #[.agg #[.int .i64 z, .slice A n a, .slice B m b]] w fun e w' => e = .returned (.bool (decide (z < 0))) ∧ Below w.heap.size w w' := by
  go_enter Try.func40, Try.ntmps40
  go_wp2
  go_ret
  exact ⟨rfl, (Below.refl _ _).alloc (Nat.le_refl _) _⟩

set_option maxHeartbeats 1000000 in
theorem hasVar (lo hi : Nat) (z : Int) (A B : Option Addr) (zs : List Int) (a m b i bi : Nat) (w : World) (hA : Row lo hi w A (IntK.iv zs)) (hi8 : i < zs.length) (_hl : zs.length ≤ 1000) (hV : Lvar w bi #[.int .i64 i]) :
    Calls Try.prog 77 #[.agg #[.int .i64 z, .slice A zs.length a, .slice B m b], .pointer (some ⟨bi, 0, none⟩)] w fun e w' => e = .returned (.bool (!(zs[i] == 0))) ∧ Below w.heap.size w w' := by
  have ha : Below w.heap.size w (w.alloc (Obj.cells #[Value.int IntKind.i64 z, Value.slice A zs.length a, Value.slice B m b] 70)) := (Below.refl _ _).alloc (Nat.le_refl _) _
  obtain ⟨b1, o1, rfl, _, c1⟩ := IntK.at_ (hA.below ha) hi8
  have v1 := (hV.below ha).cell 0 (.int .i64 i) rfl
  have hlv := hV.lt
  have hne : bi ≠ w.heap.size := by omega
  have hi0 : (0 : Int) ≤ (i : Int) := by omega
  have hi1 : (i : Int) < (zs.length : Int) := by omega
  generalize zs[i] = s at *
  have B1 := Lib.hid ha
  clear ha hA hV
  go_enter Try.func77, Try.ntmps77
  go_wp2
  go_ret
  exact ⟨rfl, B1.out⟩

/-- A certificate in new memory. -/
def GaveF (w : World) (sc : Int) (ms : List Int) (e : Ending) (w' : World) : Prop :=
  ∃ A c, e = .returned (.agg #[.int .i64 sc, .slice A ms.length c]) ∧ Row w.heap.size w'.heap.size w' A (IntK.iv ms) ∧ Free w' A ms.length ∧ Below w.heap.size w w'

theorem Row.take {lo hi : Nat} {w : World} {A : Option Addr} {zs : List Int} (h : Row lo hi w A (IntK.iv zs)) (m : Nat) : Row lo hi w A (IntK.iv (zs.take m)) := fun hn => by
  have h0 : zs ≠ [] := fun e => by subst e; simp [IntK.iv] at hn
  obtain ⟨b, o, e, h1, hc⟩ := h (fun e => h0 (by simpa [IntK.iv] using e))
  refine ⟨b, o, e, h1, fun j v hj => hc j v ?_⟩
  unfold IntK.iv at hj ⊢
  rw [List.map_take, List.getElem?_take] at hj
  split at hj
  · exact hj
  · cases hj

set_option maxHeartbeats 2000000 in
set_option maxRecDepth 100000 in
theorem certificate (lo hi : Nat) (z : Int) (A B : Option Addr) (n a b m : Nat) (ms : List Int) (w : World) (hB : Row lo hi w B (IntK.iv ms)) (hm : ms.length = m + 1) (hl : ms.length ≤ 1000) (hb : ms.length ≤ b) :
    Calls Try.prog 41 #[.agg #[.int .i64 z, .slice A n a, .slice B ms.length b]] w (GaveF w (ms.getD m 0) (ms.take m)) := by
  have bb : Below w.heap.size w ((w.alloc (Obj.cells #[Value.int IntKind.i64 z, Value.slice A n a, Value.slice B ms.length b] 70)).alloc (Obj.cells #[Value.int IntKind.i64 0, Value.slice none 0 0] 33)) := ((Below.refl _ _).alloc (Nat.le_refl _) _).alloc (by simp) _
  have X0 := Lib.hid ((Lvar.new w #[Value.int IntKind.i64 z, Value.slice A n a, Value.slice B ms.length b] 70).alloc (Obj.cells #[Value.int IntKind.i64 0, Value.slice none 0 0] 33))
  have z0 := Lvar.new (w.alloc (Obj.cells #[Value.int IntKind.i64 z, Value.slice A n a, Value.slice B ms.length b] 70)) #[Value.int IntKind.i64 0, Value.slice none 0 0] 33
  simp only [World.size_alloc] at z0
  have Z0 := Lib.hid z0
  have hs0 : w.heap.size + 2 ≤ ((w.alloc (Obj.cells #[Value.int IntKind.i64 z, Value.slice A n a, Value.slice B ms.length b] 70)).alloc (Obj.cells #[Value.int IntKind.i64 0, Value.slice none 0 0] 33)).heap.size := by simp
  have HS0 := Lib.hid hs0
  have RB := Lib.hid (hB.below bb)
  have BB := Lib.hid bb
  have hmi : m < ms.length := by omega
  have HBW := Lib.hid (fun b' o' (e : B = some ⟨b', o', none⟩) => (show b' < w.heap.size from by
    obtain ⟨b2, o2, e2, h2, _⟩ := IntK.at_ hB hmi
    rw [e] at e2
    injection e2 with e2
    injection e2 with e2 _
    omega))
  obtain ⟨sc, hsc⟩ : ∃ sc : Int, ms[m] = sc := ⟨_, rfl⟩
  have hgd : ms.getD m 0 = sc := by rw [List.getD_eq_getElem?_getD, List.getElem?_eq_getElem hmi, hsc]; rfl
  rw [hgd]
  obtain ⟨ts, hts⟩ : ∃ ts : List Int, ms.take m = ts := ⟨_, rfl⟩
  have htl : ts.length = m := by rw [← hts, List.length_take]; omega
  rw [hts]
  have HM := Lib.hid hm
  clear bb z0 hs0 hB hgd hm
  go_enter Try.func41, Try.ntmps41
  go_upto_region 1 with fail
  generalize ((w.alloc (Obj.cells #[Value.int IntKind.i64 z, Value.slice A n a, Value.slice B ms.length b] 70)).alloc (Obj.cells #[Value.int IntKind.i64 0, Value.slice none 0 0] 33)) = W0 at *
  have hs0 := HS0.out
  have x2 := X0.out.cell 2 (.slice B ms.length b) rfl
  have hw1 : IntKind.i64.wrap ((ms.length : Int) - 1) = (m : Int) := by have hm := HM.out; rw [IntWalk.i64_in _ (by omega)]; omega
  have hw2 : wrap64 ((ms.length : Int) - 1) = (m : Int) := by have hm := HM.out; unfold wrap64; omega
  have lx := X0.out.lt
  go_upto_region 2 with fail
  obtain ⟨bc, oc, rfl, _, cc⟩ := IntK.at_ RB.out hmi
  rw [hsc] at cc
  have hbw := HBW.out bc oc rfl
  have RT := Lib.hid (show Row lo hi W0 (some ⟨bc, oc, none⟩) (IntK.iv ts) from hts ▸ Row.take RB.out m)
  have CL := Lib.hid (fun W (h : Below W0.heap.size W0 W) => clone lo hi (some ⟨bc, oc, none⟩) b ts W (RT.out.below h) (by omega))
  rw [htl] at CL
  have KS := Lib.hid (fun W (h : Mod (w.heap.size + 1) (w.heap.size + 1 + 1) W0 W) => (show W.cell? ⟨w.heap.size, 2, none⟩ = some (Value.slice (some ⟨bc, oc, none⟩) ms.length b) ∧ W.cell? ⟨bc, oc + m, none⟩ = some (Value.int .i64 sc) from ⟨h.cell x2 (Or.inl (Nat.lt_succ_self _)), h.cell cc (Or.inl (by omega))⟩))
  have hj0 : (0 : Int) ≤ (m : Int) := by omega
  have hj1 : (m : Int) < (ms.length : Int) := by omega
  have hj2 : (m : Int) ≤ (b : Int) := by omega
  clear hts hsc
  go_region_held3 (fun w' => w'.cell? ⟨w.heap.size, 2, none⟩ = some (Value.slice (some ⟨bc, oc, none⟩) ms.length b) ∧ w'.cell? ⟨bc, oc + m, none⟩ = some (Value.int .i64 sc))
    (first | with_reducible exact KS.out _ (Mod.of_below hd5) | with_reducible exact KS.out _ (Mod.of_below (Below.refl _ _).drew) | with_reducible exact KS.out _ (((Mod.of_below hd5).trans (Mod.set _ (p := ⟨w.heap.size + 1, 0, none⟩) (Nat.le_refl _) (Nat.lt_succ_self _) _)).trans (Mod.set _ (p := ⟨w.heap.size + 1, 1, none⟩) (Nat.le_refl _) (Nat.lt_succ_self _) _)) | go_keep)
    ((go_at_call 79; refine (Calls.mono (CL.out _ (Below.refl _ _).drew)) ?_; rintro e w1 ⟨A1, c1, rfl, r1, f1, b1⟩; (have hd5 : Below W0.heap.size W0 w1 := (Below.refl W0.heap.size W0).drew.trans b1); (have v5 := Z0.out.below hd5); (have z0 := v5.cell 0 (Value.int .i64 0) rfl); (have z1 := v5.cell 1 (Value.slice none 0 0) rfl); (have y0 := v5.frozen 0); (have y1 := v5.frozen 1)))
  have Z1 := Lib.hid (Z0.out.below hd5)
  have B1 := Lib.hid (BB.out.trans (hd5.mono BB.out.size))
  have mm : Mod (w.heap.size + 1) (w.heap.size + 1 + 1) w1 ((w1.setCell ⟨w.heap.size + 1, 0, none⟩ (.int .i64 sc)).setCell ⟨w.heap.size + 1, 1, none⟩ (.slice A1 m c1)) := (Mod.set _ (p := ⟨w.heap.size + 1, 0, none⟩) (Nat.le_refl _) (Nat.lt_succ_self _) _).trans (Mod.set _ (p := ⟨w.heap.size + 1, 1, none⟩) (Nat.le_refl _) (Nat.lt_succ_self _) _)
  have q0 := Z1.out.cell 0 (.int .i64 0) rfl
  have q1 := Z1.out.cell 1 (.slice none 0 0) rfl
  have hfin : GaveF w sc ts (.returned (.agg #[.int .i64 sc, .slice A1 m c1])) ((w1.setCell ⟨w.heap.size + 1, 0, none⟩ (.int .i64 sc)).setCell ⟨w.heap.size + 1, 1, none⟩ (.slice A1 m c1)) := by
    rw [← htl] at mm ⊢
    exact ⟨A1, c1, rfl, (r1.keep mm (Or.inr (by simpa using hs0))).wider (by simp; omega) mm.size (Nat.le_refl _), f1.keep r1 (by rw [IntK.iv_len]; exact Nat.le_refl _) mm (Or.inr (by simpa using hs0)), below_mod B1.out mm (by omega) B1.out.size⟩
  have HF := Lib.hid hfin
  clear hfin mm r1 f1
  go_wp2
  refine bodyPost_ret (v := .agg #[.int .i64 sc, .slice A1 m c1]) (by simp [results, Try.results41, go_sem, q0, q1]) rfl HF.out
end ElimI
end Go.Proofs.Ytmkelfjnjnjgbaa

/-
  The program's search: what the library does with lists of derived rows (the first that fits, a copy, the others).
-/
namespace Go.Proofs.Ytmkelfjnjnjgbaa
open Go.RowKit
namespace ElimI
open RowK Mem ElimM ArithM LinM LinI

/-- A predicate on derived rows, in whatever world in which only the blocks from lo to hi may have turned. -/
def PredD (F : Nat) (lb : Array Value) (p : DR → Bool) (ok : DR → Prop) (lo hi : Nat) (w : World) : Prop :=
  ∀ (W : World) (r : DR) (f : List Nat) (A B : Option Addr) (a b : Nat), Mod lo hi w W → ok r → dr.rep false W f [.int .i64 r.1.1, .slice A r.1.2.length a, .slice B r.2.length b] r →
    Calls Try.prog F (#[.agg #[.int .i64 r.1.1, .slice A r.1.2.length a, .slice B r.2.length b]] ++ lb) W fun e w' => e = .returned (.bool (p r)) ∧ Below W.heap.size W w'
theorem PredD.any {F : Nat} {lb : Array Value} {p : DR → Bool} {ok : DR → Prop} {lo hi : Nat} {w : World} (h : PredD F lb p ok lo hi w) : PredD F lb p ok 0 0 w :=
  fun W r f A B a b hm => h W r f A B a b ⟨hm.os, hm.tape, hm.output, hm.size, fun i hi _ => hm.block i hi (by omega)⟩

def idxD (p : DR → Bool) (L : List DR) : Int := if L.findIdx p < L.length then (L.findIdx p : Int) else -1
theorem idx_hit {p : DR → Bool} {L : List DR} {k : Nat} (hk : k < L.length) (h : ∀ r ∈ L.take k, p r = false) (h2 : p L[k] = true) : idxD p L = (k : Int) := by
  have e : L.findIdx p = k := by
    rw [List.findIdx_eq hk]
    exact ⟨h2, fun j hj => h _ (by rw [List.mem_take_iff_getElem]; exact ⟨j, by omega, rfl⟩)⟩
  unfold idxD
  rw [e, if_pos hk]
theorem idx_none {p : DR → Bool} {L : List DR} (h : ∀ r ∈ L, p r = false) : idxD p L = -1 := by
  unfold idxD
  rw [List.findIdx_eq_length.2 h, if_neg (Nat.lt_irrefl _)]
theorem take_snoc {p : DR → Bool} {L : List DR} {k : Nat} (hk : k < L.length) (h : ∀ r ∈ L.take k, p r = false) (h2 : p L[k] = false) : ∀ r ∈ L.take (k + 1), p r = false := fun r hr => by
  rw [List.take_add_one, List.getElem?_eq_getElem hk] at hr
  rcases List.mem_append.1 hr with hr | hr
  · exact h r hr
  · have : r = L[k] := by simpa using hr
    rw [this]; exact h2

set_option maxHeartbeats 2000000 in
set_option maxRecDepth 100000 in
theorem indexFunc (F : Nat) (lb : Array Value) (eg : ∀ args w, (callFunc F args).run Try.prog w = .ok (.enter F args) w) (p : DR → Bool) (ok : DR → Prop) (q : Bool) (fp : List Nat) (A : Option Addr) (c : Nat) (L : List DR) (w : World)
    (hp : PredD F lb p ok 0 0 w) (hok : ∀ r ∈ L, ok r) (hA : drs.rep q w fp [.slice A L.length c] L) (hl : L.length ≤ 1000) :
    Calls Try.prog 39 #[.slice A L.length c, .func (.func F) #[] lb] w fun e w' => e = .returned (.int .i64 (idxD p L)) ∧ Below w.heap.size w w' := by
  have HA := Lib.hid hA
  have HP := Lib.hid hp
  have HOK := Lib.hid hok
  clear hA hp hok
  go_enter Try.func39, Try.ntmps39
  go_wp2
  go_loopw [5, 8] (fun _ s wr => ∃ k : Nat, k ≤ L.length ∧ s = .int .i64 k ∧ (∀ r ∈ L.take k, p r = false) ∧ Below w.heap.size w wr) (fun _ s _ => L.length - (intOf s).toNat)
  case atStart => exact ⟨0, Nat.zero_le _, rfl, (fun r h => by simp at h), Below.refl _ _⟩
  case round =>
    obtain ⟨k, hk, rfl, hpre, hb⟩ := hrel
    have HPRE := Lib.hid hpre
    have HB := Lib.hid hb
    clear hpre hb
    by_cases hlt : k < L.length
    · obtain ⟨bm, om, fm, Bm, dm, Cm, em, lom, him, lom', him', rfl, hblm, c0, c1, c2, hdm, hem, r1m, r2m, hrepm, hfm⟩ := drs_at (Rep.below HA.out HB.out) hlt
      have HY := Lib.hid (fun h => idx_hit hlt HPRE.out h)
      have HN := Lib.hid (fun h => take_snoc hlt HPRE.out h)
      have hcall := HP.out wr L[k] fm Bm Cm dm em (Mod.of_below HB.out) (HOK.out _ (List.getElem_mem hlt)) (dr.loose hrepm)
      have hi0 : (0 : Int) ≤ (k : Int) := by omega
      have hi1 : (k : Int) < (L.length : Int) := by omega
      generalize L[k] = x at *
      clear hrepm r1m r2m hfm hdm hem
      have HC := Lib.hid hcall
      clear hcall
      generalize p x = t at *
      cases t with
      | true =>
        have HR := Lib.hid (HY.out rfl)
        clear HY HN
        go_wp2_with (go_at_fn F; refine (Calls.mono HC.out) ?_; rintro e w1 ⟨rfl, b1⟩)
        have B1 := Lib.hid (HB.out.trans (b1.mono HB.out.size))
        go_ret
        exact ⟨by rw [HR.out]; rfl, B1.out⟩
      | false =>
        have HT := Lib.hid (HN.out rfl)
        clear HY HN
        go_wp2_with (go_at_fn F; refine (Calls.mono HC.out) ?_; rintro e w1 ⟨rfl, b1⟩)
        have B1 := Lib.hid (HB.out.trans (b1.mono HB.out.size))
        go_roundw
        case rel => exact ⟨k + 1, by omega, by go_num, HT.out, B1.out⟩
        case measure => simp [intOf]; omega
    · obtain rfl : k = L.length := by omega
      have hlz : decide ((L.length : Int) < (L.length : Int)) = false := by simp
      have HR := Lib.hid (idx_none (p := p) (L := L) (by have := HPRE.out; rwa [List.take_length] at this))
      go_wp2
      go_ret
      exact ⟨by rw [HR.out]; rfl, HB.out⟩

theorem drInfoI : (Try.prog.info? 70).map (fun i => (i.zero, i.size, i.bytes)) = some (some (.agg #[.int .i64 0, .slice none 0 0, .slice none 0 0]), 3, 56) := by kernel_rfl
theorem dr_one {q : Bool} {w : World} {fp : List Nat} {cs : List Value} {r : DR} (h : dr.rep q w fp cs r) : ∀ u ∈ cs, u.oneCell' = true := fun u hu => by
  obtain ⟨A, a, B, b, lo, hi, lo', hi', rfl, _⟩ := dr_open h
  simp at hu
  rcases hu with rfl | rfl | rfl <;> rfl
theorem cells_one {q : Bool} {w : World} {es : List (El DR)} (h : ∀ x ∈ es, dr.rep q w x.1 x.2.1 x.2.2) : ∀ u ∈ cells es, u.oneCell' = true := fun u hu => by
  obtain ⟨x, hx, hu⟩ := List.mem_flatMap.1 hu
  exact dr_one (h x hx) u hu

/-- A list of the call's own, whose elements may be shared. -/
def GaveV (base : Nat) (L : List DR) (w : World) (e : Ending) (w' : World) : Prop := ∃ v, e = .returned v ∧ Listed dr 70 base w' v L ∧ Below base w w'

set_option maxHeartbeats 2000000 in
set_option maxRecDepth 100000 in
theorem cloneD (q : Bool) (fp : List Nat) (A : Option Addr) (c : Nat) (L : List DR) (w : World) (hA : drs.rep q w fp [.slice A L.length c] L) (hl : L.length ≤ 1000) :
    Calls Try.prog 76 #[.slice A L.length c] w (GaveV w.heap.size L w) := by
  obtain ⟨i0, hi0, hz0, hz1, hz2⟩ := info_parts drInfoI
  have HI := Lib.hid hi0
  have HZ0 := Lib.hid hz0
  have HZ1 := Lib.hid hz1
  have HZ2 := Lib.hid hz2
  have hu := Lib.hid Try.underlying64
  have qn : ∀ (w : World) (a : Option Addr) (n c n' c' : Nat), (binOp .eql 64 (.slice a n c) (.slice none n' c')).run Try.prog w = .ok (.bool a.isNone) w := fun w a n c n' c' => Lib.run_eql_slice_nil w _ _ a n c n' c' Try.underlying64
  clear hi0 hz0 hz1 hz2
  cases A with
  | none =>
    obtain rfl : L = [] := by
      obtain ⟨A', c', e, _, ⟨rfl, _⟩ | ⟨b, o, es, rfl, _⟩⟩ := hA
      · rfl
      · injection e with e _
        cases e
    go_enter Try.func76, Try.ntmps76
    go_wp2
    go_ret
    exact ⟨_, rfl, Listed.nil _ _ _ _, Below.refl _ _⟩
  | some a =>
    have hsrc : ∃ es : List (El DR), vals es = L ∧ (∀ x ∈ es, dr.rep false w x.1 x.2.1 x.2.2) ∧ ∀ j u, (cells es)[j]? = some u → w.cell? (a.add j) = some u := by
      obtain ⟨A', c', e, _, ⟨rfl, _⟩ | ⟨b, o, es, rfl, rfl, hne, _, hb, he, hr, _⟩⟩ := hA
      · exact ⟨[], rfl, (fun _ h => by cases h), (fun j u h => by simp [cells] at h)⟩
      · injection e with e _
        injection e with e _
        injection e with e
        subst e
        refine ⟨es, rfl, fun x hx => dr.loose (he x hx), fun j u hj => ?_⟩
        obtain ⟨b', o', e', _, hc⟩ := hr (fun h0 => by rw [h0] at hj; simp at hj)
        injection e' with e'
        injection e' with e1 e2
        subst e1
        subst e2
        rw [show (⟨b, o, none⟩ : Addr).add j = ⟨b, o + j, none⟩ by unfold Addr.add; split <;> simp_all]
        exact hc j u hj
    obtain ⟨es, rfl, he, hc⟩ := hsrc
    have hcl := cells_len (n := 3) (es := es) (fun x hx => dr.len (he x hx))
    rw [vals_len] at hl
    rw [vals_len]
    have HE := Lib.hid he
    have HC := Lib.hid (fun j u h => (((Below.refl w.heap.size w).alloc (Nat.le_refl _) (.cells #[] 70)).cell (p := a.add j) (World.block_lt_of_cell? _ _ (hc j u h))).trans (hc j u h))
    have HCL := Lib.hid hcl
    have H1 := Lib.hid (cells_one he)
    obtain ⟨es0, hv0, hown0, _⟩ := Listed.empty dr 70 w
    have hes0 : es0 = [] := List.map_eq_nil_iff.1 hv0
    subst hes0
    have HOW := Lib.hid hown0
    clear hA he hc hcl hown0 hv0
    obtain ⟨ab, ao, asp⟩ := a
    go_enter Try.func76, Try.ntmps76
    go_wp2_with (at_builtin; go_loud (refine wpList_append_where rfl (.tmp 5) (.tmp 6) 64 rfl w.heap.size 70 i0 (.agg #[.int .i64 0, .slice none 0 0, .slice none 0 0]) 3 56 hu.out HI.out HZ0.out HZ1.out HZ2.out rfl (by decide) _ 0 [] rfl HOW.out ⟨ab, ao, asp⟩ es.length c (cells es) rfl HCL.out HC.out H1.out (by unfold maxLen; omega) (by omega) (by simp) ?_); intro v4 w4 hown4 hgrow hwh)
    go_ret
    have hb4 : Below w.heap.size w w4 := ((Below.refl w.heap.size w).alloc (Nat.le_refl _) _).grown hgrow (by simp) (fun j hj => (HOW.out.lt j hj).1)
    refine ⟨v4, rfl, ⟨es, rfl, (by rw [vals_len]; have h := hown4; rw [Nat.zero_add, List.nil_append] at h; exact h), fun x hx => Rep.below (HE.out x hx) hb4, fun b hb' e => ?_⟩, hb4⟩
    obtain ⟨x, hx, hbx⟩ := List.mem_flatMap.1 hb'
    have h1 := dr.lt (HE.out x hx) b hbx
    have h2 := (hown4.lt b e).1
    omega

/-- A row of the call's own, of which the cells from o on are written: the others are as they were. -/
theorem own_setCells {base n cap g size : Nat} {e : TypeId} : ∀ (us : List Value) (o : Nat) {w : World} {xs : List Value}, w.ownsRow base e size (.slice (some ⟨g, 0, none⟩) n cap) n xs →
    ∃ ys : List Value, (w.setCells g o us).ownsRow base e size (.slice (some ⟨g, 0, none⟩) n cap) n ys ∧ ys.take o = xs.take o
  | [], _, w, xs, h => ⟨xs, h, rfl⟩
  | u :: us, o, w, xs, h => by
    obtain ⟨ys, h1, h2⟩ := own_setCells us (o + 1) (h.stored o u).1
    refine ⟨ys, h1, ?_⟩
    have h3 : ys.take o = (ys.take (o + 1)).take o := by rw [List.take_take, Nat.min_eq_left (Nat.le_succ _)]
    rw [h3, h2, List.take_take, Nat.min_eq_left (Nat.le_succ _), List.take_set_of_le (Nat.le_refl _)]
theorem own_cut {base n cap g size m : Nat} {e : TypeId} {w : World} {xs : List Value} (h : w.ownsRow base e size (.slice (some ⟨g, 0, none⟩) n cap) n xs) (hm : m ≤ n) : w.ownsRow base e size (.slice (some ⟨g, 0, none⟩) m cap) m (xs.take (m * size)) := by
  have hms := Nat.mul_le_mul_right size hm
  rcases h.2 with ⟨h', _⟩ | ⟨g', cap', cur, h', hb, hg, hnc, hcm, hcs, htake⟩
  · cases h'
  · injection h' with e1 e2 e3
    injection e1 with e1
    injection e1 with e1
    subst e1
    subst e3
    refine ⟨by rw [List.length_take, h.1]; omega, Or.inr ⟨g, cap, cur, rfl, hb, hg, by omega, hcm, hcs, ?_⟩⟩
    rw [← htake, List.take_take, Nat.min_eq_left hms]
theorem setCells_mod {g : Nat} : ∀ (us : List Value) (o : Nat) (w : World), Mod g (g + 1) w (w.setCells g o us)
  | [], _, w => Mod.refl _ _ w
  | u :: us, o, w => (Mod.set w (p := ⟨g, o, none⟩) (Nat.le_refl _) (Nat.lt_succ_self _) u).trans (setCells_mod us (o + 1) _)
theorem cells_set3 : ∀ {es : List (El DR)} {i : Nat} {f : List Nat} {a b c : Value} {r : DR}, (∀ x ∈ es, x.2.1.length = 3) → i < es.length → (((cells es).set (i * 3) a).set (i * 3 + 1) b).set (i * 3 + 2) c = cells (es.set i (f, [a, b, c], r))
  | [], i, f, a, b, c, r, _, h => by simp at h
  | x :: es, 0, f, a, b, c, r, h, _ => by
    have h1 := h x List.mem_cons_self
    obtain ⟨xf, xc, xr⟩ := x
    match xc, h1 with
    | [y1, y2, y3], _ => simp [cells]
  | x :: es, i + 1, f, a, b, c, r, h, hi => by
    have h1 := h x List.mem_cons_self
    have ih := cells_set3 (es := es) (i := i) (f := f) (a := a) (b := b) (c := c) (r := r) (fun y hy => h y (List.mem_cons_of_mem _ hy)) (by simpa using hi)
    unfold cells at ih ⊢
    rw [List.flatMap_cons, List.set_cons_succ, List.flatMap_cons, ← ih]
    rw [List.set_append_right _ _ (by omega), List.set_append_right _ _ (by omega), List.set_append_right _ _ (by omega), h1]
    rw [show (i + 1) * 3 - 3 = i * 3 by omega, show (i + 1) * 3 + 1 - 3 = i * 3 + 1 by omega, show (i + 1) * 3 + 2 - 3 = i * 3 + 2 by omega]
/-- clear, at elements of three cells. -/
def zer (n : Nat) : List Value := (Builtin.zeroCells #[Value.int .i64 0, .slice none 0 0, .slice none 0 0] n).toList
theorem run_clear3 (w : World) (b o n c : Nat) (hn : 0 < n) (hc : ∀ j, j < n * 3 → (w.cell? ⟨b, o + j, none⟩).isSome = true) (hf : ∀ j, j < n * 3 → w.frozen? ⟨b, o + j, none⟩ = false) (ty : TypeId) :
    (Builtin.clear_ #[64] ty #[.slice (some ⟨b, o, none⟩) n c]).run Try.prog w = .ok (.tuple #[]) (w.setCells b o (zer n)) := by
  obtain ⟨i0, hi0, hz0, hz1, hz2⟩ := info_parts drInfoI
  have hzc : (Value.agg #[.int .i64 0, .slice none 0 0, .slice none 0 0]).cells = #[.int .i64 0, .slice none 0 0, .slice none 0 0] := rfl
  have hl : (zer n).length = n * 3 := by simp [zer, Builtin.zeroCells]
  have h1 : ∀ v ∈ zer n, v.oneCell' = true := fun v hv => by
    simp only [zer, Builtin.zeroCells, Array.toList_map, List.mem_map] at hv
    obtain ⟨j, _, rfl⟩ := hv
    have hj : j % 3 < 3 := Nat.mod_lt _ (by decide)
    show (#[Value.int .i64 0, .slice none 0 0, .slice none 0 0][j % 3]!).oneCell' = true
    match j % 3, hj with
    | 0, _ => rfl
    | 1, _ => rfl
    | 2, _ => rfl
  have hst := run_storeCells_cells (P := Try.prog) b o (zer n) 0 w (by rw [hl]; simpa using hc) (by rw [hl]; simpa using hf) h1
  simp only [Nat.add_zero] at hst
  obtain ⟨m, rfl⟩ : ∃ m, n = m + 1 := ⟨n - 1, by omega⟩
  have hv : (zeroValue 70).run Try.prog w = .ok (.agg #[.int .i64 0, .slice none 0 0, .slice none 0 0]) w := by simp [zeroValue, typeInfo, hi0, hz0]
  unfold zer at hst ⊢
  simp [Builtin.clear_, run_underlying Try.underlying64, hv, hzc, hst]

/-- The others so far: i kept of the first j. -/
def DelRel (base : Nat) (p : DR → Bool) (es : List (El DR)) (g cap : Nat) (w : World) (s5 s6 : Value) (wr : World) : Prop :=
  ∃ (i j : Nat) (cur : List (El DR)), s5 = .int .i64 i ∧ s6 = .int .i64 j ∧ i < j ∧ j ≤ es.length ∧ cur.length = es.length ∧ (∀ x ∈ cur, x ∈ es) ∧ vals (cur.take i) = ((vals es).take j).filter (fun r => !p r) ∧ cur.drop j = es.drop j ∧
    wr.ownsRow base 70 3 (.slice (some ⟨g, 0, none⟩) es.length cap) es.length (cells cur) ∧ Mod g (g + 1) w wr
theorem filter_snoc {p : DR → Bool} {L : List DR} {j : Nat} (hj : j < L.length) : (L.take (j + 1)).filter (fun r => !p r) = (L.take j).filter (fun r => !p r) ++ (if p L[j] = true then [] else [L[j]]) := by
  rw [filter_take _ hj]
  cases p L[j] <;> simp

theorem vals_take (es : List (El DR)) (k : Nat) : vals (es.take k) = (vals es).take k := List.map_take ..
theorem cells_take3 : ∀ {es : List (El DR)} (k : Nat), (∀ x ∈ es, x.2.1.length = 3) → (cells es).take (k * 3) = cells (es.take k)
  | [], k, _ => by simp [cells]
  | x :: es, 0, _ => by simp [cells]
  | x :: es, k + 1, h => by
    have h1 := h x List.mem_cons_self
    have ih := cells_take3 (es := es) k (fun y hy => h y (List.mem_cons_of_mem _ hy))
    unfold cells at ih ⊢
    rw [List.take_succ_cons, List.flatMap_cons, List.flatMap_cons, ← ih, List.take_append, h1, List.take_of_length_le (by omega), show (k + 1) * 3 - 3 = k * 3 by omega]
/-- One is kept. -/
theorem del_keep {base : Nat} {p : DR → Bool} {es cur : List (El DR)} {g cap i j : Nat} {w w4 : World} {cs0 cs1 cs2 : Value} {f : List Nat} {r : DR} (h3 : ∀ x ∈ es, x.2.1.length = 3) (hij : i < j) (hj : j < es.length) (hcl : cur.length = es.length) (hsub : ∀ x ∈ cur, x ∈ es)
    (hkept : vals (cur.take i) = ((vals es).take j).filter (fun r => !p r)) (hdrop : cur.drop j = es.drop j) (hx : es[j] = (f, [cs0, cs1, cs2], r)) (hp : p r = false)
    (hown : w4.ownsRow base 70 3 (.slice (some ⟨g, 0, none⟩) es.length cap) es.length (cells cur)) (hm : Mod g (g + 1) w w4) :
    DelRel base p es g cap w (.int .i64 ((i : Int) + 1)) (.int .i64 ((j : Int) + 1)) (((w4.setCell ⟨g, i * 3, none⟩ cs0).setCell ⟨g, i * 3 + 1, none⟩ cs1).setCell ⟨g, i * 3 + 2, none⟩ cs2) := by
  have hst := (((hown.stored (i * 3) cs0).1.stored (i * 3 + 1) cs1).1.stored (i * 3 + 2) cs2).1
  rw [cells_set3 (f := f) (r := r) (fun x hx => h3 x (hsub x hx)) (by omega)] at hst
  refine ⟨i + 1, j + 1, cur.set i (f, [cs0, cs1, cs2], r), by go_num, by go_num, by omega, by omega, by simpa using hcl, ?_, ?_, ?_, hst, ?_⟩
  · intro x hx'
    rcases List.mem_or_eq_of_mem_set hx' with h | h
    · exact hsub x h
    · rw [h, ← hx]; exact List.getElem_mem hj
  · have hvj : (vals es)[j]'(by rw [vals_len]; exact hj) = r := by simp [vals, hx]
    rw [filter_snoc (by rw [vals_len]; exact hj), hvj, hp, ← hkept, List.take_add_one, List.getElem?_set_self (by omega), List.take_set_of_le (Nat.le_refl _), vals_append]
    rfl
  · rw [List.drop_set_of_lt (by omega), ← List.drop_drop, hdrop, List.drop_drop]
  · exact ((hm.trans (Mod.set _ (p := ⟨g, i * 3, none⟩) (Nat.le_refl _) (Nat.lt_succ_self _) _)).trans (Mod.set _ (p := ⟨g, i * 3 + 1, none⟩) (Nat.le_refl _) (Nat.lt_succ_self _) _)).trans (Mod.set _ (p := ⟨g, i * 3 + 2, none⟩) (Nat.le_refl _) (Nat.lt_succ_self _) _)
/-- One is left out. -/
theorem del_skip {base : Nat} {p : DR → Bool} {es cur : List (El DR)} {g cap i j : Nat} {w w4 : World} {cs : List Value} {f : List Nat} {r : DR} (hij : i < j) (hj : j < es.length) (hcl : cur.length = es.length) (hsub : ∀ x ∈ cur, x ∈ es)
    (hkept : vals (cur.take i) = ((vals es).take j).filter (fun r => !p r)) (hdrop : cur.drop j = es.drop j) (hx : es[j] = (f, cs, r)) (hp : p r = true)
    (hown : w4.ownsRow base 70 3 (.slice (some ⟨g, 0, none⟩) es.length cap) es.length (cells cur)) (hm : Mod g (g + 1) w w4) :
    DelRel base p es g cap w (.int .i64 (i : Int)) (.int .i64 ((j : Int) + 1)) w4 := by
  refine ⟨i, j + 1, cur, rfl, by go_num, by omega, by omega, hcl, hsub, ?_, ?_, hown, hm⟩
  · have hvj : (vals es)[j]'(by rw [vals_len]; exact hj) = r := by simp [vals, hx]
    rw [filter_snoc (by rw [vals_len]; exact hj), hvj, hp, ← hkept]
    simp
  · rw [← List.drop_drop, hdrop, List.drop_drop]
theorem own_mod {base n cap g size : Nat} {e : TypeId} {w w' : World} {xs : List Value} (h : w.ownsRow base e size (.slice (some ⟨g, 0, none⟩) n cap) n xs) (hb : Below w.heap.size w w') : w'.ownsRow base e size (.slice (some ⟨g, 0, none⟩) n cap) n xs :=
  h.kept (StrK.only_below hb none) (Or.inr (by intro e; cases e))

set_option maxHeartbeats 4000000 in
set_option maxRecDepth 100000 in
theorem deleteFunc (F : Nat) (lb : Array Value) (eg : ∀ args w, (callFunc F args).run Try.prog w = .ok (.enter F args) w) (p : DR → Bool) (ok : DR → Prop) (base : Nat) (v : Value) (L : List DR) (w : World) (hbase : base ≤ w.heap.size)
    (hp : ∀ g, base ≤ g → PredD F lb p ok g (g + 1) w) (hok : ∀ r ∈ L, ok r) (hL : Listed dr 70 base w v L) (hl : L.length ≤ 1000) :
    Calls Try.prog 75 #[v, .func (.func F) #[] lb] w (GaveV base (L.filter fun r => !p r) w) := by
  obtain ⟨A, c, fp, rfl, hrep⟩ := Listed.rep hL (by decide)
  have IX := indexFunc F lb eg p ok false fp A c L w (PredD.any (hp base (Nat.le_refl _))) hok hrep hl
  by_cases hall : ∀ r ∈ L, p r = false
  · rw [idx_none hall] at IX
    have hf : (L.filter fun r => !p r) = L := List.filter_eq_self.2 fun r hr => by rw [hall r hr]; rfl
    rw [hf]
    have HL := Lib.hid hL
    have HX := Lib.hid IX
    have HBASE := Lib.hid hbase
    clear hL IX hrep hp hall hf hbase
    go_enter Try.func75, Try.ntmps75
    go_wp2_with fail
    refine (Calls.mono HX.out) ?_
    rintro e w1 ⟨rfl, b1⟩
    have HL1 := Lib.hid (HL.out.below b1)
    have HB1 := Lib.hid (b1.mono HBASE.out)
    go_wp2
    go_ret
    exact ⟨_, rfl, HL1.out, HB1.out⟩
  · have hk0 : L.findIdx p < L.length := List.findIdx_lt_length_of_exists (by
      rcases Classical.not_forall.1 hall with ⟨r, hr⟩
      rcases Classical.not_imp.1 hr with ⟨h1, h2⟩
      exact ⟨r, h1, by simpa using h2⟩)
    have ht0 : p L[L.findIdx p] = true := List.findIdx_getElem
    have hpre0 : ∀ r ∈ L.take (L.findIdx p), p r = false := fun r hr => by
      rw [List.mem_take_iff_getElem] at hr
      obtain ⟨j, hj, rfl⟩ := hr
      have := List.not_of_lt_findIdx (p := p) (xs := L) (i := j) (by omega)
      simpa using this
    rw [idx_hit hk0 hpre0 ht0] at IX
    generalize L.findIdx p = k0 at *
    obtain ⟨es, rfl, hown, he, hd⟩ := hL
    have hn0 : 0 < (vals es).length := by omega
    obtain ⟨g, cap, e1, hg1, hg2⟩ := hown.form hn0
    injection e1 with e1 _ e3
    subst e1
    subst e3
    have hown : w.ownsRow base 70 3 (.slice (some ⟨g, 0, none⟩) (vals es).length c) (vals es).length (cells es) := hown
    have h3 : ∀ x ∈ es, x.2.1.length = 3 := fun x hx => dr.len (he x hx)
    have hcap : (vals es).length ≤ c := by
      obtain ⟨A', c', e, _, _, hc, _⟩ := RowK.of_own hown
      injection e with _ _ e
      omega
    have hst : vals (es.take k0) = ((vals es).take (k0 + 1)).filter (fun r => !p r) := by
      rw [filter_snoc hk0, ht0, vals_take, if_pos rfl, List.append_nil]
      exact (List.filter_eq_self.2 fun r hr => by rw [hpre0 r hr]; rfl).symm
    rw [vals_len] at hown hl hcap hk0 IX ⊢
    have HC0 := Lib.hid (hp g hg1)
    have HOK := Lib.hid hok
    have HE := Lib.hid he
    have HD := Lib.hid (show ∀ b ∈ fps es, b < g ∨ g + 1 ≤ b from fun b hb => by
      have := hd b hb
      have h2 : g ≠ b := fun e => this (by rw [e]; rfl)
      omega)
    have H3 := Lib.hid h3
    have HOW := Lib.hid hown
    have HST := Lib.hid hst
    have HX := Lib.hid IX
    have HG := Lib.hid hg1
    have HBASE := Lib.hid hbase
    have hne1 : ((k0 : Int) == -1) = false := beq_eq_false_iff_ne.2 (by omega)
    clear IX hrep hp hall hok he hd h3 hown hst hpre0 ht0 hn0 hg1 hbase
    go_enter Try.func75, Try.ntmps75
    go_wp2_with fail
    refine (Calls.mono HX.out) ?_
    rintro e w1 ⟨rfl, b1⟩
    have START := Lib.hid (show DelRel base p es g c w (.int .i64 (k0 : Int)) (.int .i64 ((k0 : Int) + 1)) w1 from ⟨k0, k0 + 1, es, rfl, by go_num, by omega, by omega, rfl, fun x hx => hx, HST.out, rfl, own_mod HOW.out b1, Mod.of_below b1⟩)
    clear b1 HX
    go_wp2
    go_loopw [5, 6, 7] (fun s5 s6 _ wr => DelRel base p es g c w s5 s6 wr) (fun _ s6 _ _ => es.length - (intOf s6).toNat)
    case atStart => exact START.out
    case round =>
      obtain ⟨i, j, cur, rfl, rfl, hij, hj, hcl, hsub, hkept, hdrop, hown, hm⟩ := hrel
      have KM := Lib.hid hm
      have KO := Lib.hid hown
      have KS := Lib.hid hsub
      have KK := Lib.hid hkept
      have KD := Lib.hid hdrop
      have KC := Lib.hid hcl
      clear hm hown hsub hkept hdrop START
      by_cases hlt : j < es.length
      · have hcur : cur[j]'(by omega) = es[j] := by
          have h := congrArg (fun l : List (El DR) => l[0]?) KD.out
          simp only [List.getElem?_drop, Nat.add_zero] at h
          rw [List.getElem?_eq_getElem (by omega), List.getElem?_eq_getElem hlt] at h
          injection h
        obtain ⟨x, hx⟩ : ∃ x, es[j] = x := ⟨_, rfl⟩
        have hxm : x ∈ es := hx ▸ List.getElem_mem hlt
        have hrx : dr.rep false wr x.1 x.2.1 x.2.2 := Rep.keep (HE.out x hxm) KM.out (fun b hb => HD.out b (mem_fps hxm hb))
        have hvx : x.2.2 ∈ vals es := List.mem_map.2 ⟨x, hxm, rfl⟩
        have hat : ∀ t, t < 3 → wr.cell? ⟨g, j * 3 + t, none⟩ = x.2.1[t]? := fun t ht => by
          rw [KO.out.cellAt (j * 3 + t) (by omega), cells_at (fun y hy => H3.out y (KS.out y hy)) (by omega) ht, hcur, hx]
        obtain ⟨f, cs, r⟩ := x
        obtain ⟨A', a', B', b', lo, hi, lo', hi', hcs, _⟩ := dr_open hrx
        simp only at hcs hrx hat hvx
        subst hcs
        have c0 := hat 0 (by decide)
        have c1 := hat 1 (by decide)
        have c2 := hat 2 (by decide)
        simp only [List.getElem?_cons_zero, List.getElem?_cons_succ, Nat.add_zero] at c0 c1 c2
        have hmi : ∀ t, t < 3 → ∃ u, wr.cell? ⟨g, i * 3 + t, none⟩ = some u := fun t ht => by
          rw [KO.out.cellAt (i * 3 + t) (by omega), cells_at (fun y hy => H3.out y (KS.out y hy)) (by omega) ht]
          have := H3.out _ (KS.out _ (List.getElem_mem (show i < cur.length by omega)))
          exact ⟨_, List.getElem?_eq_getElem (by omega)⟩
        obtain ⟨o0, d0⟩ := hmi 0 (by decide)
        obtain ⟨o1, d1⟩ := hmi 1 (by decide)
        obtain ⟨o2, d2⟩ := hmi 2 (by decide)
        rw [Nat.add_zero] at d0
        have hglt := World.block_lt_of_cell? _ _ c0
        have hglt : g < wr.heap.size := hglt
        have ta : Below wr.heap.size wr (wr.alloc (Obj.cells #[Value.int IntKind.i64 r.1.1, Value.slice A' r.1.2.length a', Value.slice B' r.2.length b'] 70)) := (Below.refl _ _).alloc (Nat.le_refl _) _
        have HC := Lib.hid (HC0.out _ r f A' B' a' b' (KM.out.trans (Mod.of_below ta)) (HOK.out r hvx) (Rep.below hrx ta))
        have hi0 : (0 : Int) ≤ (j : Int) := by omega
        have hi1 : (j : Int) < (es.length : Int) := by omega
        have hi2 : (0 : Int) ≤ (i : Int) := by omega
        have hi3 : (i : Int) < (es.length : Int) := by omega
        have D0 := Lib.hid d0
        have D1 := Lib.hid d1
        have D2 := Lib.hid d2
        have TA := Lib.hid ta
        have HX := Lib.hid hx
        have hwj : IntKind.i64.wrap ((j : Int) + 1) = (j : Int) + 1 := IntWalk.i64_in _ (by omega)
        have hwi : IntKind.i64.wrap ((i : Int) + 1) = (i : Int) + 1 := IntWalk.i64_in _ (by omega)
        clear hcur hrx hat hvx hmi d0 d1 d2 ta hx hxm
        cases hpr : p r with
        | true =>
          rw [hpr] at HC
          go_wp2_with (go_at_fn F; refine (Calls.mono HC.out) ?_; rintro e w4 ⟨rfl, b4⟩)
          have b5 := TA.out.trans (b4.mono TA.out.size)
          have hn := Lib.hid (del_skip hij hlt KC.out KS.out KK.out KD.out HX.out hpr (own_mod KO.out b5) (KM.out.trans (Mod.of_below b5)))
          clear b5 b4 hpr
          go_roundw
          case rel => exact hn.out
          case measure => simp [intOf]; omega
        | false =>
          rw [hpr] at HC
          go_wp2_with (go_at_fn F; refine (Calls.mono HC.out) ?_; rintro e w4 ⟨rfl, b4⟩; (have b5 := TA.out.trans (b4.mono TA.out.size)); (have hw4 := own_mod KO.out b5); (have v4 := (Lvar.new wr #[Value.int IntKind.i64 r.1.1, Value.slice A' r.1.2.length a', Value.slice B' r.2.length b'] 70).below b4); (have e0 := v4.cell 0 (Value.int .i64 r.1.1) rfl); (have e1 := v4.cell 1 (Value.slice A' r.1.2.length a') rfl); (have e2 := v4.cell 2 (Value.slice B' r.2.length b') rfl); (have y0 := (b5.cell (p := ⟨g, i * 3, none⟩) hglt).trans D0.out); (have y1 := (b5.cell (p := ⟨g, i * 3 + 1, none⟩) hglt).trans D1.out); (have y2 := (b5.cell (p := ⟨g, i * 3 + 2, none⟩) hglt).trans D2.out); (have f0 := hw4.frozenAt (i * 3)); (have f1 := hw4.frozenAt (i * 3 + 1)); (have f2 := hw4.frozenAt (i * 3 + 2)))
          have hn := Lib.hid (del_keep H3.out hij hlt KC.out KS.out KK.out KD.out HX.out hpr hw4 (KM.out.trans (Mod.of_below b5)))
          clear b5 b4 hpr hw4 v4 e0 e1 e2 y0 y1 y2 f0 f1 f2
          go_roundw
          case rel => exact hn.out
          case measure => simp [intOf]; omega
      · obtain rfl : j = es.length := by omega
        have hlz : decide ((es.length : Int) < (es.length : Int)) = false := by simp
        have hcel : ∀ t, t < (es.length - i) * 3 → (wr.cell? ⟨g, i * 3 + t, none⟩).isSome = true := fun t ht => by
          have hlc := cells_len (n := 3) (es := cur) (fun y hy => H3.out y (KS.out y hy))
          have hlt' : i * 3 + t < es.length * 3 := by
            have : (es.length - i) * 3 = es.length * 3 - i * 3 := Nat.sub_mul ..
            omega
          rw [KO.out.cellAt (i * 3 + t) hlt', List.getElem?_eq_getElem (by rw [hlc, KC.out]; exact hlt')]
          rfl
        have hcl3 := run_clear3 wr g (i * 3) (es.length - i) (c - i) (by omega) hcel (fun t _ => KO.out.frozenAt (i * 3 + t))
        have hi2 : (0 : Int) ≤ (i : Int) := by omega
        have hi3 : (i : Int) ≤ (es.length : Int) := by omega
        have hi4 : (i : Int) ≤ (c : Int) := by omega
        have hi5 : ¬ c = i := by omega
        have hi6 : i ≤ c := by omega
        have hi7 : i ≤ es.length := by omega
        obtain ⟨ys, hy1, hy2⟩ := own_setCells (zer (es.length - i)) (i * 3) KO.out
        have hy3 := own_cut (m := i) hy1 (by omega)
        rw [hy2, cells_take3 i (fun y hy => H3.out y (KS.out y hy))] at hy3
        have HY := Lib.hid hy3
        have MM := Lib.hid (KM.out.trans (setCells_mod (g := g) (zer (es.length - i)) (i * 3) wr))
        have HB := Lib.hid (below_mod (Below.refl base w) MM.out HG.out HBASE.out)
        have hlk : (((vals es).filter fun r => !p r)).length = i := by
          have h := KK.out
          rw [show (vals es).take es.length = vals es from List.take_of_length_le (by rw [vals_len]; exact Nat.le_refl _)] at h
          rw [← h, vals_len, List.length_take, KC.out]
          omega
        have HLK := Lib.hid hlk
        clear hcel hy1 hy2 hy3 hlk
        go_wp2
        go_ret
        refine ⟨_, rfl, ⟨cur.take i, ?_, ?_, fun x hx => Rep.keep (HE.out x (KS.out x (List.mem_of_mem_take hx))) MM.out (fun b hb => HD.out b (mem_fps (KS.out x (List.mem_of_mem_take hx)) hb)), fun b hb e => ?_⟩, HB.out⟩
        · have h := KK.out
          rwa [show (vals es).take es.length = vals es from List.take_of_length_le (by rw [vals_len]; exact Nat.le_refl _)] at h
        · rw [HLK.out]
          exact HY.out
        · obtain ⟨x, hx, hbx⟩ := List.mem_flatMap.1 hb
          have h7 := HD.out b (mem_fps (KS.out x (List.mem_of_mem_take hx)) hbx)
          injection e with e
          have e : g = b := e
          omega
end ElimI
end Go.Proofs.Ytmkelfjnjnjgbaa
