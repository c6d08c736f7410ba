/-
  The draws of the fourth chapter: an expression and values of its variables.
-/
import Derived.Test.YtkeejkpeniinkaaDraw4c
import Derived.OwnWalk
namespace Go.Proofs.Ytkeejkpeniinkaa
open Go.RowKit
namespace Draw
open RowK

theorem mod_grown {w w' : World} {row : Option Nat} (h : w.grownBy w' row) {lo hi : Nat} (hr : ∀ r, row = some r → lo ≤ r ∧ r < hi) : Mod lo hi w w' :=
  ⟨h.os, h.tape, h.output, h.size, fun i hi hn => h.block i hi (fun e => by have := hr i e.symm; omega)⟩
theorem Kept.later {w w' w2 : World} {g n c lo hi : Nat} {A : Option Addr} (h : Kept w g A n c w') (m : Mod lo hi w' w2) (hlo : w.heap.size ≤ lo) (hg : g < lo) : Kept w g A n c w2 :=
  ⟨h.1.mod m hg, ⟨m.os.trans h.2.os, m.tape.trans h.2.tape, m.output.trans h.2.output, Nat.le_trans h.2.size m.size, fun i hi hn => (m.block i (Nat.lt_of_lt_of_le hi h.2.size) (Or.inl (by omega))).trans (h.2.block i hi hn)⟩⟩
/-- An expression and values. -/
def LinInts (w : World) (e : Ending) (w' : World) : Prop :=
  ∃ z zs B d vs C f lo hi lo' hi', e = .returned (.tuple #[.agg #[.int .i64 z, .slice B zs.length d], .slice C vs.length f]) ∧ Any4 z zs d ∧ zs.length ≤ d ∧ vs.length ≤ 9 ∧ Row lo hi w' B (IntK.iv zs) ∧ Row lo' hi' w' C (IntK.iv vs) ∧ Below w.heap.size w w'
theorem ints_fin {w wr : World} {lo hi lo2 hi2 d f : Nat} {B C : Option Addr} {z : Int} {zs vs : List Int} (hb : Below w.heap.size w wr) (hB : Row lo hi wr B (IntK.iv zs)) (h1 : w.heap.size + 1 ≤ lo) (hC : Row lo2 hi2 wr C (IntK.iv vs)) (h2 : w.heap.size + 1 ≤ lo2) (hP : Any4 z zs d) (hd : zs.length ≤ d) (hv : vs.length ≤ 9) :
    LinInts w (.returned (.tuple #[.agg #[.int .i64 z, .slice B zs.length d], .slice C vs.length f])) ((wr.setCell ⟨w.heap.size, 0, none⟩ (.int .i64 z)).setCell ⟨w.heap.size, 1, none⟩ (.slice B zs.length d)) := by
  have mm : Mod w.heap.size (w.heap.size + 1) wr ((wr.setCell ⟨w.heap.size, 0, none⟩ (.int .i64 z)).setCell ⟨w.heap.size, 1, none⟩ (.slice B zs.length d)) := (Mod.set _ (p := ⟨w.heap.size, 0, none⟩) (Nat.le_refl _) (Nat.lt_succ_self _) _).trans (Mod.set _ (p := ⟨w.heap.size, 1, none⟩) (Nat.le_refl _) (Nat.lt_succ_self _) _)
  exact ⟨z, zs, B, d, vs, C, f, lo, hi, lo2, hi2, rfl, hP, hd, hv, hB.keep mm (Or.inr h1), hC.keep mm (Or.inr h2), (hb.setCell (by simp) _).setCell (by simp) _⟩
theorem intInfo4 : (Try.prog.info? 3).map (fun i => (i.zero, i.size, i.bytes)) = some (some (.int .i64 0), 1, 8) := by kernel_rfl

set_option maxHeartbeats 2000000 in
set_option maxRecDepth 100000 in
theorem drawEval (A : Option Addr) (n c : Nat) (hn : n ≤ 1048576) (w : World) (hc : Code w A n) :
    Calls Try.prog 21 #[.slice A n c] w (LinInts w) := by
  obtain ⟨i0, hi0, hz0, hz1, hz2⟩ := info_parts intInfo4
  have b0 : Below w.heap.size w (w.alloc (Obj.cells #[Value.int IntKind.i64 0, Value.slice none 0 0] 26)) := (Below.refl _ _).alloc (Nat.le_refl _) _
  have B0 := Lib.hid b0
  have La := Lib.hid (Lvar.new w #[Value.int IntKind.i64 0, Value.slice none 0 0] 26)
  clear b0
  go_enter Try.func21, Try.ntmps21
  go_wp2_with fail
  refine (new A n c hn _ (hc.keep B0.out)).mono ?_
  rintro e w1 ⟨g, rfl, hC, hg, hb⟩
  simp only [World.size_alloc] at hg
  have B1 := Lib.hid (B0.out.trans (hb.mono B0.out.size))
  have La1 := Lib.hid (La.out.below hb)
  have hgl := hC.lt
  have hl1 := La1.out.lt
  clear hb La
  go_wp2_with fail
  refine (bent4 g A n c _ hC).mono ?_
  rintro e w2 ⟨z, zs, B, d, rfl, hP, hd, hO, hK⟩
  have m2 := hK.2
  have hs2 := m2.size
  have t3 : Below w2.heap.size w2 ((w2.alloc (Obj.cells #[Value.int IntKind.i64 z, Value.slice B zs.length d] 26)).alloc (.cells #[] 3)) := ((Below.refl _ _).alloc (Nat.le_refl _) _).alloc (by simp) _
  have K3 := Lib.hid ((hK.alloc (Obj.cells #[Value.int IntKind.i64 z, Value.slice B zs.length d] 26)).alloc (.cells #[] 3))
  have La3 := Lib.hid ((La1.out.keep m2 (by omega)).below t3)
  have O3 := Lib.hid (hO.below t3)
  have V3 := Lib.hid ((Lvar.new w2 #[Value.int IntKind.i64 z, Value.slice B zs.length d] 26).alloc (.cells #[] 3))
  have OW : ((w2.alloc (Obj.cells #[Value.int IntKind.i64 z, Value.slice B zs.length d] 26)).alloc (.cells #[] 3)).ownsRow (w2.heap.size + 1) 3 1 (.slice (some ⟨w2.heap.size + 1, 0, none⟩) 0 0) 0 (IntK.iv []) :=
    ⟨by simp [IntK.iv], Or.inr ⟨_, 0, #[], rfl, Nat.le_refl _, by have := heap_alloc_new (w2.alloc (Obj.cells #[Value.int IntKind.i64 z, Value.slice B zs.length d] 26)) (.cells #[] 3); simpa using this, by simp, by simp, by simp, by simp [IntK.iv]⟩⟩
  have OW3 := Lib.hid OW
  have HP := Lib.hid hP
  have HD := Lib.hid hd
  have hz9 : zs.length ≤ 9 := hP.2.1
  have hs3 : w2.heap.size + 2 ≤ ((w2.alloc (Obj.cells #[Value.int IntKind.i64 z, Value.slice B zs.length d] 26)).alloc (.cells #[] 3)).heap.size := by simp
  clear hK m2 hO La1 hP hd t3 OW
  go_wp2
  generalize ((w2.alloc (Obj.cells #[Value.int IntKind.i64 z, Value.slice B zs.length d] 26)).alloc (.cells #[] 3)) = w3 at *
  go_loopw [6, 7] (fun v i wr => ∃ (k : Nat) (vs : List Int), k ≤ zs.length ∧ i = .int .i64 k ∧ vs.length = k ∧ wr.ownsRow (w2.heap.size + 1) 3 1 v vs.length (IntK.iv vs) ∧ IntK.Own w1.heap.size w2.heap.size wr B zs ∧ Kept w1 g A n c wr ∧ w2.heap.size + 2 ≤ wr.heap.size ∧ Lvar wr w2.heap.size #[.int .i64 z, .slice B zs.length d] ∧ Lvar wr w.heap.size #[Value.int IntKind.i64 0, Value.slice none 0 0]) (fun _ i _ => zs.length - (intOf i).toNat)
  case atStart => exact ⟨0, [], Nat.zero_le _, rfl, rfl, OW3.out, O3.out, K3.out, hs3, V3.out, La3.out⟩
  case round =>
    obtain ⟨k, vs, hk, rfl, hl, hown, hO, hK, hsz, hV, hL⟩ := hrel
    have HL := Lib.hid hl
    have HW := Lib.hid hown
    have HO := Lib.hid hO
    have HK := Lib.hid hK
    have HV := Lib.hid hV
    have HLa := Lib.hid hL
    have v0 := HV.out.cell 0 (.int .i64 z) rfl
    have v1 := HV.out.cell 1 (.slice B zs.length d) rfl
    clear hown hO hK hV hL K3 La3 O3 V3 OW3
    by_cases hlt : k < zs.length
    · have hk0 : (0 : Int) ≤ (k : Int) := by omega
      have hk1 : (k : Int) < (zs.length : Int) := by omega
      have hvl : vs.length ≤ 9 := by omega
      clear hl
      go_wp2_with fail
      refine (below g A n c 20 (by omega) _ HK.out.1).mono ?_
      rintro e w4 ⟨x, hx0, hx1, _, rfl, hLf⟩
      have hx2 := hx1 (by omega)
      have hw4 : IntKind.i64.wrap (x - 5) = x - 5 := IntWalk.i64_in _ (by omega)
      have hown2 := HW.out.kept hLf.2 (by
        by_cases h : u6.ownBlock = none
        · exact Or.inl h
        · refine Or.inr fun e => ?_
          have := (HW.out.lt g e).1
          omega)
      have m4 := hLf.kept.2
      have hs4 := m4.size
      have hr : ∀ r, u6.ownBlock = some r → w2.heap.size + 1 ≤ r ∧ r < w4.heap.size := fun r e => hown2.lt r e
      have HR := Lib.hid hr
      have HW2 := Lib.hid hown2
      have KK := Lib.hid ((HK.out.trans hLf.kept).alloc (.cells #[.int .i64 (x - 5)] 3))
      have VV := Lib.hid ((HV.out.keep m4 (by omega)).alloc (.cells #[.int .i64 (x - 5)] 3))
      have LL := Lib.hid ((HLa.out.keep m4 (by omega)).alloc (.cells #[.int .i64 (x - 5)] 3))
      have OO := Lib.hid ((HO.out.keep m4 (by omega)).below ((Below.refl _ _).alloc (Nat.le_refl _) (.cells #[.int .i64 (x - 5)] 3)))
      clear hx1 hLf hown2 m4 hr
      go_wp2_with (at_builtin; go_loud (refine wpList_append_own _ rfl (.tmp 20) (.tmp 24) 24 rfl (w2.heap.size + 1) 3 i0 (.int .i64 0) 1 8 Try.underlying24 hi0 hz0 hz1 hz2 rfl (by decide) _ _ _ rfl (HW2.out.alloc _) ⟨w4.heap.size, 0, none⟩ 1 1 [.int .i64 (x - 5)] rfl rfl (cell_one_new _ _ _) (by simp [Value.oneCell']) (by unfold maxLen; omega) (by omega) (by simp <;> omega) ?_); intro v5 w5 hown5 hgrow _)
      have mg : Mod (w2.heap.size + 1) (w4.heap.size + 1) _ w5 := mod_grown hgrow (fun r e => by have := HR.out r e; omega)
      have hs5 := mg.size
      simp only [World.size_alloc] at hs5
      have K5 := Lib.hid (KK.out.later mg (by omega) (by omega))
      have V5 := Lib.hid (VV.out.keep mg (by omega))
      have L5 := Lib.hid (LL.out.keep mg (by omega))
      have O5 := Lib.hid (OO.out.keep mg (by omega))
      have W5 : w5.ownsRow (w2.heap.size + 1) 3 1 v5 (vs ++ [x - 5]).length (IntK.iv (vs ++ [x - 5])) := by simpa [IntK.iv] using hown5
      have HW5 := Lib.hid W5
      have hl5 : (vs ++ [x - 5]).length = k + 1 := by have := HL.out; simp; omega
      have HN5 := Lib.hid hl5
      clear hown5 hgrow mg W5 hl5 hw4 HL
      generalize vs ++ [x - 5] = vs2 at *
      go_wp2
      go_roundw
      case rel => exact ⟨k + 1, vs2, by omega, by go_num, HN5.out, HW5.out, O5.out, K5.out, by omega, V5.out, L5.out⟩
      case measure => simp [intOf]; omega
    · have hk' : vs.length = zs.length := by omega
      have HK' := Lib.hid hk'
      obtain ⟨A5, c5, e5, r5, f5, _, _⟩ := of_own HW.out
      subst e5
      have hv9 : vs.length ≤ 9 := by omega
      have hlz : decide ((k : Int) < (zs.length : Int)) = false := decide_eq_false (by omega)
      have R5 := Lib.hid r5
      rw [IntK.iv_len] at f5
      have F5 := Lib.hid f5
      clear hl r5 f5 HL HW hk'
      by_cases h0 : vs.length = 0
      · have h0' : decide ((0 : Int) < (vs.length : Int)) = false := decide_eq_false (by omega)
        have h0n : decide (0 < vs.length) = false := decide_eq_false (by omega)
        have l0 := HLa.out.cell 0 (.int .i64 0) rfl
        have l1 := HLa.out.cell 1 (.slice none 0 0) rfl
        have p0 := HLa.out.frozen 0
        have p1 := HLa.out.frozen 1
        have F := Lib.hid (ints_fin (f := c5) (z := z) (kept_new B1.out (by omega) HK.out) HO.out.1 (by omega) R5.out (by omega) HP.out HD.out hv9)
        clear h0 hk
        go_wp2
        exact bodyPost_ret (v := .tuple #[.agg #[.int .i64 z, .slice B zs.length d], .slice A5 vs.length c5]) (by simp [results, Try.results21, go_sem, l0, l1]) rfl F.out
      · have h0' : decide ((0 : Int) < (vs.length : Int)) = true := decide_eq_true (by omega)
        have h0p : 0 < vs.length := by omega
        clear h0
        go_wp2_with fail
        refine (once g A n c 8 (by omega) _ HK.out.1).mono ?_
        rintro e w6 ⟨q, rfl, hLf⟩
        have m6 := hLf.kept.2
        have hs6 := m6.size
        have K6 := Lib.hid (HK.out.trans hLf.kept)
        have V6 := Lib.hid (HV.out.keep m6 (by omega))
        have L6 := Lib.hid (HLa.out.keep m6 (by omega))
        have O6 := Lib.hid (HO.out.keep m6 (by omega))
        have hR6 : IntK.Own (w2.heap.size + 1) wr.heap.size w6 A5 vs := IntK.Own.keep ⟨R5.out, F5.out⟩ m6 (by omega)
        have R6 := Lib.hid hR6
        clear hLf m6 HK HV HLa HO R5 F5 v0 v1 hR6
        cases q with
        | false =>
          have v0 := V6.out.cell 0 (.int .i64 z) rfl
          have v1 := V6.out.cell 1 (.slice B zs.length d) rfl
          have l0 := L6.out.cell 0 (.int .i64 0) rfl
          have l1 := L6.out.cell 1 (.slice none 0 0) rfl
          have p0 := L6.out.frozen 0
          have p1 := L6.out.frozen 1
          have F := Lib.hid (ints_fin (f := c5) (z := z) (kept_new B1.out (by omega) K6.out) O6.out.1 (by omega) R6.out.1 (by omega) HP.out HD.out hv9)
          go_wp2
          exact bodyPost_ret (v := .tuple #[.agg #[.int .i64 z, .slice B zs.length d], .slice A5 vs.length c5]) (by simp [results, Try.results21, go_sem, l0, l1]) rfl F.out
        | true =>
          go_wp2_with fail
          refine (any3 g A n c _ K6.out.1).mono ?_
          rintro e w7 ⟨x, _, rfl, hLf⟩
          have m7 := hLf.kept.2
          have hs7 := m7.size
          have K7 := Lib.hid (K6.out.trans hLf.kept)
          have V7 := Lib.hid (V6.out.keep m7 (by omega))
          have L7 := Lib.hid (L6.out.keep m7 (by omega))
          have O7 := Lib.hid (O6.out.keep m7 (by omega))
          have R7 := R6.out.keep m7 (by omega)
          obtain ⟨ab, ao, ea, hba, hcl⟩ := IntK.at_ R7.1 h0p
          subst ea
          have hfr := R7.2 h0p ab ao rfl 0 h0p
          have ms : Mod (w2.heap.size + 1) wr.heap.size w7 (w7.setCell ⟨ab, ao, none⟩ (.int .i64 x)) := Mod.set _ (p := ⟨ab, ao, none⟩) hba.1 hba.2.1 _
          have rs := R7.1.store (k := 0) (by rw [IntK.iv_len]; exact h0p) (.int .i64 x)
          simp only [Nat.add_zero] at rs hcl hfr
          have hset : (IntK.iv vs).set 0 (.int .i64 x) = IntK.iv (vs.set 0 x) := by simp [IntK.iv, List.map_set]
          rw [hset] at rs
          have RS := Lib.hid rs
          have K8 := Lib.hid (K7.out.later ms (by omega) (by omega))
          have V8 := Lib.hid (V7.out.keep ms (by omega))
          have L8 := Lib.hid (L7.out.keep ms (by omega))
          have O8 := Lib.hid (O7.out.keep ms (by omega))
          have hls : (vs.set 0 x).length = vs.length := by simp
          have HLS := Lib.hid hls
          have v0 := V8.out.cell 0 (.int .i64 z) rfl
          have v1 := V8.out.cell 1 (.slice B zs.length d) rfl
          have l0 := L8.out.cell 0 (.int .i64 0) rfl
          have l1 := L8.out.cell 1 (.slice none 0 0) rfl
          have p0 := L8.out.frozen 0
          have p1 := L8.out.frozen 1
          have F := Lib.hid (ints_fin (f := c5) (z := z) (kept_new B1.out (by omega) K8.out) O8.out.1 (by omega) RS.out (by omega) HP.out HD.out (by rw [HLS.out]; exact hv9))
          rw [HLS.out] at F
          clear hLf m7 ms rs hset hls V6 L6 O6 R6 R7 K6 K7 V7 L7 O7
          go_wp2
          exact bodyPost_ret (v := .tuple #[.agg #[.int .i64 z, .slice B zs.length d], .slice (some ⟨ab, ao, none⟩) vs.length c5]) (by simp [results, Try.results21, go_sem, l0, l1]) rfl F.out
end Draw
end Go.Proofs.Ytkeejkpeniinkaa
