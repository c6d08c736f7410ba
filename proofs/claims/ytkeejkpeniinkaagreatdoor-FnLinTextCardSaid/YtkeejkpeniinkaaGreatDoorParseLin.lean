import Derived.Test.YtkeejkpeniinkaaGreatDoorLinOf
import Derived.Test.YtkeejkpeniinkaaGreatDoorTextFmt
import Derived.Test.YtkeejkpeniinkaaGreatDoorLinImpl3
/-
  impl.ParseLin: the expression whose representation the text is.
-/
namespace Go.Proofs.YtkeejkpeniinkaaGreatDoor
open Go.RowKit
namespace CutI
open TextM TextI NameM RowK

theorem R_vld {ss : List ByteArray} {ts : List TItem} (hs : ss.length ≤ 8) (h : ∀ t ∈ ts, -999999 ≤ t.1 ∧ t.1 ≤ 999999) : LinM.vldB (R ss ts).1 (R ss ts).2 ss.length = true ∧ (R ss ts).2.length = ss.length := by
  obtain ⟨⟨h1, h2⟩, h3⟩ := R_small (ss := ss) (show (0 : Int) ≤ 999999 by omega) h
  have hl : (R ss ts).2.length = ss.length := by rw [h3]; exact Nat.min_eq_left hs
  refine ⟨LinM.vldB_iff.2 ⟨by omega, by omega, ArithM.inC_iff.2 (by omega), fun x hx => ArithM.inC_iff.2 (by have := h2 x hx; omega)⟩, hl⟩
theorem F_true {ss : List ByteArray} {z : Int} {zs : List Int} (h : LinM.vldB z zs ss.length = true) : F true ss z zs = fmt ss z zs := by simp [F, h]
theorem gave_some {w w1 : World} {p : Int × List Int} {lo hi c : Nat} {G : Option Addr} (hb : Below w.heap.size w w1) (hO : IntK.Own lo hi w1 G p.2) (h1 : w.heap.size + 1 ≤ lo) (h2 : hi ≤ w1.heap.size) :
    LinI.GaveO w (some p) (.returned (.tuple #[.agg #[.int .i64 p.1, .slice G p.2.length c], .bool true])) ((w1.setCell ⟨w.heap.size, 0, none⟩ (.int .i64 p.1)).setCell ⟨w.heap.size, 1, none⟩ (.slice G p.2.length c)) := by
  have mm : Mod w.heap.size (w.heap.size + 1) w1 ((w1.setCell ⟨w.heap.size, 0, none⟩ (.int .i64 p.1)).setCell ⟨w.heap.size, 1, none⟩ (.slice G p.2.length c)) := (Mod.set _ (p := ⟨w.heap.size, 0, none⟩) (Nat.le_refl _) (Nat.lt_succ_self _) _).trans (Mod.set _ (p := ⟨w.heap.size, 1, none⟩) (Nat.le_refl _) (Nat.lt_succ_self _) _)
  have hk := hO.keep mm (Or.inr h1)
  exact ⟨G, c, rfl, hk.1.wider (by omega) (by have := mm.size; omega) (Nat.le_refl _), hk.2, (hb.setCell (by simp) _).setCell (by simp) _⟩

set_option maxHeartbeats 2000000 in
set_option maxRecDepth 100000 in
theorem parse (s : ByteArray) (B : Option Addr) (d : Nat) (ss : List ByteArray) (w : World) (hB : StrK.SRow w B ss) (hsz : s.size ≤ 1048576) (hl : ss.length ≤ 1000000000) (hs : ∀ s ∈ ss, s.size ≤ 9223372036854775807) (henv : Env w) :
    Calls Tryz.prog 9 #[.string s, .slice B ss.length d] w (LinI.GaveO w (parseL (okB ss) ss s.data.toList)) := by
  have s0 : Below w.heap.size w (w.alloc (Obj.cells #[Value.int IntKind.i64 0, Value.slice none 0 0] 26)) := (Below.refl _ _).alloc (Nat.le_refl _) _
  have B0 := Lib.hid s0
  have L0 := Lib.hid (Lvar.new w #[Value.int IntKind.i64 0, Value.slice none 0 0] 26)
  have VA := Lib.hid (fun W (h : Below w.heap.size w W) => vars B d ss W (hB.below h) hl hs)
  clear s0
  cases hok : okB ss with
  | false =>
    have HP : Hid (parseL false ss s.data.toList = none) := Lib.hid (by simp [parseL])
    rw [hok] at VA
    clear hok
    go_enter Tryz.func9, Tryz.ntmps9
    go_wp2_with fail
    refine (Calls.mono (VA.out _ B0.out)) ?_
    rintro e w1 ⟨rfl, b1⟩
    have L1 := Lib.hid (L0.out.below b1)
    have l0 := L1.out.cell 0 (.int .i64 0) rfl
    have l1 := L1.out.cell 1 (.slice none 0 0) rfl
    have p0 := L1.out.frozen 0
    have p1 := L1.out.frozen 1
    have HB := Lib.hid (((B0.out.trans (b1.mono B0.out.size)).setCell (p := ⟨w.heap.size, 0, none⟩) (Nat.le_refl _) (.int .i64 0)).setCell (p := ⟨w.heap.size, 1, none⟩) (Nat.le_refl _) (.slice none 0 0))
    clear b1
    go_wp2
    refine bodyPost_ret (v := .tuple #[.agg #[.int .i64 0, .slice none 0 0], .bool false]) (by simp [results, Tryz.results9, go_sem, l0, l1]) rfl ?_
    rw [HP.out]
    exact LinI.gaveO_none HB.out
  | true =>
    have hn := okB_names hok
    have hs8 := hn.1
    have HPE := Lib.hid (fun ts h => parse_eq (ok := true) (ss := ss) (fun _ => hn) (s := s.data.toList) (ts := ts) h)
    have FO := Lib.hid (fun (lo hi : Nat) (z : Int) (A : Option Addr) (c : Nat) (zs : List Int) W (h1 : Row lo hi W A (IntK.iv zs)) (h2 : StrK.SRow W B ss) (h3 : zs.length ≤ 1000000000) (h4 : FmtI.Pow W) => format lo hi z A B c d zs ss W h1 h2 h3 hl hs h4)
    rw [hok] at VA FO
    have SC := Lib.hid (fun W (h : Env W) => scanAll s hsz W h)
    unfold Scanned at SC
    clear hok hn
    generalize parseL true ss s.data.toList = PP at *
    go_enter Tryz.func9, Tryz.ntmps9
    go_wp2_with fail
    refine (Calls.mono (VA.out _ B0.out)) ?_
    rintro e w1 ⟨rfl, b1⟩
    have L1 := Lib.hid (L0.out.below b1)
    have B1 := Lib.hid (B0.out.trans (b1.mono B0.out.size))
    have hz1 := b1.size
    simp only [World.size_alloc] at hz1
    clear b1
    go_wp2_with fail
    refine (Calls.mono (SC.out _ (henv.below B1.out))) ?_
    rintro e w2 ⟨ts, A, ca, rfl, rA, htl, htn, hsc, b2⟩
    have HSC := Lib.hid hsc
    have L2 := Lib.hid (L1.out.below b2)
    have B2 := Lib.hid (B1.out.trans (b2.mono B1.out.size))
    have hz2 := b2.size
    have LO := Lib.hid (linOf A B ca d ts ss w2 rA (hB.below B2.out) htl hs8)
    have hv := R_vld (ss := ss) (ts := ts) hs8 hsc.1
    have HV := Lib.hid hv
    have HPP := Lib.hid (HPE.out ts hsc)
    clear b2 rA htn hsc hv HPE SC
    generalize R ss ts = RR at *
    unfold LinI.Gave at LO
    go_wp2_with fail
    refine (Calls.mono LO.out) ?_
    rintro e w3 ⟨G, cg, rfl, rG, fG, b3⟩
    have hz3 := b3.size
    have t4 : Below w3.heap.size w3 (w3.alloc (Obj.cells #[Value.int .i64 RR.1, Value.slice G RR.2.length cg] 26)) := (Below.refl _ _).alloc (Nat.le_refl _) _
    have L3 := Lib.hid ((L2.out.below b3).below t4)
    have V3 := Lib.hid (Lvar.new w3 #[Value.int .i64 RR.1, Value.slice G RR.2.length cg] 26)
    have O3 := Lib.hid ((show IntK.Own w2.heap.size w3.heap.size w3 G RR.2 from ⟨rG, fG⟩).below t4)
    have B3 := Lib.hid (B2.out.trans (b3.mono B2.out.size))
    have B4 := Lib.hid (B3.out.trans (t4.mono B3.out.size))
    have hz4 : w3.heap.size < (w3.alloc (Obj.cells #[Value.int .i64 RR.1, Value.slice G RR.2.length cg] 26)).heap.size := by simp
    have hrl : RR.2.length ≤ 1000000000 := by have := HV.out.2; omega
    have FO2 := Lib.hid (FO.out _ _ RR.1 G cg RR.2 _ O3.out.1 (hB.below B4.out) hrl (henv.below B4.out).par.pow)
    rw [F_true HV.out.1] at FO2
    clear rG fG b3 t4 FO LO
    go_wp2_with fail
    refine (Calls.mono FO2.out) ?_
    rintro e w5 ⟨rfl, b5⟩
    have hz5 := b5.size
    simp only [World.size_alloc] at hz5
    have L5 := Lib.hid (L3.out.below b5)
    have V5 := Lib.hid (V3.out.below b5)
    have O5 := Lib.hid (O3.out.below b5)
    have B5 := Lib.hid (B4.out.trans (b5.mono B4.out.size))
    have l0 := L5.out.cell 0 (.int .i64 0) rfl
    have l1 := L5.out.cell 1 (.slice none 0 0) rfl
    have p0 := L5.out.frozen 0
    have p1 := L5.out.frozen 1
    have v0 := V5.out.cell 0 (.int .i64 RR.1) rfl
    have v1 := V5.out.cell 1 (.slice G RR.2.length cg) rfl
    have hes : s.toList = s.data.toList := by rw [ByteArray.toList_eq]
    clear b5 FO2 L3 V3 O3
    by_cases he : fmt ss RR.1 RR.2 = s.data.toList
    · have HPS := Lib.hid (show PP = some RR by rw [HPP.out]; simp [he])
      have heq : (fmt ss RR.1 RR.2 == s.toList) = true := by rw [hes, he]; simp
      have FF := Lib.hid (gave_some (p := RR) (c := cg) B5.out O5.out (by omega) (by omega))
      generalize fmt ss RR.1 RR.2 = FT at *
      clear he hes HPP
      go_wp2
      refine bodyPost_ret (v := .tuple #[.agg #[.int .i64 RR.1, .slice G RR.2.length cg], .bool true]) (by simp [results, Tryz.results9, go_sem, l0, l1]) rfl ?_
      rw [HPS.out]
      exact FF.out
    · have HPS := Lib.hid (show PP = none by rw [HPP.out]; simp [he])
      have heq : (fmt ss RR.1 RR.2 == s.toList) = false := by rw [hes, beq_eq_false_iff_ne]; exact he
      have HB := Lib.hid ((B5.out.setCell (p := ⟨w.heap.size, 0, none⟩) (Nat.le_refl _) (.int .i64 0)).setCell (p := ⟨w.heap.size, 1, none⟩) (Nat.le_refl _) (.slice none 0 0))
      generalize fmt ss RR.1 RR.2 = FT at *
      clear he hes HPP
      go_wp2
      refine bodyPost_ret (v := .tuple #[.agg #[.int .i64 0, .slice none 0 0], .bool false]) (by simp [results, Tryz.results9, go_sem, l0, l1]) rfl ?_
      rw [HPS.out]
      exact LinI.gaveO_none HB.out
end CutI
end Go.Proofs.YtkeejkpeniinkaaGreatDoor
