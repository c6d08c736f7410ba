import Derived.Test.YtkeejkpeniinkaaGreatDoorParseLinS
/-
  ParseConstraint, the program's and the model's.
-/
namespace Go.Proofs.YtkeejkpeniinkaaGreatDoor
open Go.RowKit
namespace CutI
open TextM TextI NameM RowK

/-- The expression of which the text is the constraint. -/
def parseC (ok : Bool) (ss : List ByteArray) (l : List UInt8) : Option (Int × List Int) :=
  if Lib.hasSuffix l [32, 62, 61, 32, 48] = true then parseL ok ss (l.take (l.length - 5)) else none
theorem parseC_some {ok : Bool} {ss : List ByteArray} {l : List UInt8} {p : Int × List Int} (h : parseC ok ss l = some p) : Lib.hasSuffix l [32, 62, 61, 32, 48] = true ∧ parseL ok ss (l.take (l.length - 5)) = some p := by
  unfold parseC at h
  split at h
  · rename_i hh; exact ⟨hh, h⟩
  · cases h
theorem suf_len {l : List UInt8} (h : Lib.hasSuffix l [32, 62, 61, 32, 48] = true) : 5 ≤ l.length ∧ l.drop (l.length - 5) = [32, 62, 61, 32, 48] := by
  unfold Lib.hasSuffix at h
  obtain ⟨t, rfl⟩ := List.isSuffixOf_iff_suffix.1 h
  simp
theorem suf_of {l : List UInt8} (h : l.drop (l.length - 5) = [32, 62, 61, 32, 48]) : Lib.hasSuffix l [32, 62, 61, 32, 48] = true := by
  unfold Lib.hasSuffix
  exact List.isSuffixOf_iff_suffix.2 ⟨l.take (l.length - 5), by rw [← h]; exact List.take_append_drop _ _⟩
theorem parseL_nil (ok : Bool) (ss : List ByteArray) : parseL ok ss [] = none := by
  unfold parseL
  exact if_neg (fun h => fmt_ne _ _ _ h.2)
theorem gave_any {w w1 : World} {P : Option (Int × List Int)} {lo hi c : Nat} {G : Option Addr} (hb : Below w.heap.size w w1) (r : Row lo hi w1 G (IntK.iv (P.getD (0, [])).2)) (f : Free w1 G (P.getD (0, [])).2.length) (h1 : w.heap.size + 1 ≤ lo) (h2 : hi ≤ w1.heap.size) :
    LinI.GaveO w P (.returned (.tuple #[.agg #[.int .i64 (P.getD (0, [])).1, .slice G (P.getD (0, [])).2.length c], .bool P.isSome])) ((w1.setCell ⟨w.heap.size, 0, none⟩ (.int .i64 (P.getD (0, [])).1)).setCell ⟨w.heap.size, 1, none⟩ (.slice G (P.getD (0, [])).2.length c)) := by
  have mm : Mod w.heap.size (w.heap.size + 1) w1 ((w1.setCell ⟨w.heap.size, 0, none⟩ (.int .i64 (P.getD (0, [])).1)).setCell ⟨w.heap.size, 1, none⟩ (.slice G (P.getD (0, [])).2.length c)) := (Mod.set _ (p := ⟨w.heap.size, 0, none⟩) (Nat.le_refl _) (Nat.lt_succ_self _) _).trans (Mod.set _ (p := ⟨w.heap.size, 1, none⟩) (Nat.le_refl _) (Nat.lt_succ_self _) _)
  have hk := (show IntK.Own lo hi w1 G (P.getD (0, [])).2 from ⟨r, f⟩).keep mm (Or.inr h1)
  exact ⟨G, c, rfl, hk.1.wider (by omega) (by have := mm.size; omega) (Nat.le_refl _), hk.2, (hb.setCell (by simp) _).setCell (by simp) _⟩

set_option maxHeartbeats 1000000 in
set_option maxRecDepth 100000 in
theorem cons (s : ByteArray) (B : Option Addr) (d : Nat) (ss : List ByteArray) (w : World) (hB : StrK.SRow w B ss) (hsz : s.size ≤ 1048576) (hl : ss.length ≤ 1000000000) (hs : ∀ s ∈ ss, s.size ≤ 9223372036854775807) (henv : Env w) :
    Calls Tryz.prog 15 #[.string s, .slice B ss.length d] w (LinI.GaveO w (parseC (okB ss) ss s.data.toList)) := by
  have s0 : Below w.heap.size w (w.alloc (Obj.cells #[Value.int IntKind.i64 0, Value.slice none 0 0] 26)) := (Below.refl _ _).alloc (Nat.le_refl _) _
  have B0 := Lib.hid s0
  have L0 := Lib.hid (Lvar.new w #[Value.int IntKind.i64 0, Value.slice none 0 0] 26)
  have CS := Lib.hid (fun W => Tryz.strings_CutSuffix s ⟨#[32, 62, 61, 32, 48]⟩ W (by omega))
  have hz0 : w.heap.size + 1 ≤ (w.alloc (Obj.cells #[Value.int IntKind.i64 0, Value.slice none 0 0] 26)).heap.size := by simp
  clear s0
  have hlist : (ByteArray.mk #[32, 62, 61, 32, 48]).data.toList = [32, 62, 61, 32, 48] := rfl
  rw [hlist] at CS
  by_cases h : Lib.hasSuffix s.data.toList [32, 62, 61, 32, 48] = true
  · have htr : Lib.trimSuffix s.data.toList [32, 62, 61, 32, 48] = s.data.toList.take (s.data.toList.length - 5) := by
      unfold Lib.trimSuffix
      rw [if_pos h]
      rfl
    rw [h, htr] at CS
    have hT : (⟨(s.data.toList.take (s.data.toList.length - 5)).toArray⟩ : ByteArray).data.toList = s.data.toList.take (s.data.toList.length - 5) := by simp
    have hTs : (⟨(s.data.toList.take (s.data.toList.length - 5)).toArray⟩ : ByteArray).size ≤ 1048576 := by
      rw [size_mk, List.length_take, size_list]; omega
    have HP := Lib.hid (show parseC (okB ss) ss s.data.toList = parseL (okB ss) ss (⟨(s.data.toList.take (s.data.toList.length - 5)).toArray⟩ : ByteArray).data.toList by unfold parseC; rw [if_pos h, hT])
    generalize (⟨(s.data.toList.take (s.data.toList.length - 5)).toArray⟩ : ByteArray) = T at *
    have PA := Lib.hid (fun W (b : Below w.heap.size w W) => parse T B d ss W (hB.below b) hTs hl hs (henv.below b))
    rw [HP.out]
    clear HP h htr hT
    generalize parseL (okB ss) ss T.data.toList = PP at *
    unfold LinI.GaveO at PA
    go_enter Tryz.func15, Tryz.ntmps15
    go_wp2_with fail
    refine (Calls.mono (CS.out _)) ?_
    rintro e w1 ⟨rfl, rfl⟩
    go_wp2_with fail
    refine (Calls.mono (PA.out _ B0.out)) ?_
    rintro e w2 ⟨G, c, rfl, rG, fG, b2⟩
    have L2 := Lib.hid (L0.out.below b2)
    have B2 := Lib.hid (B0.out.trans (b2.mono B0.out.size))
    have l0 := L2.out.cell 0 (.int .i64 0) rfl
    have l1 := L2.out.cell 1 (.slice none 0 0) rfl
    have p0 := L2.out.frozen 0
    have p1 := L2.out.frozen 1
    have GA := Lib.hid (gave_any (P := PP) (c := c) B2.out rG fG (by omega) (Nat.le_refl _))
    clear rG fG b2
    generalize hz : (PP.getD (0, [])).1 = z at *
    generalize hzs : (PP.getD (0, [])).2 = zs at *
    generalize hq : PP.isSome = q at *
    go_wp2
    refine bodyPost_ret (v := .tuple #[.agg #[.int .i64 z, .slice G zs.length c], .bool q]) (by simp [results, Tryz.results15, go_sem, l0, l1]) rfl ?_
    exact GA.out
  · have h : Lib.hasSuffix s.data.toList [32, 62, 61, 32, 48] = false := by simpa using h
    have HP := Lib.hid (show parseC (okB ss) ss s.data.toList = none by unfold parseC; rw [h]; rfl)
    rw [h] at CS
    generalize Lib.trimSuffix s.data.toList [32, 62, 61, 32, 48] = T at *
    rw [HP.out]
    clear HP h
    go_enter Tryz.func15, Tryz.ntmps15
    go_wp2_with fail
    refine (Calls.mono (CS.out _)) ?_
    rintro e w1 ⟨rfl, rfl⟩
    have l0 := L0.out.cell 0 (.int .i64 0) rfl
    have l1 := L0.out.cell 1 (.slice none 0 0) rfl
    have p0 := L0.out.frozen 0
    have p1 := L0.out.frozen 1
    go_wp2
    refine bodyPost_ret (v := .tuple #[.agg #[.int .i64 0, .slice none 0 0], .bool false]) (by simp [results, Tryz.results15, go_sem, l0, l1]) rfl ?_
    exact LinI.gaveO_none B0.out
end CutI
namespace ParseS
open TextM TextI NameM RowK CutI

set_option maxHeartbeats 1000000 in
set_option maxRecDepth 100000 in
theorem cons (s : ByteArray) (B : Option Addr) (d : Nat) (ss : List ByteArray) (w : World) (hB : StrK.SRow w B ss) (hsz : s.size ≤ 1048576) (hl : ss.length ≤ 1000000000) (hcap : ss.length ≤ d) (hs : ∀ s ∈ ss, s.size ≤ 9223372036854775807) :
    Calls Tryz.prog 16 #[.string s, .slice B ss.length d] w (LinI.GaveO w (parseC (okB ss) ss s.data.toList)) := by
  have s0 : Below w.heap.size w (w.alloc (Obj.cells #[Value.int IntKind.i64 0, Value.slice none 0 0] 26)) := (Below.refl _ _).alloc (Nat.le_refl _) _
  have B0 := Lib.hid s0
  have L0 := Lib.hid (Lvar.new w #[Value.int IntKind.i64 0, Value.slice none 0 0] 26)
  have hz0 : w.heap.size + 1 ≤ (w.alloc (Obj.cells #[Value.int IntKind.i64 0, Value.slice none 0 0] 26)).heap.size := by simp
  clear s0
  have hsl := size_list s
  by_cases hn : s.size < 6
  · have HP := Lib.hid (show parseC (okB ss) ss s.data.toList = none by
      unfold parseC
      split
      · rw [show s.data.toList.length - 5 = 0 by omega, List.take_zero, parseL_nil]
      · rfl)
    rw [HP.out]
    clear HP hsl
    have h1 : decide ((s.size : Int) - 5 < 1) = true := decide_eq_true (by omega)
    have l0 := L0.out.cell 0 (.int .i64 0) rfl
    have l1 := L0.out.cell 1 (.slice none 0 0) rfl
    have p0 := L0.out.frozen 0
    have p1 := L0.out.frozen 1
    go_enter Tryz.func16, Tryz.ntmps16
    go_wp2
    refine bodyPost_ret (v := .tuple #[.agg #[.int .i64 0, .slice none 0 0], .bool false]) (by simp [results, Tryz.results16, go_sem, l0, l1]) rfl ?_
    exact LinI.gaveO_none B0.out
  · obtain ⟨n, hne⟩ : ∃ n : Nat, s.size = n + 5 := ⟨s.size - 5, by omega⟩
    have h1 : decide ((n : Int) < 1) = false := decide_eq_false (by omega)
    have hsub : s.data.toList.length - 5 = n := by omega
    have hfr : s.extract n (n + 5) = ⟨(s.data.toList.drop n).toArray⟩ := by rw [← hne]; exact from_eq s n
    have hup : s.extract 0 n = ⟨(s.data.toList.take n).toArray⟩ := upto_eq s n
    by_cases h : Lib.hasSuffix s.data.toList [32, 62, 61, 32, 48] = true
    · have hd := (suf_len h).2
      rw [hsub] at hd
      have hT : (s.extract 0 n).data.toList = s.data.toList.take n := by rw [hup]
      have hTs : (s.extract 0 n).size ≤ 1048576 := by rw [hup, size_mk, List.length_take]; omega
      have HP := Lib.hid (show parseC (okB ss) ss s.data.toList = parseL (okB ss) ss (s.extract 0 n).data.toList by unfold parseC; rw [if_pos h, hsub, hT])
      have heq : ((s.extract n (n + 5)).toList == [32, 62, 61, 32, 48]) = true := by rw [ByteArray.toList_eq, hfr, hd]; rfl
      have PA := Lib.hid (fun W (b : Below w.heap.size w W) => parse (s.extract 0 n) B d ss W (hB.below b) hTs hl hcap hs)
      rw [HP.out]
      clear HP h hd hT hfr hup hsl
      generalize parseL (okB ss) ss (s.extract 0 n).data.toList = PP at *
      unfold LinI.GaveO at PA
      go_enter Tryz.func16, Tryz.ntmps16
      go_wp2_with fail
      refine (Calls.mono (PA.out _ B0.out)) ?_
      rintro e w2 ⟨G, c, rfl, rG, fG, b2⟩
      have L2 := Lib.hid (L0.out.below b2)
      have B2 := Lib.hid (B0.out.trans (b2.mono B0.out.size))
      have l0 := L2.out.cell 0 (.int .i64 0) rfl
      have l1 := L2.out.cell 1 (.slice none 0 0) rfl
      have p0 := L2.out.frozen 0
      have p1 := L2.out.frozen 1
      have GA := Lib.hid (gave_any (P := PP) (c := c) B2.out rG fG (by omega) (Nat.le_refl _))
      clear rG fG b2
      generalize hz : (PP.getD (0, [])).1 = z at *
      generalize hzs : (PP.getD (0, [])).2 = zs at *
      generalize hq : PP.isSome = q at *
      go_wp2
      refine bodyPost_ret (v := .tuple #[.agg #[.int .i64 z, .slice G zs.length c], .bool q]) (by simp [results, Tryz.results16, go_sem, l0, l1]) rfl ?_
      exact GA.out
    · have heq : ((s.extract n (n + 5)).toList == [32, 62, 61, 32, 48]) = false := by
        rw [ByteArray.toList_eq, hfr]
        refine beq_eq_false_iff_ne.2 (fun e => h (suf_of ?_))
        rw [hsub]
        exact e
      have HP := Lib.hid (show parseC (okB ss) ss s.data.toList = none by unfold parseC; exact if_neg h)
      rw [HP.out]
      clear HP h hfr hup hsl
      have l0 := L0.out.cell 0 (.int .i64 0) rfl
      have l1 := L0.out.cell 1 (.slice none 0 0) rfl
      have p0 := L0.out.frozen 0
      have p1 := L0.out.frozen 1
      go_enter Tryz.func16, Tryz.ntmps16
      go_wp2
      refine bodyPost_ret (v := .tuple #[.agg #[.int .i64 0, .slice none 0 0], .bool false]) (by simp [results, Tryz.results16, go_sem, l0, l1]) rfl ?_
      exact LinI.gaveO_none B0.out
end ParseS
end Go.Proofs.YtkeejkpeniinkaaGreatDoor
