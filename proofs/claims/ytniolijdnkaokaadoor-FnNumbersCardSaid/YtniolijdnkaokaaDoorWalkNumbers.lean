/-
  The walk of the law FnNumbers.
-/
import Derived.Test.YtniolijdnkaokaaDoorParseImpl
import Derived.Test.YtniolijdnkaokaaDoorReadSpec
import Derived.Test.YtniolijdnkaokaaDoorKit
import Derived.Test.YtniolijdnkaokaaDoorDraw1
namespace Go.Proofs.YtniolijdnkaokaaDoor
open Go.RowKit
namespace LawNumbers

/-- How long a numeral is, and whether the integer is one of those that ParseInt reads. -/
theorem len_in (n : Int) (h0 : -999999999999 ≤ n) (h1 : n ≤ 999999999999) : (Lib.itoa n).length ≤ 12 ∨ n < 0 ∧ (Lib.itoa n).length ≤ 13 := by
  have h := NumM.pow10_lt_of_digits 11 n.natAbs (by omega)
  by_cases hn : n < 0
  · right
    rw [NumM.itoa_neg' hn, List.length_cons, Lib.decDigits_length]
    exact ⟨hn, by omega⟩
  · left
    rw [NumM.itoa_nn hn, Lib.decDigits_length, show n.toNat = n.natAbs by omega]
    exact h
theorem digits_big (u : Nat) (h : 1000000000000 ≤ u) : 13 ≤ Lib.nDigits u := by
  rcases Nat.lt_or_ge (Lib.nDigits u) 13 with hc | hc
  · exfalso
    have h1 := Lib.lt_pow_nDigits u
    have h2 : 10 ^ Lib.nDigits u ≤ 10 ^ 12 := Nat.pow_le_pow_right (by decide) (by omega)
    omega
  · exact hc
theorem len_out (n : Int) (h : n < -999999999999 ∨ 999999999999 < n) : 13 ≤ (Lib.itoa n).length ∧ (n < 0 → 14 ≤ (Lib.itoa n).length) := by
  by_cases hn : n < 0
  · rw [NumM.itoa_neg' hn, List.length_cons, Lib.decDigits_length]
    have := digits_big n.natAbs (by omega)
    exact ⟨by omega, fun _ => by omega⟩
  · rw [NumM.itoa_nn hn, Lib.decDigits_length]
    have := digits_big n.toNat (by omega)
    exact ⟨this, fun h => absurd h hn⟩

/-- The second half: a text is read, and what was read is written again. -/
def Rest (A : Option Addr) (n c : Nat) : Prop := True

set_option maxHeartbeats 2000000 in
set_option maxRecDepth 100000 in
theorem walk (A : Option Addr) (n c : Nat) (w : World) (hc : Draw.Code w A n) (henv : ParseI.Env w) :
    Calls Tryd.prog 3 #[.slice A n c] w fun e w' => e = .returned (.bool true) ∧ Below w.heap.size w w' := by
  by_cases hn : n ≤ 1048576
  · go_enter Tryd.func3, Tryd.ntmps3
    go_wp2_with fail
    refine (Draw.small A n c hn _).mono ?_
    rintro e w' ⟨rfl, rfl⟩
    go_wp2_with fail
    refine (Draw.drawFormatInt A n c hn _ hc).mono ?_
    rintro e w1 ⟨x, hx0, hx1, rfl, b1⟩
    obtain ⟨t, ht⟩ : ∃ t : ByteArray, t = ⟨(Lib.itoa x).toArray⟩ := ⟨_, rfl⟩
    have tdata : t.data.toList = Lib.itoa x := by rw [ht]
    have tsize : t.size = (Lib.itoa x).length := by rw [ht]; exact Kit.size_mk _
    have tlen := Lib.itoa_length_le x hx0 hx1
    have C1 := fun W h => FmtI.any x hx0 hx1 W h
    have C2 := FmtS.any x hx0 hx1
    rw [← ht] at C2
    simp only [← ht] at C1
    have K1 := Lib.hid C1
    have K2 := Lib.hid C2
    clear C1 C2 ht
    have hpi : Hid (NumM.rd (-999999999999) 999999999999 t.data.toList = if -999999999999 ≤ x ∧ x ≤ 999999999999 then some x else none) := by
      show _ = _
      rw [tdata]
      split
      · rename_i h; exact NumM.rd_some.2 ⟨h.1, h.2, rfl⟩
      · rename_i h; exact NumM.rd_none.2 fun m a b e => h (by rw [← NumM.itoa_inj e]; exact ⟨a, b⟩)
    clear tdata
    have ts21 : t.size ≤ 21 := by omega
    go_wp2_with fail
    refine (Calls.mono (K1.out _ (henv.pow.below b1))) ?_
    rintro e w2 ⟨rfl, b2⟩
    have hb2 := b1.trans (b2.mono b1.size)
    go_wp2_with fail
    refine (ParseI.ParseInt_any t (by omega) _ (henv.below hb2)).mono ?_
    rintro e w3 ⟨rfl, b3⟩
    have hb3 := hb2.trans (b3.mono hb2.size)
    have hsplit : (-999999999999 ≤ x ∧ x ≤ 999999999999) ∨ (x < -999999999999 ∨ 999999999999 < x) := by omega
    have FIN : ∃ (r : Option Int) (ok : Bool), NumM.rd (-999999999999) 999999999999 t.data.toList = r ∧ ((r = some x ∧ (t.size ≤ 12 ∨ (x < 0 ∧ t.size ≤ 13))) ∨ (r = none ∧ 13 ≤ t.size ∧ (x < 0 → 14 ≤ t.size))) := by
      rcases hsplit with h | h
      · have := len_in x h.1 h.2
        rw [← tsize] at this
        exact ⟨some x, true, by rw [hpi.out, if_pos h], Or.inl ⟨rfl, this⟩⟩
      · have := len_out x h
        rw [← tsize] at this
        exact ⟨none, true, by rw [hpi.out, if_neg (by omega)], Or.inr ⟨rfl, this⟩⟩
    obtain ⟨r, _, hr, hcase⟩ := FIN
    rw [hr]
    clear hr hpi hsplit tsize tlen
    rcases hcase with ⟨rfl, hlen⟩ | ⟨rfl, h13, h14⟩
    · simp only [Option.getD_some, Option.isSome_some]
      by_cases h12 : t.size ≤ 12
      · clear hlen
        have d12 : decide ((t.size : Int) ≤ 12) = true := by simp; omega
        go_wp2_with fail
        refine (Calls.mono (K2.out _)) ?_
        rintro e w4 ⟨rfl, b4⟩
        have hb4 := hb3.trans (b4.mono hb3.size)
        go_wp2_with fail
        refine (Draw.drawParseNumber A n c hn _ (hc.keep hb4)).mono ?_
        rintro e w5 ⟨u, hu, rfl, b5⟩
        have hb5 := hb4.trans (b5.mono hb4.size)
        clear K1 K2
        go_wp2_with fail
        refine (ParseI.ParseNumber_any u (by omega) _ (henv.below hb5)).mono ?_
        rintro e w6 ⟨rfl, b6⟩
        have hb6 := hb5.trans (b6.mono hb5.size)
        go_wp2_with fail
        refine (ReadS.parseNumber u (by omega) _).mono ?_
        rintro e w7 ⟨rfl, b7⟩
        have hb7 := hb6.trans (b7.mono hb6.size)
        simp only [ReadS.out]
        cases hrd : NumM.rd 0 999999 u.data.toList with
        | none =>
          clear hrd
          simp only [Option.getD_none, Option.isSome_none]
          go_wp2
          go_ret
          exact ⟨rfl, hb7⟩
        | some v =>
          obtain ⟨hv0, hv1, hv2⟩ := NumM.rd_some.1 hrd
          have hue : (Lib.itoa v == u.toList) = true := by rw [hv2, ByteArray.toList_eq]; simp
          clear hrd hv2
          simp only [Option.getD_some, Option.isSome_some]
          go_wp2_with fail
          refine (FmtI.any v (by omega) (by omega) _ (henv.pow.below hb7)).mono ?_
          rintro e w8 ⟨rfl, b8⟩
          go_wp2
          go_ret
          exact ⟨by simp [hv0], hb7.trans (b8.mono hb7.size)⟩
      · have hneg : x < 0 ∧ t.size ≤ 13 := hlen.resolve_left h12
        obtain ⟨hx, ht13⟩ := hneg
        clear hlen
        have e12 : decide ((t.size : Int) ≤ 12) = false := by simp; omega
        have e13 : decide ((t.size : Int) ≤ 13) = true := by simp; omega
        have ex : decide (x < 0) = true := by simpa using hx
        go_wp2_with fail
        refine (Calls.mono (K2.out _)) ?_
        rintro e w4 ⟨rfl, b4⟩
        have hb4 := hb3.trans (b4.mono hb3.size)
        go_wp2_with fail
        refine (Draw.drawParseNumber A n c hn _ (hc.keep hb4)).mono ?_
        rintro e w5 ⟨u, hu, rfl, b5⟩
        have hb5 := hb4.trans (b5.mono hb4.size)
        clear K1 K2
        go_wp2_with fail
        refine (ParseI.ParseNumber_any u (by omega) _ (henv.below hb5)).mono ?_
        rintro e w6 ⟨rfl, b6⟩
        have hb6 := hb5.trans (b6.mono hb5.size)
        go_wp2_with fail
        refine (ReadS.parseNumber u (by omega) _).mono ?_
        rintro e w7 ⟨rfl, b7⟩
        have hb7 := hb6.trans (b7.mono hb6.size)
        simp only [ReadS.out]
        cases hrd : NumM.rd 0 999999 u.data.toList with
        | none =>
          clear hrd
          simp only [Option.getD_none, Option.isSome_none]
          go_wp2
          go_ret
          exact ⟨rfl, hb7⟩
        | some v =>
          obtain ⟨hv0, hv1, hv2⟩ := NumM.rd_some.1 hrd
          have hue : (Lib.itoa v == u.toList) = true := by rw [hv2, ByteArray.toList_eq]; simp
          clear hrd hv2
          simp only [Option.getD_some, Option.isSome_some]
          go_wp2_with fail
          refine (FmtI.any v (by omega) (by omega) _ (henv.pow.below hb7)).mono ?_
          rintro e w8 ⟨rfl, b8⟩
          go_wp2
          go_ret
          exact ⟨by simp [hv0], hb7.trans (b8.mono hb7.size)⟩
    · simp only [Option.getD_none, Option.isSome_none]
      have h12 : ¬ (t.size : Int) ≤ 12 := by omega
      by_cases hx : x < 0
      · have h14' := h14 hx
        clear h14
        go_wp2_with fail
        refine (Calls.mono (K2.out _)) ?_
        rintro e w4 ⟨rfl, b4⟩
        have hb4 := hb3.trans (b4.mono hb3.size)
        go_wp2_with fail
        refine (Draw.drawParseNumber A n c hn _ (hc.keep hb4)).mono ?_
        rintro e w5 ⟨u, hu, rfl, b5⟩
        have hb5 := hb4.trans (b5.mono hb4.size)
        clear K1 K2
        go_wp2_with fail
        refine (ParseI.ParseNumber_any u (by omega) _ (henv.below hb5)).mono ?_
        rintro e w6 ⟨rfl, b6⟩
        have hb6 := hb5.trans (b6.mono hb5.size)
        go_wp2_with fail
        refine (ReadS.parseNumber u (by omega) _).mono ?_
        rintro e w7 ⟨rfl, b7⟩
        have hb7 := hb6.trans (b7.mono hb6.size)
        simp only [ReadS.out]
        cases hrd : NumM.rd 0 999999 u.data.toList with
        | none =>
          clear hrd
          simp only [Option.getD_none, Option.isSome_none]
          go_wp2
          go_ret
          exact ⟨rfl, hb7⟩
        | some v =>
          obtain ⟨hv0, hv1, hv2⟩ := NumM.rd_some.1 hrd
          have hue : (Lib.itoa v == u.toList) = true := by rw [hv2, ByteArray.toList_eq]; simp
          clear hrd hv2
          simp only [Option.getD_some, Option.isSome_some]
          go_wp2_with fail
          refine (FmtI.any v (by omega) (by omega) _ (henv.pow.below hb7)).mono ?_
          rintro e w8 ⟨rfl, b8⟩
          go_wp2
          go_ret
          exact ⟨by simp [hv0], hb7.trans (b8.mono hb7.size)⟩
      · clear h14
        go_wp2_with fail
        refine (Calls.mono (K2.out _)) ?_
        rintro e w4 ⟨rfl, b4⟩
        have hb4 := hb3.trans (b4.mono hb3.size)
        go_wp2_with fail
        refine (Draw.drawParseNumber A n c hn _ (hc.keep hb4)).mono ?_
        rintro e w5 ⟨u, hu, rfl, b5⟩
        have hb5 := hb4.trans (b5.mono hb4.size)
        clear K1 K2
        go_wp2_with fail
        refine (ParseI.ParseNumber_any u (by omega) _ (henv.below hb5)).mono ?_
        rintro e w6 ⟨rfl, b6⟩
        have hb6 := hb5.trans (b6.mono hb5.size)
        go_wp2_with fail
        refine (ReadS.parseNumber u (by omega) _).mono ?_
        rintro e w7 ⟨rfl, b7⟩
        have hb7 := hb6.trans (b7.mono hb6.size)
        simp only [ReadS.out]
        cases hrd : NumM.rd 0 999999 u.data.toList with
        | none =>
          clear hrd
          simp only [Option.getD_none, Option.isSome_none]
          go_wp2
          go_ret
          exact ⟨rfl, hb7⟩
        | some v =>
          obtain ⟨hv0, hv1, hv2⟩ := NumM.rd_some.1 hrd
          have hue : (Lib.itoa v == u.toList) = true := by rw [hv2, ByteArray.toList_eq]; simp
          clear hrd hv2
          simp only [Option.getD_some, Option.isSome_some]
          go_wp2_with fail
          refine (FmtI.any v (by omega) (by omega) _ (henv.pow.below hb7)).mono ?_
          rintro e w8 ⟨rfl, b8⟩
          go_wp2
          go_ret
          exact ⟨by simp [hv0], hb7.trans (b8.mono hb7.size)⟩
  · go_enter Tryd.func3, Tryd.ntmps3
    go_wp2_with fail
    refine (Draw.great A n c hn _).mono ?_
    rintro e w' ⟨rfl, rfl⟩
    go_wp2
    go_ret
    exact ⟨rfl, Below.refl _ _⟩
end LawNumbers
end Go.Proofs.YtniolijdnkaokaaDoor
