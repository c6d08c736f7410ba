import Derived.Test.YtiilopfhlmeaoaaGreatDoorTextImpl
import Derived.Test.YtiilopfhlmeaoaaGreatDoorLinImpl
import Derived.Test.YtiilopfhlmeaoaaGreatDoorSortImpl
import Derived.Test.YtiilopfhlmeaoaaGreatDoorShape
/-
  Which names can be those of the variables of an expression: the program's answer.
-/
namespace Go.Proofs.YtiilopfhlmeaoaaGreatDoor
open Go.RowKit
namespace TextI
open TextM

/-- The names serve. -/
def okB (ss : List ByteArray) : Bool := (LinM.cntB ss.length && NameS.dist ss) && ss.all NameM.validName
theorem okB_small {ss : List ByteArray} (h : okB ss = true) : ∀ s ∈ ss, s.size ≤ 8 := fun s hs => by
  simp only [okB, Bool.and_eq_true, List.all_eq_true] at h
  have := h.2 s hs
  simp only [NameM.validName, Bool.and_eq_true, decide_eq_true_eq] at this
  exact this.1.2
theorem okB_no {ss : List ByteArray} {k : Nat} {s : ByteArray} (hk : ss[k]? = some s) (h : NameM.validName s = false) : okB ss = false := by
  have : ss.all NameM.validName = false := by
    rw [List.all_eq_false]
    exact ⟨s, List.mem_of_getElem? hk, by simp [h]⟩
  simp [okB, this]
theorem okB_yes {ss : List ByteArray} (h1 : LinM.cntB ss.length = true) (h2 : NameS.dist ss = true) (h : ∀ j s, j < ss.length → ss[j]? = some s → NameM.validName s = true) : okB ss = true := by
  have : ss.all NameM.validName = true := List.all_eq_true.2 fun s hs => by
    obtain ⟨j, hj⟩ := List.getElem?_of_mem hs
    exact h j s (List.getElem?_eq_some_iff.1 hj).1 hj
  simp [okB, h1, h2, this]

set_option maxHeartbeats 1000000 in
set_option maxRecDepth 100000 in
/-- impl.areVariables. -/
theorem vars (A : Option Addr) (c : Nat) (ss : List ByteArray) (w : World) (hA : StrK.SRow w A ss) (hl : ss.length ≤ 1000000000) (hs : ∀ s ∈ ss, s.size ≤ 9223372036854775807) :
    Calls Tryz.prog 92 #[.slice A ss.length c] w fun e w' => e = .returned (.bool (okB ss)) ∧ Below w.heap.size w w' := by
  have CN := Lib.hid (LinI.cnt (ss.length : Int))
  have AD := Lib.hid (NameS.implDistinct A c ss w hA (by omega))
  cases h1 : LinM.cntB (ss.length : Int) with
  | false =>
    have HO : Hid (okB ss = false) := Lib.hid (by simp [okB, h1])
    rw [h1] at CN
    clear h1
    go_enter Tryz.func92, Tryz.ntmps92
    go_wp2_with fail
    refine (CN.out _).mono ?_
    rintro e w1 ⟨rfl, rfl⟩
    go_wp2
    go_ret
    exact ⟨NameS.ret_bool HO.out.symm, Below.refl _ _⟩
  | true =>
    cases h2 : NameS.dist ss with
    | false =>
      have HO : Hid (okB ss = false) := Lib.hid (by simp [okB, h2])
      rw [h1] at CN
      rw [h2] at AD
      clear h1 h2
      go_enter Tryz.func92, Tryz.ntmps92
      go_wp2_with fail
      refine (CN.out _).mono ?_
      rintro e w1 ⟨rfl, rfl⟩
      go_wp2_with fail
      refine (Calls.mono AD.out) ?_
      rintro e w1 ⟨rfl, b1⟩
      go_wp2
      go_ret
      exact ⟨NameS.ret_bool HO.out.symm, b1⟩
    | true =>
      have YES := Lib.hid (fun h => okB_yes (ss := ss) h1 h2 h)
      have NO := Lib.hid (fun k s hk h => okB_no (ss := ss) (k := k) (s := s) hk h)
      have HV := Lib.hid (fun s hs W => NameS.implValid s W (by unfold maxLen; exact hs))
      generalize okB ss = V at *
      rw [h1] at CN
      rw [h2] at AD
      have HS := Lib.hid hs
      clear h1 h2 hs
      go_enter Tryz.func92, Tryz.ntmps92
      go_wp2_with fail
      refine (CN.out _).mono ?_
      rintro e w1 ⟨rfl, rfl⟩
      go_wp2_with fail
      refine (Calls.mono AD.out) ?_
      rintro e w1 ⟨rfl, b1⟩
      go_wp2
      go_loopw [16] (fun i wr => ∃ k : Nat, k ≤ ss.length ∧ i = .int .i64 k ∧ (∀ j s, j < k → ss[j]? = some s → NameM.validName s = true) ∧ Below w.heap.size w wr) (fun i _ => ss.length - (intOf i).toNat)
      case atStart => exact ⟨0, Nat.zero_le _, rfl, fun j s hj => absurd hj (Nat.not_lt_zero _), b1⟩
      case round =>
        obtain ⟨k, hk, rfl, hpre, hb⟩ := hrel
        have HP := Lib.hid hpre
        have HB := Lib.hid hb
        clear hpre hb
        by_cases hlt : k < ss.length
        · obtain ⟨b, o, rfl, hbl, hc⟩ := (hA.below HB.out).at_ hlt
          have hg := List.getElem?_eq_getElem hlt
          generalize ss[k] = s at hc hg
          have HG := Lib.hid hg
          have hk0 : (0 : Int) ≤ (k : Int) := by omega
          have hk1 : (k : Int) < (ss.length : Int) := by omega
          have VA := Lib.hid (HV.out s (HS.out s (List.mem_of_getElem? hg)))
          clear hg
          cases hv : NameM.validName s with
          | true =>
            rw [hv] at VA
            have HN := Lib.hid (show ∀ j t, j < k + 1 → ss[j]? = some t → NameM.validName t = true from fun j t hj ht => by
              by_cases e : j = k
              · subst e
                obtain rfl := Option.some.inj (HG.out.symm.trans ht)
                exact hv
              · exact HP.out j t (by omega) ht)
            clear hv
            go_wp2_with fail
            refine (Calls.mono (VA.out _)) ?_
            rintro e w2 ⟨rfl, b2⟩
            have HB2 := Lib.hid (HB.out.trans (b2.mono HB.out.size))
            clear b2
            go_wp2
            go_roundw
            case rel => exact ⟨k + 1, by omega, by go_num, HN.out, HB2.out⟩
            case measure => simp [intOf]; omega
          | false =>
            rw [hv] at VA
            have HN := Lib.hid (NO.out k s HG.out hv)
            clear hv
            go_wp2_with fail
            refine (Calls.mono (VA.out _)) ?_
            rintro e w2 ⟨rfl, b2⟩
            have HB2 := Lib.hid (HB.out.trans (b2.mono HB.out.size))
            clear b2
            go_wp2
            go_ret
            exact ⟨NameS.ret_bool HN.out.symm, HB2.out⟩
        · have HN := Lib.hid (YES.out fun j s hj => HP.out j s (by omega))
          go_wp2
          go_ret
          exact ⟨NameS.ret_bool HN.out.symm, HB.out⟩
end TextI
end Go.Proofs.YtiilopfhlmeaoaaGreatDoor

/-
  impl.FormatLin: it returns the representation, where the names serve and the expression is valid.
-/
namespace Go.Proofs.YtiilopfhlmeaoaaGreatDoor
open Go.RowKit
namespace TextI
open TextM RowK

/-- What is written; nothing where the names don't serve or the expression isn't valid. -/
def F (ok : Bool) (ss : List ByteArray) (z : Int) (zs : List Int) : List UInt8 := if ok = true ∧ LinM.vldB z zs ss.length = true then fmt ss z zs else []
theorem take_terms {ss : List ByteArray} {zs : List Int} {k : Nat} (h1 : k < zs.length) (h2 : k < ss.length) : terms ((zs.zip ss).take (k + 1)) = addU (terms ((zs.zip ss).take k)) (zs[k], ss[k]) := by
  have hz : (zs.zip ss)[k]? = some (zs[k], ss[k]) := by
    rw [List.getElem?_eq_getElem (by rw [List.length_zip]; omega), List.getElem_zip]
  unfold terms
  rw [List.take_add_one, hz, List.foldl_append]
  rfl
theorem take_all {ss : List ByteArray} {zs : List Int} (h : zs.length = ss.length) (z : Int) : terms (mk ss z zs) = addU (terms ((zs.zip ss).take ss.length)) (z, ByteArray.empty) := by
  have e : (zs.zip ss).take ss.length = zs.zip ss := List.take_of_length_le (by rw [List.length_zip]; omega)
  rw [e]
  unfold terms mk
  rw [List.foldl_append]
  rfl
theorem addU_eq (t : List UInt8) (x : Int) (nm : ByteArray) : addU t (x, nm) = t ++ (if x = 0 then [] else sgn (decide (x < 0)) t.isEmpty ++ word x nm) := by
  unfold addU addT
  split
  · simp
  · rfl
theorem inC_abs {x : Int} (h : ArithM.inC x = true) : x.natAbs ≤ 1000000000 := by
  have := ArithM.inC_iff.1 h
  omega
set_option maxHeartbeats 1000000 in
set_option maxRecDepth 100000 in
theorem format (lo hi : Nat) (z : Int) (A B : Option Addr) (c d : Nat) (zs : List Int) (ss : List ByteArray) (w : World) (hA : Row lo hi w A (IntK.iv zs)) (hB : StrK.SRow w B ss) (hl : zs.length ≤ 1000000000) (hl2 : ss.length ≤ 1000000000)
    (hs : ∀ s ∈ ss, s.size ≤ 9223372036854775807) (htab : FmtI.Pow w) :
    Calls Tryz.prog 69 #[.agg #[.int .i64 z, .slice A zs.length c], .slice B ss.length d] w fun e w' => e = .returned (.string ⟨(F (okB ss) ss z zs).toArray⟩) ∧ Below w.heap.size w w' := by
  have s0 : Below w.heap.size w (w.alloc (Obj.cells #[Value.int IntKind.i64 z, Value.slice A zs.length c] 82)) := (Below.refl _ _).alloc (Nat.le_refl _) _
  have B0 := Lib.hid s0
  have L0 := Lib.hid (Lvar.new w #[Value.int IntKind.i64 z, Value.slice A zs.length c] 82)
  have VA := Lib.hid (fun W (h : Below w.heap.size w W) => vars B d ss W (hB.below h) hl2 hs)
  have VL := Lib.hid (fun W (h : Below w.heap.size w W) => LinI.valid lo hi z A c zs ss.length W (hA.below h) hl)
  clear s0
  cases hok : okB ss with
  | false =>
    have HF : Hid (F false ss z zs = []) := Lib.hid (by simp [F])
    rw [hok] at VA
    clear hok
    go_enter Tryz.func69, Tryz.ntmps69
    go_wp2_with fail
    refine (Calls.mono (VA.out _ B0.out)) ?_
    rintro e w1 ⟨rfl, b1⟩
    have B1 := Lib.hid (B0.out.trans (b1.mono B0.out.size))
    clear b1
    go_wp2
    go_ret
    exact ⟨ret_str HF.out.symm, B1.out⟩
  | true =>
    have hs8 := okB_small hok
    rw [hok] at VA
    clear hok
    cases hv : LinM.vldB z zs ss.length with
    | false =>
      have HF : Hid (F true ss z zs = []) := Lib.hid (by simp [F, hv])
      rw [hv] at VL
      clear hv hs8
      go_enter Tryz.func69, Tryz.ntmps69
      go_wp2_with fail
      refine (Calls.mono (VA.out _ B0.out)) ?_
      rintro e w1 ⟨rfl, b1⟩
      have B1 := Lib.hid (B0.out.trans (b1.mono B0.out.size))
      have l0 := (L0.out.below b1).cell 0 (.int .i64 z) rfl
      have l1 := (L0.out.below b1).cell 1 (.slice A zs.length c) rfl
      clear b1
      go_wp2_with fail
      refine (Calls.mono (VL.out _ B1.out)) ?_
      rintro e w2 ⟨rfl, b2⟩
      have B2 := Lib.hid (B1.out.trans (b2.mono B1.out.size))
      clear b2
      go_wp2
      go_ret
      exact ⟨ret_str HF.out.symm, B2.out⟩
    | true =>
      have HV := LinM.vldB_iff.1 hv
      have hlen : zs.length = ss.length := by omega
      have HF : Hid (F true ss z zs = fmt ss z zs) := Lib.hid (by simp [F, hv])
      have hz := inC_abs HV.2.2.1
      have HZ := Lib.hid (fun k (hk : k < zs.length) => inC_abs (LinM.all_get HV.2.2.2 k hk))
      have HN := Lib.hid (fun k (hk : k < ss.length) => hs8 ss[k] (List.getElem_mem hk))
      have HT := Lib.hid (take_all hlen z)
      have HK := Lib.hid (fun k h1 h2 => take_terms (ss := ss) (zs := zs) (k := k) h1 h2)
      have hss8 : ss.length ≤ 8 := by omega
      rw [hv] at VL
      clear hv hs8 HV
      obtain ⟨Tk, hTk⟩ : ∃ Tk : Nat → List UInt8, ∀ k, terms ((zs.zip ss).take k) = Tk k := ⟨_, fun _ => rfl⟩
      simp only [hTk] at HK HT
      have H0 : Hid (Tk 0 = []) := Lib.hid (by rw [← hTk]; rfl)
      have HLN := Lib.hid hlen
      clear hTk hlen
      go_enter Tryz.func69, Tryz.ntmps69
      go_wp2_with fail
      refine (Calls.mono (VA.out _ B0.out)) ?_
      rintro e w1 ⟨rfl, b1⟩
      have B1 := Lib.hid (B0.out.trans (b1.mono B0.out.size))
      have L1 := Lib.hid (L0.out.below b1)
      have l0 := L1.out.cell 0 (.int .i64 z) rfl
      have l1 := L1.out.cell 1 (.slice A zs.length c) rfl
      clear b1 L0
      go_wp2_with fail
      refine (Calls.mono (VL.out _ B1.out)) ?_
      rintro e w2 ⟨rfl, b2⟩
      have B2 := Lib.hid (B1.out.trans (b2.mono B1.out.size))
      have L2 := Lib.hid (L1.out.below b2)
      clear b2 l0 l1 L1
      go_wp2
      go_loopw [5, 20] (fun t i wr => ∃ (k : Nat) (T : List UInt8), k ≤ ss.length ∧ i = .int .i64 k ∧ t = .string ⟨T.toArray⟩ ∧ Tk k = T ∧ T.length ≤ 21 * k ∧ Below w.heap.size w wr ∧ Lvar wr w.heap.size #[.int .i64 z, .slice A zs.length c]) (fun _ i _ => ss.length - (intOf i).toNat)
      case atStart => exact ⟨0, [], Nat.zero_le _, rfl, rfl, H0.out, by simp, B2.out, L2.out⟩
      case round =>
        obtain ⟨k, T, hk, rfl, rfl, hT, hTl, hb, hL⟩ := hrel
        have HTT := Lib.hid hT
        have HB := Lib.hid hb
        have HL := Lib.hid hL
        have l0 := HL.out.cell 0 (.int .i64 z) rfl
        have l1 := HL.out.cell 1 (.slice A zs.length c) rfl
        clear hT hb hL
        by_cases hlt : k < ss.length
        · have hltz : k < zs.length := by rw [HLN.out]; exact hlt
          obtain ⟨bs, os, rfl, hbs, hcs⟩ := (hB.below HB.out).at_ hlt
          obtain ⟨ba, oa, rfl, hba, hca⟩ := IntK.at_below hA HB.out hltz
          have hk0 : (0 : Int) ≤ (k : Int) := by omega
          have hk1 : (k : Int) < (ss.length : Int) := by omega
          have hk2 : (k : Int) < (zs.length : Int) := by rw [HLN.out]; exact hk1
          have HX := HZ.out k hltz
          have HS := HN.out k hlt
          have HKK := Lib.hid (HK.out k hltz hlt)
          generalize zs[k] = x at *
          generalize ss[k] = nm at *
          have TE := Lib.hid (term x nm T.isEmpty HX HS wr (htab.below HB.out))
          have hA2 := addU_len T (x, nm) HX HS
          have HE := Lib.hid (addU_eq T x nm)
          obtain ⟨U, hU⟩ : ∃ U, U = addU T (x, nm) := ⟨_, rfl⟩
          have hadd := fun W => add W T (if x = 0 then [] else sgn (decide (x < 0)) T.isEmpty ++ word x nm) (by
            have := congrArg List.length HE.out
            rw [List.length_append] at this
            omega)
          rw [← HE.out, ← hU] at hadd
          have HU := Lib.hid (show Tk (k + 1) = U by rw [HKK.out, HTT.out, hU])
          have hUl : U.length ≤ 21 * (k + 1) := by rw [hU]; omega
          generalize (if x = 0 then [] else sgn (decide (x < 0)) T.isEmpty ++ word x nm) = Y at *
          clear HX HS hA2 hU HE HKK
          go_wp2_with fail
          refine (Calls.mono TE.out) ?_
          rintro e w3 ⟨rfl, b3⟩
          have HB3 := Lib.hid (HB.out.trans (b3.mono HB.out.size))
          have HL3 := Lib.hid (HL.out.below b3)
          clear b3 l0 l1
          go_wp2
          go_roundw
          case rel => exact ⟨k + 1, U, by omega, by go_num, rfl, HU.out, hUl, HB3.out, HL3.out⟩
          case measure => simp [intOf]; omega
        · obtain rfl : k = ss.length := by omega
          have TE := Lib.hid (term z ⟨#[]⟩ T.isEmpty hz (by decide) wr (htab.below HB.out))
          have hA2 := addU_len T (z, ⟨#[]⟩) hz (show (ByteArray.mk #[]).size ≤ 8 by decide)
          have HE := Lib.hid (addU_eq T z ⟨#[]⟩)
          obtain ⟨U, hU⟩ : ∃ U, U = addU T (z, ⟨#[]⟩) := ⟨_, rfl⟩
          have hadd := fun W => add W T (if z = 0 then [] else sgn (decide (z < 0)) T.isEmpty ++ word z ⟨#[]⟩) (by
            have := congrArg List.length HE.out
            rw [List.length_append] at this
            omega)
          rw [← HE.out, ← hU] at hadd
          have HU : Hid (F true ss z zs = if U = [] then [48] else U) := Lib.hid (by
            rw [HF.out, fmt, HT.out, HTT.out, hU]; rfl)
          generalize (if z = 0 then [] else sgn (decide (z < 0)) T.isEmpty ++ word z ⟨#[]⟩) = Y at *
          have hge : decide ((ss.length : Int) < (ss.length : Int)) = false := decide_eq_false (by omega)
          clear hA2 hU HE hlt HF HT HTT hTl
          have hcs : U = [] ∨ U.isEmpty = false := by cases U <;> simp
          rcases hcs with rfl | hcs
          · have HU2 := Lib.hid (HU.out.trans (if_pos rfl))
            clear HU
            go_wp2_with fail
            refine (Calls.mono TE.out) ?_
            rintro e w3 ⟨rfl, b3⟩
            have HB3 := Lib.hid (HB.out.trans (b3.mono HB.out.size))
            clear b3 l0 l1
            go_wp2
            go_ret
            exact ⟨ret_str HU2.out.symm, HB3.out⟩
          · have HU2 := Lib.hid (HU.out.trans (if_neg (by rintro rfl; cases hcs)))
            clear HU
            go_wp2_with fail
            refine (Calls.mono TE.out) ?_
            rintro e w3 ⟨rfl, b3⟩
            have HB3 := Lib.hid (HB.out.trans (b3.mono HB.out.size))
            clear b3 l0 l1
            go_wp2
            go_ret
            exact ⟨ret_str HU2.out.symm, HB3.out⟩
end TextI
end Go.Proofs.YtiilopfhlmeaoaaGreatDoor
