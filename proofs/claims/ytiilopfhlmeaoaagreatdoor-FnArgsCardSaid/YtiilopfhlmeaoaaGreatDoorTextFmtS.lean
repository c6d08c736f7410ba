import Derived.Test.YtiilopfhlmeaoaaGreatDoorTextSpec
/-
  spec.FormatLin: it returns the representation, where the names serve and the expression is valid.
-/
namespace Go.Proofs.YtiilopfhlmeaoaaGreatDoor
open Go.RowKit
namespace TextS
open TextM TextI RowK

set_option maxHeartbeats 1000000 in
set_option maxRecDepth 100000 in
/-- spec.l5Names. -/
theorem names (A : Option Addr) (c : Nat) (ss : List ByteArray) (w : World) (hA : StrK.SRow w A ss) (hl : ss.length ≤ 1000000000) (hcap : ss.length ≤ c) (hs : ∀ s ∈ ss, s.size ≤ 9223372036854775807) :
    Calls Tryz.prog 74 #[.slice A ss.length c] w fun e w' => e = .returned (.bool (ss.all NameM.validName && NameS.dist ss)) ∧ Below w.heap.size w w' := by
  have AD := Lib.hid (fun W (h : Below w.heap.size w W) => NameS.specDistinct A c ss W (hA.below h) (by omega) hcap)
  have HV := Lib.hid (fun s hs W => NameS.specValid s W (by unfold maxLen; exact hs))
  have YES := Lib.hid (fun (h : ∀ j s, j < ss.length → ss[j]? = some s → NameM.validName s = true) => (show (ss.all NameM.validName && NameS.dist ss) = NameS.dist ss from by
    have : ss.all NameM.validName = true := List.all_eq_true.2 fun s hs => by
      obtain ⟨j, hj⟩ := List.getElem?_of_mem hs
      exact h j s (List.getElem?_eq_some_iff.1 hj).1 hj
    rw [this, Bool.true_and]))
  have NO := Lib.hid (fun (k : Nat) (s : ByteArray) (hk : ss[k]? = some s) (h : NameM.validName s = false) => (show (ss.all NameM.validName && NameS.dist ss) = false from by
    have : ss.all NameM.validName = false := by
      rw [List.all_eq_false]
      exact ⟨s, List.mem_of_getElem? hk, by simp [h]⟩
    rw [this, Bool.false_and]))
  generalize (ss.all NameM.validName && NameS.dist ss) = V at *
  have HS := Lib.hid hs
  clear hs
  go_enter Tryz.func74, Tryz.ntmps74
  go_wp2
  go_loopw [3] (fun i wr => ∃ k : Nat, k ≤ ss.length ∧ i = .int .i64 k ∧ (∀ j s, j < k → ss[j]? = some s → NameM.validName s = true) ∧ Below w.heap.size w wr) (fun i _ => ss.length - (intOf i).toNat)
  case atStart => exact ⟨0, Nat.zero_le _, rfl, fun j s hj => absurd hj (Nat.not_lt_zero _), Below.refl _ _⟩
  case round =>
    obtain ⟨k, hk, rfl, hpre, hb⟩ := hrel
    have HP := Lib.hid hpre
    have HB := Lib.hid hb
    clear hpre hb
    by_cases hlt : k < ss.length
    · obtain ⟨b, o, rfl, hbl, hc⟩ := (hA.below HB.out).at_ hlt
      have hg := List.getElem?_eq_getElem hlt
      generalize ss[k] = s at hc hg
      have HG := Lib.hid hg
      have hk0 : (0 : Int) ≤ (k : Int) := by omega
      have hk1 : (k : Int) < (ss.length : Int) := by omega
      have VA := Lib.hid (HV.out s (HS.out s (List.mem_of_getElem? hg)))
      clear hg
      cases hv : NameM.validName s with
      | true =>
        rw [hv] at VA
        have HN := Lib.hid (show ∀ j t, j < k + 1 → ss[j]? = some t → NameM.validName t = true from fun j t hj ht => by
          by_cases e : j = k
          · subst e
            obtain rfl := Option.some.inj (HG.out.symm.trans ht)
            exact hv
          · exact HP.out j t (by omega) ht)
        clear hv
        go_wp2_with fail
        refine (Calls.mono (VA.out _)) ?_
        rintro e w2 ⟨rfl, b2⟩
        have HB2 := Lib.hid (HB.out.trans (b2.mono HB.out.size))
        clear b2
        go_wp2
        go_roundw
        case rel => exact ⟨k + 1, by omega, by go_num, HN.out, HB2.out⟩
        case measure => simp [intOf]; omega
      | false =>
        rw [hv] at VA
        have HN := Lib.hid (NO.out k s HG.out hv)
        clear hv
        go_wp2_with fail
        refine (Calls.mono (VA.out _)) ?_
        rintro e w2 ⟨rfl, b2⟩
        have HB2 := Lib.hid (HB.out.trans (b2.mono HB.out.size))
        clear b2
        go_wp2
        go_ret
        exact ⟨NameS.ret_bool HN.out.symm, HB2.out⟩
    · have HN := Lib.hid (YES.out fun j s hj => HP.out j s (by omega))
      have AD2 := Lib.hid (AD.out wr HB.out)
      have hge : decide ((k : Int) < (ss.length : Int)) = false := decide_eq_false (by omega)
      clear AD YES NO
      go_wp2_with fail
      refine (Calls.mono AD2.out) ?_
      rintro e w2 ⟨rfl, b2⟩
      have HB2 := Lib.hid (HB.out.trans (b2.mono HB.out.size))
      clear b2
      go_wp2
      go_ret
      exact ⟨NameS.ret_bool HN.out.symm, HB2.out⟩

theorem okB_vld {ss : List ByteArray} {z : Int} {zs : List Int} (h : LinM.vldB z zs ss.length = true) : okB ss = (ss.all NameM.validName && NameS.dist ss) := by
  have hc : LinM.cntB (ss.length : Int) = true := LinM.cntB_iff.2 (LinM.vldB_iff.1 h).1
  unfold okB
  rw [hc, Bool.true_and, Bool.and_comm]

set_option maxHeartbeats 2000000 in
set_option maxRecDepth 100000 in
theorem format (lo hi : Nat) (z : Int) (A B : Option Addr) (c d : Nat) (zs : List Int) (ss : List ByteArray) (w : World) (hA : Row lo hi w A (IntK.iv zs)) (hB : StrK.SRow w B ss) (hl : zs.length ≤ 1000000000) (hl2 : ss.length ≤ 1000000000) (hcap : ss.length ≤ d)
    (hs : ∀ s ∈ ss, s.size ≤ 9223372036854775807) :
    Calls Tryz.prog 48 #[.agg #[.int .i64 z, .slice A zs.length c], .slice B ss.length d] w fun e w' => e = .returned (.string ⟨(F (okB ss) ss z zs).toArray⟩) ∧ Below w.heap.size w w' := by
  have s0 : Below w.heap.size w (w.alloc (Obj.cells #[Value.int IntKind.i64 z, Value.slice A zs.length c] 82)) := (Below.refl _ _).alloc (Nat.le_refl _) _
  have B0 := Lib.hid s0
  have L0 := Lib.hid (Lvar.new w #[Value.int IntKind.i64 z, Value.slice A zs.length c] 82)
  have VA := Lib.hid (fun W (h : Below w.heap.size w W) => names B d ss W (hB.below h) hl2 hcap hs)
  have VL := Lib.hid (fun W (h : Below w.heap.size w W) => LinS.valid lo hi z A c zs ss.length W (hA.below h) hl)
  clear s0
  cases hv : LinM.vldB z zs ss.length with
  | false =>
    have HF : Hid (F (okB ss) ss z zs = []) := Lib.hid (by simp [F, hv])
    rw [hv] at VL
    clear hv
    go_enter Tryz.func48, Tryz.ntmps48
    go_wp2_with fail
    refine (Calls.mono (VL.out _ B0.out)) ?_
    rintro e w1 ⟨rfl, b1⟩
    have B1 := Lib.hid (B0.out.trans (b1.mono B0.out.size))
    clear b1
    go_wp2
    go_ret
    exact ⟨ret_str HF.out.symm, B1.out⟩
  | true =>
    rw [← okB_vld hv] at VA
    cases hok : okB ss with
    | false =>
      have HF : Hid (F false ss z zs = []) := Lib.hid (by simp [F])
      rw [hok] at VA
      rw [hv] at VL
      clear hv hok
      go_enter Tryz.func48, Tryz.ntmps48
      go_wp2_with fail
      refine (Calls.mono (VL.out _ B0.out)) ?_
      rintro e w1 ⟨rfl, b1⟩
      have B1 := Lib.hid (B0.out.trans (b1.mono B0.out.size))
      clear b1
      go_wp2_with fail
      refine (Calls.mono (VA.out _ B1.out)) ?_
      rintro e w2 ⟨rfl, b2⟩
      have B2 := Lib.hid (B1.out.trans (b2.mono B1.out.size))
      clear b2
      go_wp2
      go_ret
      exact ⟨ret_str HF.out.symm, B2.out⟩
    | true =>
      have hs8 := okB_small hok
      have HV := LinM.vldB_iff.1 hv
      have hlen : zs.length = ss.length := by omega
      have HF : Hid (F true ss z zs = fmt ss z zs) := Lib.hid (by simp [F, hv])
      have hz := inC_abs HV.2.2.1
      have HZ := Lib.hid (fun k (hk : k < zs.length) => inC_abs (LinM.all_get HV.2.2.2 k hk))
      have HN := Lib.hid (fun k (hk : k < ss.length) => hs8 ss[k] (List.getElem_mem hk))
      have HT := Lib.hid (take_all hlen z)
      have HK := Lib.hid (fun k h1 h2 => take_terms (ss := ss) (zs := zs) (k := k) h1 h2)
      have hss8 : ss.length ≤ 8 := by omega
      rw [hok] at VA
      rw [hv] at VL
      clear hv hok hs8 HV
      obtain ⟨Tk, hTk⟩ : ∃ Tk : Nat → List UInt8, ∀ k, terms ((zs.zip ss).take k) = Tk k := ⟨_, fun _ => rfl⟩
      simp only [hTk] at HK HT
      have H0 : Hid (Tk 0 = []) := Lib.hid (by rw [← hTk]; rfl)
      have HLN := Lib.hid hlen
      clear hTk hlen
      go_enter Tryz.func48, Tryz.ntmps48
      go_wp2_with fail
      refine (Calls.mono (VL.out _ B0.out)) ?_
      rintro e w1 ⟨rfl, b1⟩
      have B1 := Lib.hid (B0.out.trans (b1.mono B0.out.size))
      have L1 := Lib.hid (L0.out.below b1)
      clear b1 L0
      go_wp2_with fail
      refine (Calls.mono (VA.out _ B1.out)) ?_
      rintro e w2 ⟨rfl, b2⟩
      have B2 := Lib.hid (B1.out.trans (b2.mono B1.out.size))
      have L2 := Lib.hid (L1.out.below b2)
      clear b2 L1
      go_wp2
      go_loopw [5, 6] (fun t i wr => ∃ (k : Nat) (T : List UInt8), k ≤ ss.length ∧ i = .int .i64 k ∧ t = .string ⟨T.toArray⟩ ∧ Tk k = T ∧ T.length ≤ 21 * k ∧ Below w.heap.size w wr ∧ Lvar wr w.heap.size #[.int .i64 z, .slice A zs.length c]) (fun _ i _ => ss.length - (intOf i).toNat)
      case atStart => exact ⟨0, [], Nat.zero_le _, rfl, rfl, H0.out, by simp, B2.out, L2.out⟩
      case round =>
        obtain ⟨k, T, hk, rfl, rfl, hT, hTl, hb, hL⟩ := hrel
        have HTT := Lib.hid hT
        have HB := Lib.hid hb
        have HL := Lib.hid hL
        have l0 := HL.out.cell 0 (.int .i64 z) rfl
        clear hT hb hL
        by_cases hlt : k < ss.length
        · have hltz : k < zs.length := by rw [HLN.out]; exact hlt
          obtain ⟨bs, os, rfl, hbs, hcs⟩ := (hB.below HB.out).at_ hlt
          obtain ⟨ba, oa, rfl, hba, hca⟩ := IntK.at_below hA HB.out hltz
          have l1 := HL.out.cell 1 (.slice (some ⟨ba, oa, none⟩) zs.length c) rfl
          have hk0 : (0 : Int) ≤ (k : Int) := by omega
          have hk1 : (k : Int) < (ss.length : Int) := by omega
          have hk2 : (k : Int) < (zs.length : Int) := by rw [HLN.out]; exact hk1
          have HX := HZ.out k hltz
          have HS := HN.out k hlt
          have HKK := Lib.hid (HK.out k hltz hlt)
          generalize zs[k] = x at *
          generalize ss[k] = nm at *
          by_cases hx0 : x = 0
          · have HU := Lib.hid (show Tk (k + 1) = T by rw [HKK.out, HTT.out, addU, if_pos hx0])
            have hx0' : (x != 0) = false := by simp [hx0]
            clear HX HS HKK hx0
            go_wp2
            go_roundw
            case rel => exact ⟨k + 1, T, by omega, by go_num, rfl, HU.out, by omega, HB.out, HL.out⟩
            case measure => simp [intOf]; omega
          · have hx0' : (x != 0) = true := by simp [hx0]
            have TE := Lib.hid (fun W => term T x nm HX HS (by omega) W)
            have hA2 := addT_len T (x, nm) HX HS
            obtain ⟨U, hU⟩ : ∃ U, U = addT T (x, nm) := ⟨_, rfl⟩
            rw [← hU] at TE hA2
            have HU := Lib.hid (show Tk (k + 1) = U by rw [HKK.out, HTT.out, addU, if_neg hx0, hU])
            have hUl : U.length ≤ 21 * (k + 1) := by omega
            have HC := Lib.hid hcs
            have HCA := Lib.hid hca
            clear HX HS HKK hx0 hA2 hU
            go_wp2_with fail
            go_region_held3 (fun W => W.cell? ⟨w.heap.size, 1, none⟩ = some (.slice (some ⟨ba, oa, none⟩) zs.length c) ∧ W.cell? ⟨ba, oa + k, none⟩ = some (.int .i64 x) ∧ W.cell? ⟨bs, os + k, none⟩ = some (.string nm))
              (go_keep)
              ((go_at_call 75; refine (Calls.mono (TE.out _)) ?_; rintro e w3 ⟨rfl, b3⟩; (have hc1 : w3.cell? ⟨w.heap.size, 1, none⟩ = some (.slice (some ⟨ba, oa, none⟩) zs.length c) := by (rw [b3.cell (by have := HL.out.lt; simpa using this)]; simpa using l1)); (have hc2 : w3.cell? ⟨ba, oa + k, none⟩ = some (.int .i64 x) := by (rw [b3.cell (by have := World.block_lt_of_cell? _ _ hca; simpa using this)]; simpa using hca)); (have hc3 : w3.cell? ⟨bs, os + k, none⟩ = some (.string nm) := by (rw [b3.cell (by have := World.block_lt_of_cell? _ _ hcs; simpa using this)]; simpa using hcs))))
            have d3 : Below wr.heap.size wr w3 := (show Below wr.heap.size wr wr.drew from (Below.refl _ _).drew).trans b3
            have HB3 := Lib.hid (HB.out.trans (d3.mono HB.out.size))
            have HL3 := Lib.hid (HL.out.below d3)
            clear b3 d3 l0 l1 hc1 hc2 hc3 hcs hca
            go_wp2
            go_roundw
            case rel => exact ⟨k + 1, U, by omega, by go_num, rfl, HU.out, hUl, HB3.out, HL3.out⟩
            case measure => simp [intOf]; omega
        · obtain rfl : k = ss.length := by omega
          have hge : decide ((ss.length : Int) < (ss.length : Int)) = false := decide_eq_false (by omega)
          have HFF : Hid (F true ss z zs = if addU T (z, ByteArray.empty) = [] then [48] else addU T (z, ByteArray.empty)) := Lib.hid (by rw [HF.out, fmt, HT.out, HTT.out])
          have hTa : T.length ≤ 100000 := by omega
          have TE := Lib.hid (fun W => term T z ⟨#[]⟩ hz (by decide) hTa W)
          clear HF HT HTT hlt hk
          have hcs : (z = 0 ∧ (z != 0) = false) ∨ (z ≠ 0 ∧ (z != 0) = true) := by
            by_cases h : z = 0 <;> simp [h]
          have hct : T = [] ∨ T.isEmpty = false := by cases T <;> simp
          rcases hcs with ⟨h1, h2⟩ | ⟨h1, h2⟩ <;> rcases hct with rfl | hct
          · have HR : Hid (addT [] (z, ⟨#[]⟩) = F true ss z zs) := Lib.hid (by
              rw [HFF.out, addU, if_pos h1, if_pos rfl, h1]
              have h0 : Lib.itoa 0 = [48] := by rw [Lib.itoa, if_neg (by omega), Lib.decDigits]; rfl
              show [] ++ (sgn (decide ((0 : Int) < 0)) true ++ word 0 ⟨#[]⟩) = [48]
              rw [word, if_neg (by decide), show (((0 : Int).natAbs : Nat) : Int) = 0 from rfl, h0]; rfl)
            clear h1 HFF
            go_wp2_with fail
            refine (Calls.mono (TE.out _)) ?_
            rintro e w3 ⟨rfl, b3⟩
            have HB3 := Lib.hid (HB.out.trans (b3.mono HB.out.size))
            clear b3 l0
            go_wp2
            go_ret
            exact ⟨ret_str HR.out, HB3.out⟩
          · have HR : Hid (T = F true ss z zs) := Lib.hid (by rw [HFF.out, addU, if_pos h1, if_neg (by rintro rfl; cases hct)])
            clear h1 HFF
            go_wp2
            go_ret
            exact ⟨ret_str HR.out, HB.out⟩
          · have HR : Hid (addT [] (z, ⟨#[]⟩) = F true ss z zs) := Lib.hid (by
              rw [HFF.out, addU, if_neg h1]
              exact (if_neg (fun e => word_ne z ByteArray.empty (List.append_eq_nil_iff.1 (List.append_eq_nil_iff.1 e).2).2)).symm)
            clear h1 HFF
            go_wp2_with fail
            refine (Calls.mono (TE.out _)) ?_
            rintro e w3 ⟨rfl, b3⟩
            have HB3 := Lib.hid (HB.out.trans (b3.mono HB.out.size))
            clear b3 l0
            go_wp2
            go_ret
            exact ⟨ret_str HR.out, HB3.out⟩
          · have HR : Hid (addT T (z, ⟨#[]⟩) = F true ss z zs) := Lib.hid (by
              rw [HFF.out, addU, if_neg h1]
              exact (if_neg (fun e => word_ne z ByteArray.empty (List.append_eq_nil_iff.1 (List.append_eq_nil_iff.1 e).2).2)).symm)
            clear h1 HFF
            go_wp2_with fail
            refine (Calls.mono (TE.out _)) ?_
            rintro e w3 ⟨rfl, b3⟩
            have HB3 := Lib.hid (HB.out.trans (b3.mono HB.out.size))
            clear b3 l0
            go_wp2
            go_ret
            exact ⟨ret_str HR.out, HB3.out⟩
end TextS
end Go.Proofs.YtiilopfhlmeaoaaGreatDoor
