/- At every code, the names that are drawn from it are sorted, searched and judged as the law FnNames asks: it returns true. There is no condition. -/
import Derived.Test.YtedechmbondpaaaRows
import Derived.Test.YtedechmbondpaaaFrame
import Derived.Test.YtedechmbondpaaaFrameCode
import Derived.Test.YtedechmbondpaaaDraw2
import Derived.Test.YtedechmbondpaaaLawKit2
import Derived.Test.YtedechmbondpaaaShape
import Derived.Test.YtedechmbondpaaaNameOps
import Derived.Test.YtedechmbondpaaaSortImpl
import Derived.SliceStrings
namespace Go.Proofs.Ytedechmbondpaaa
open Go.ChangeShapes Go.WideShapes Go.ChangeAt Go.RowKit
open Go.ChangeMaps (open_string shut_string)
namespace LawNames
/-- What the names' law asks of one text, and of another. -/
theorem valid_resv {s : ByteArray} (h : NameM.validName s = true) : NameM.resv s = false := by
  simp only [NameM.validName, Bool.and_eq_true, Bool.not_eq_true'] at h; exact h.2
theorem list_valid {s : ByteArray} (h : NameM.listName s = true) : NameM.validName s = true := by
  simp only [NameM.listName, Bool.and_eq_true] at h; exact h.1

set_option maxHeartbeats 4000000 in
set_option maxRecDepth 100000 in
theorem walk (A : Option Addr) (n c : Nat) (w : World) (hc : Draw.Code w A n) :
    Calls Try.prog 3 #[.slice A n c] w fun e w' => e = .returned (.bool true) ∧ Below w.heap.size w w' := by
  by_cases hn : n ≤ 1048576
  · go_enter Try.func3, Try.ntmps3
    go_wp2_with fail
    refine (Draw.small A n c hn _).mono ?_
    rintro e w' ⟨rfl, rfl⟩
    go_wp2_with fail
    refine (Draw.drawSortNames A n c hn _ hc).mono ?_
    rintro e w1 ⟨ss, B, d, hl5, hs9, rfl, hB, b1⟩
    have HS9 := Lib.hid hs9
    clear hs9
    go_wp2_with fail
    refine (NameS.implSort B d ss _ hB (by omega)).mono ?_
    rintro e w2 ⟨G, cg, rfl, rg, _, b2, _, hcg⟩
    have hb2 := b1.trans (b2.mono b1.size)
    have hol : (SortM.srtB ss).length ≤ 5 := Nat.le_trans (SortM.srtB_length ss) hl5
    have HA := Lib.hid (NameS.srtB_asc ss)
    have H2 := Lib.hid (NameS.srtB_twice ss)
    have HD := Lib.hid (NameS.dist_srtB ss)
    have HW := Lib.hid (NameS.wo_srtB ss)
    have HM := Lib.hid (fun s => NameS.mem_srtB (ss := ss) (s := s))
    generalize SortM.srtB ss = os at *
    go_wp2_with fail
    refine (NameS.rising G cg os _ rg (by omega) HA.out).mono ?_
    rintro e w3 ⟨rfl, b3⟩
    have hb3 := hb2.trans (b3.mono hb2.size)
    go_wp2_with fail
    refine (NameS.implSort G cg os _ (rg.below b3) (by omega)).mono ?_
    rw [H2.out]
    rintro e w4 ⟨G2, cg2, rfl, rg2, _, b4, _, _⟩
    have hb4 := hb3.trans (b4.mono hb3.size)
    have rg4 := (rg.below b3).below b4
    go_wp2_with fail
    refine (NameS.same_texts G2 G cg2 cg os _ rg2 rg4 (by omega)).mono ?_
    rintro e w5 ⟨rfl, b5⟩
    have hb5 := hb4.trans (b5.mono hb4.size)
    have rg5 := rg4.below b5
    go_wp2_with fail
    refine (NameS.implDistinct G cg os _ rg5 (by omega)).mono ?_
    rw [HD.out]
    rintro e w6 ⟨rfl, b6⟩
    have hb6 := hb5.trans (b6.mono hb5.size)
    have rg6 := rg5.below b6
    have rB6 : StrK.SRow w6 B ss := (((((hB.below b2).below b3).below b4).below b5).below b6)
    have HX := Lib.hid (And.intro rg6 (And.intro rB6 hb6))
    clear b1 b2 b3 b4 b5 b6 hb2 hb3 hb4 hb5 hb6 rg rg2 rg4 rg5 rg6 hB
    go_wp2
    go_loop [5] (fun i => ∃ k : Nat, k ≤ ss.length ∧ i = .int .i64 k) (fun i => ss.length - (intOf i).toNat)
    case atStart => exact ⟨0, Nat.zero_le _, rfl⟩
    case round =>
      obtain ⟨k, hk, rfl⟩ := hrel
      by_cases hlt : k < ss.length
      · have HI := Lib.hid (fun s => NameS.implIndex G cg os s w6 HX.out.1 (by omega))
        obtain ⟨b, o, rfl, hbl, hcell⟩ := rB6.at_ hlt
        have hpos : 0 ≤ Lib.idxOfS os ss[k] := NameS.idx_pos (NameM.hasB_iff.2 ((HM.out _).2 (List.getElem_mem hlt)))
        have HI2 := Lib.hid (HI.out ss[k])
        generalize ss[k] = s at hcell hpos HI2
        generalize Lib.idxOfS os s = ix at hpos HI2
        have hi0 : (0 : Int) ≤ (k : Int) := by omega
        have hi1 : (k : Int) < (ss.length : Int) := by omega
        go_wp2_with fail
        refine (Calls.mono HI2.out) ?_
        rintro e w7 ⟨rfl, rfl⟩
        go_wp2
        go_round
        case rel => exact ⟨k + 1, by omega, by go_num⟩
        case measure => simp [intOf]; omega
      · have hb6 := HX.out.2.2
        have rg6 := HX.out.1
        go_wp2_with fail
        refine (Draw.drawIsValidName A n c hn _ (hc.keep hb6)).mono ?_
        rintro e w7 ⟨s, hs, rfl, b7⟩
        have hb7 := hb6.trans (b7.mono hb6.size)
        have IV := Lib.hid (fun W => NameS.implValid s W (by unfold maxLen; omega))
        have SV := Lib.hid (fun W => NameS.specValid s W (by unfold maxLen; omega))
        have IR := Lib.hid (fun W => NameS.implReserved' s (by unfold maxLen; omega) W)
        have HV := Lib.hid (fun h => valid_resv (s := s) h)
        generalize NameM.validName s = v at *
        generalize NameM.resv s = r at *
        cases v
        all_goals
          go_wp2_with fail
          refine (IV.out _).mono ?_
          rintro e w8 ⟨rfl, b8⟩
          have hb8 := hb7.trans (b8.mono hb7.size)
          go_wp2_with fail
          refine (SV.out _).mono ?_
          rintro e w9 ⟨rfl, b9⟩
          have hb9 := hb8.trans (b9.mono hb8.size)
          go_wp2_with fail
          refine (IV.out _).mono ?_
          rintro e w10 ⟨rfl, b10⟩
          have hb10 := hb9.trans (b10.mono hb9.size)
          have k10 := ((b7.trans (b8.mono b7.size)).trans (b9.mono (Nat.le_trans b7.size b8.size))).trans (b10.mono (Nat.le_trans b7.size (Nat.le_trans b8.size b9.size)))
          go_wp2_with fail
        · refine (Draw.drawIsListName A n c hn _ (hc.keep hb10)).mono ?_
          rintro e w12 ⟨t, ht, rfl, b12⟩
          have hb12 := hb10.trans (b12.mono hb10.size)
          have k12 := k10.trans (b12.mono k10.size)
          have IL := Lib.hid (fun W => NameS.implList t W (by unfold maxLen; omega))
          have SL := Lib.hid (fun W => NameS.specList t W (by unfold maxLen; omega))
          have IW := Lib.hid (fun W => NameS.implValid t W (by unfold maxLen; omega))
          have HV2 := Lib.hid (fun h => list_valid (s := t) h)
          generalize NameM.validName t = v2 at *
          generalize NameM.listName t = l2 at *
          go_wp2_with fail
          refine (NameS.implWithout G B cg d os ss _ (rg6.below k12) (rB6.below k12) (by omega) (by omega)).mono ?_
          rw [HW.out]
          rintro e w13 ⟨O, co, rfl, _, _, b13, _, _⟩
          have hb13 := hb12.trans (b13.mono hb12.size)
          cases l2
          · go_wp2_with fail
            refine (IL.out _).mono ?_
            rintro e w14 ⟨rfl, b14⟩
            have hb14 := hb13.trans (b14.mono hb13.size)
            go_wp2_with fail
            refine (SL.out _).mono ?_
            rintro e w15 ⟨rfl, b15⟩
            have hb15 := hb14.trans (b15.mono hb14.size)
            go_wp2_with fail
            refine (IL.out _).mono ?_
            rintro e w16 ⟨rfl, b16⟩
            have hb16 := hb15.trans (b16.mono hb15.size)
            go_wp2
            go_ret
            exact ⟨rfl, hb16⟩
          · have hv2 := HV2.out (by simp)
            subst hv2
            go_wp2_with fail
            refine (IL.out _).mono ?_
            rintro e w14 ⟨rfl, b14⟩
            have hb14 := hb13.trans (b14.mono hb13.size)
            go_wp2_with fail
            refine (SL.out _).mono ?_
            rintro e w15 ⟨rfl, b15⟩
            have hb15 := hb14.trans (b15.mono hb14.size)
            go_wp2_with fail
            refine (IL.out _).mono ?_
            rintro e w16 ⟨rfl, b16⟩
            have hb16 := hb15.trans (b16.mono hb15.size)
            go_wp2_with fail
            refine (IW.out _).mono ?_
            rintro e w17 ⟨rfl, b17⟩
            have hb17 := hb16.trans (b17.mono hb16.size)
            go_wp2
            go_ret
            exact ⟨rfl, hb17⟩
        · have hr0 := HV.out (by simp)
          subst hr0
          refine (IR.out _).mono ?_
          rintro e w11 ⟨rfl, b11⟩
          have hb11 := hb10.trans (b11.mono hb10.size)
          have k11 := k10.trans (b11.mono k10.size)
          go_wp2_with fail
          refine (Draw.drawIsListName A n c hn _ (hc.keep hb11)).mono ?_
          rintro e w12 ⟨t, ht, rfl, b12⟩
          have hb12 := hb11.trans (b12.mono hb11.size)
          have k12 := k11.trans (b12.mono k11.size)
          have IL := Lib.hid (fun W => NameS.implList t W (by unfold maxLen; omega))
          have SL := Lib.hid (fun W => NameS.specList t W (by unfold maxLen; omega))
          have IW := Lib.hid (fun W => NameS.implValid t W (by unfold maxLen; omega))
          have HV2 := Lib.hid (fun h => list_valid (s := t) h)
          generalize NameM.validName t = v2 at *
          generalize NameM.listName t = l2 at *
          go_wp2_with fail
          refine (NameS.implWithout G B cg d os ss _ (rg6.below k12) (rB6.below k12) (by omega) (by omega)).mono ?_
          rw [HW.out]
          rintro e w13 ⟨O, co, rfl, _, _, b13, _, _⟩
          have hb13 := hb12.trans (b13.mono hb12.size)
          cases l2
          · go_wp2_with fail
            refine (IL.out _).mono ?_
            rintro e w14 ⟨rfl, b14⟩
            have hb14 := hb13.trans (b14.mono hb13.size)
            go_wp2_with fail
            refine (SL.out _).mono ?_
            rintro e w15 ⟨rfl, b15⟩
            have hb15 := hb14.trans (b15.mono hb14.size)
            go_wp2_with fail
            refine (IL.out _).mono ?_
            rintro e w16 ⟨rfl, b16⟩
            have hb16 := hb15.trans (b16.mono hb15.size)
            go_wp2
            go_ret
            exact ⟨rfl, hb16⟩
          · have hv2 := HV2.out (by simp)
            subst hv2
            go_wp2_with fail
            refine (IL.out _).mono ?_
            rintro e w14 ⟨rfl, b14⟩
            have hb14 := hb13.trans (b14.mono hb13.size)
            go_wp2_with fail
            refine (SL.out _).mono ?_
            rintro e w15 ⟨rfl, b15⟩
            have hb15 := hb14.trans (b15.mono hb14.size)
            go_wp2_with fail
            refine (IL.out _).mono ?_
            rintro e w16 ⟨rfl, b16⟩
            have hb16 := hb15.trans (b16.mono hb15.size)
            go_wp2_with fail
            refine (IW.out _).mono ?_
            rintro e w17 ⟨rfl, b17⟩
            have hb17 := hb16.trans (b17.mono hb16.size)
            go_wp2
            go_ret
            exact ⟨rfl, hb17⟩
  · go_enter Try.func3, Try.ntmps3
    go_wp2_with fail
    refine (Draw.great A n c hn _).mono ?_
    rintro e w' ⟨rfl, rfl⟩
    go_wp2
    go_ret
    exact ⟨rfl, Below.refl _ _⟩

set_option maxRecDepth 100000 in
theorem lifted (os : Os) (started : os.Started) (H : Type) (enc : TypeId × Value → H) :
    ReturnsInHanded {} Try.checked os 3 .any (Rows.fnNamesSpec.pre6 enc Try.prog Try.f3 Rows.fnNamesRow.domain false) (Rows.fnNamesSpec.post enc Try.prog Try.f3 false true false false) := by
  refine returnsInHanded_of_change (C := Try.checked) Frame.own started (by kernel_rfl) Try.func3
    (ChangeSpec.witness6 (enc := enc) (C := Try.checked) false ⟨#[], #[.slice none 0 0], []⟩ 8 (by kernel_rfl) (by kernel_rfl) (by kernel_rfl) (by kernel_rfl)) ?_
  intro W base args ds gs before hval0 hW _ _
  have hW' := hW
  have hval : ∀ (j : Nat) t v, Try.f3.params[j]? = some t → args[j]? = some v → Value.okWide Try.prog W .any base t v := hval0
  obtain ⟨p, q, hA0, hV, rfl, hfz, hnd⟩ := hW
  have hA : DataW.TrodAll enc Try.prog W 0 (fun _ => true) true Try.f3.params.toList args.toList ds p := hA0
  rw [Try.params3] at hA hval
  obtain ⟨v0, d0, rfl, rfl, h0⟩ := trodAll_one hA
  have hlt := fun x hx => hW'.lt x hx
  obtain ⟨rfl, rfl⟩ := trodVars_none hV
  obtain ⟨ak, nk, ck, rfl⟩ := okWide_slice Try.underlying22 (hval 0 22 v0 rfl rfl)
  obtain ⟨hk, hlk⟩ := Frame.open_code (W := W) (by kernel_rfl) Try.underlying22 Try.underlying5 h0 (fun x hx => hlt x (by simp [hx]))
  refine (walk ak nk ck W hk).mono fun e W' ⟨he, hb⟩ => ?_
  subst he
  exact ⟨_, rfl, Frame.law_post (tb := 4) Frame.laidOut (by kernel_rfl) (by kernel_rfl) (by kernel_rfl) Try.underlying4 hW' rfl hb⟩

theorem proved : Rows.FnNamesSaid :=
  OpenClaim.holds_of_wide 3 Try.f3 rfl rfl rfl rfl rfl rfl rfl ⟨rfl, rfl, rfl, rfl, rfl⟩ rfl rfl rfl rfl rfl (by kernel_rfl) Try.func3 (by kernel_rfl)
    (of_decide_eq_true (by kernel_rfl)) (by unfold Func.isWrapper; first | (rw [if_pos (by decide +kernel)]; kernel_rfl) | (rw [if_neg (by decide +kernel)]; exact ⟨rfl, rfl⟩))
    (fun os started H enc _ => lifted os started H enc)
end LawNames
end Go.Proofs.Ytedechmbondpaaa
