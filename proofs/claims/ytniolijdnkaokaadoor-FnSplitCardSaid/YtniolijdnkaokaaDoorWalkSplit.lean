/-
  The walk of the law FnSplit.
-/
import Derived.Test.YtniolijdnkaokaaDoorSplitSpec
import Derived.Test.YtniolijdnkaokaaDoorJoinImpl
import Derived.Test.YtniolijdnkaokaaDoorKit
import Derived.Test.YtniolijdnkaokaaDoorDraw1
namespace Go.Proofs.YtniolijdnkaokaaDoor
open Go.RowKit
namespace LawSplit

theorem bytes_spB (c : UInt8) (s : ByteArray) : StrK.bytesOf (SplitM.spB c s) ≤ s.size := by
  have h := SplitM.bytes_sp c s.data.toList
  have e2 : s.data.toList.length = s.size := by simp
  have e : ((SplitM.spB c s).map ByteArray.size) = (SplitM.sp c s.data.toList).map List.length := by
    unfold SplitM.spB
    rw [List.map_map]
    exact List.map_congr_left fun l _ => by show l.toArray.size = _; simp
  unfold StrK.bytesOf
  rw [e]
  omega
set_option maxHeartbeats 1000000 in
set_option maxRecDepth 100000 in
theorem walk (A : Option Addr) (n c : Nat) (w : World) (hc : Draw.Code w A n) (hv : SplitS.Var w) :
    Calls Tryd.prog 4 #[.slice A n c] w fun e w' => e = .returned (.bool true) ∧ Below w.heap.size w w' := by
  by_cases hn : n ≤ 1048576
  · go_enter Tryd.func4, Tryd.ntmps4
    go_wp2_with fail
    refine (Draw.small A n c hn _).mono ?_
    rintro e w' ⟨rfl, rfl⟩
    go_wp2_with fail
    refine (Draw.drawSplitByte A n c hn _ hc).mono ?_
    rintro e w1 ⟨s, by_, hs, rfl, b1⟩
    go_wp2_with fail
    refine (SplitS.impl s by_ (by omega) _ (hv.below b1)).mono ?_
    rintro e w2 ⟨B, cb, rfl, rb, _, b2, _, hcap⟩
    have hb2 := b1.trans (b2.mono b1.size)
    have hcv := Kit.conv1
    have hba : Below w2.heap.size w2 (w2.alloc (.cells #[.int .u8 (by_.toNat : Int)] 5)) := (Below.refl _ _).alloc (Nat.le_refl _) _
    have hcnt : (SplitM.spB by_ s).length ≤ 6 := by
      have := SplitM.sp_length_le by_ s.data.toList
      simp only [SplitM.spB, List.length_map]
      simp at this
      omega
    have hjoin : JoinS.joined (SplitM.spB by_ s) ⟨#[by_]⟩ = s.data.toList := by
      unfold JoinS.joined
      rw [SplitM.spB_data]
      exact SplitM.join_sp by_ s.data.toList
    have hroom : StrK.bytesOf (SplitM.spB by_ s) + (SplitM.spB by_ s).length * (ByteArray.mk #[by_]).size ≤ 100000000000000 := by
      have e1 : (ByteArray.mk #[by_]).size = 1 := rfl
      rw [e1, Nat.mul_one]
      have h1 := bytes_spB by_ s
      omega
    have J := Lib.hid (JoinS.impl B cb (SplitM.spB by_ s) ⟨#[by_]⟩ _ (rb.below hba) (by omega) hcap hroom)
    rw [hjoin] at J
    clear hjoin hroom
    have es : (ByteArray.mk s.data.toList.toArray) = s := by simp
    rw [es] at J
    clear es
    go_wp2_with fail
    refine (Calls.mono J.out) ?_
    rintro e w3 ⟨rfl, b3⟩
    have hb3 := hb2.trans ((hba.trans (b3.mono hba.size)).mono hb2.size)
    have rb3 := (rb.below hba).below b3
    go_wp2_with fail
    refine (SplitS.spec s by_ (by omega) _).mono ?_
    rintro e w4 ⟨C, cc, rfl, _, _, b4, _, _⟩
    have hb4 := hb3.trans (b4.mono hb3.size)
    have rb4 := rb3.below b4
    have HONE := Lib.hid (SplitM.spB_one by_ s)
    have HSZ := Lib.hid (SplitM.spB_size by_ s)
    generalize SplitM.spB by_ s = ss at *
    go_wp2
    go_loopw [6] (fun i wr => ∃ k : Nat, k ≤ ss.length ∧ i = .int .i64 k ∧ StrK.SRow wr B ss ∧ Below w.heap.size w wr) (fun i _ => ss.length - (intOf i).toNat)
    case atStart => exact ⟨0, Nat.zero_le _, rfl, rb4, hb4⟩
    case round =>
      obtain ⟨k, hk, rfl, hr, hb⟩ := hrel
      by_cases hlt : k < ss.length
      · obtain ⟨b, o, rfl, hbl, hcell⟩ := hr.at_ hlt
        have h1 := HONE.out ss[k] (List.getElem_mem _)
        have h2 := HSZ.out ss[k] (List.getElem_mem _)
        have H1 := Lib.hid h1
        have hvk := hv.below hb
        clear h1
        generalize ss[k] = p at *
        go_wp2_with fail
        refine (SplitS.impl p by_ (by omega) _ hvk).mono ?_
        rintro e w5 ⟨D, cd, rfl, _, _, b5, _, _⟩
        rw [H1.out]
        have hr5 := hr.below b5
        have hb5 := hb.trans (b5.mono hb.size)
        go_wp2
        go_roundw
        case rel => exact ⟨k + 1, by omega, by go_num, hr5, hb5⟩
        case measure => simp [intOf]; omega
      · go_wp2
        go_ret
        exact ⟨rfl, hb⟩
  · go_enter Tryd.func4, Tryd.ntmps4
    go_wp2_with fail
    refine (Draw.great A n c hn _).mono ?_
    rintro e w' ⟨rfl, rfl⟩
    go_wp2
    go_ret
    exact ⟨rfl, Below.refl _ _⟩
end LawSplit
end Go.Proofs.YtniolijdnkaokaaDoor
