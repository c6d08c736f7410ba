/-
  The model's Join.
-/
import Derived.Test.YtniolijdnkaokaaJoinImpl
import Derived.Lib.AppendStr
import Derived.Lib.UnsafeStr
namespace Go.Proofs.Ytniolijdnkaokaa
open Go.RowKit
namespace JoinS

theorem byteInfo : (Try.prog.info? 5).map (fun i => (i.zero, i.size, i.bytes)) = some (some (.int .u8 0), 1, 1) := by kernel_rfl

theorem conv_own {w : World} {base e : Nat} {v : Value} {l : List UInt8} (h : w.ownsRow base e 1 v l.length (Lib.byteCells l)) :
    (convert 28 9 v).run Try.prog w = .ok (.string ⟨l.toArray⟩) w := by
  have hown := h
  rcases h.2 with ⟨rfl, h0⟩ | ⟨g, cap, cur, rfl, _⟩
  · have hl : l = [] := List.eq_nil_of_length_eq_zero h0
    subst hl
    rw [run_convert_bytes_string w 28 9 5 none 0 0 Try.underlying28 Try.underlying5 Try.underlying9]
    rfl
  · refine run_convert_bytes_back w 28 9 5 ⟨g, 0, none⟩ cap l Try.underlying28 Try.underlying5 Try.underlying9 fun j hj => ?_
    refine hown.cells (g := g) rfl j _ ?_
    simp [Lib.byteCells, List.getElem?_eq_getElem hj]

set_option maxHeartbeats 1000000 in
set_option maxRecDepth 100000 in
theorem spec (A : Option Addr) (c : Nat) (ss : List ByteArray) (sep : ByteArray) (w : World) (hA : StrK.SRow w A ss) (hl : ss.length ≤ 1000000000) (hroom : StrK.bytesOf ss + ss.length * sep.size ≤ 100000000000000) :
    Calls Try.prog 5 #[.slice A ss.length c, .string sep] w fun e w' => e = .returned (.string ⟨(joined ss sep).toArray⟩) ∧ Below w.heap.size w w' := by
  obtain ⟨i0, hi, hz0, hz1, hz2⟩ := info_parts byteInfo
  have hmax : ∀ k, (joined (ss.take k) sep).length ≤ 100000000000000 := fun k => Nat.le_trans (joined_take_le ss sep k) hroom
  have HMAX := Lib.hid hmax
  clear hmax hroom
  go_enter Try.func5, Try.ntmps5
  go_wp2
  go_loopw [5, 6] (fun v i wr => ∃ k : Nat, k ≤ ss.length ∧ i = .int .i64 k ∧ wr.ownsRow w.heap.size 5 1 v (joined (ss.take k) sep).length (Lib.byteCells (joined (ss.take k) sep)) ∧ Below w.heap.size w wr) (fun _ i _ => ss.length - (intOf i).toNat)
  case atStart => exact ⟨0, Nat.zero_le _, rfl, ⟨by simp [Lib.byteCells], Or.inr ⟨_, 0, #[], rfl, Nat.le_refl _, heap_alloc_new _ _, by simp [joined_nil], by simp, by simp, by simp [joined_nil, Lib.byteCells]⟩⟩, (Below.refl _ _).alloc (Nat.le_refl _) _⟩
  case round =>
    obtain ⟨k, hk, rfl, hown, hb⟩ := hrel
    have hsz := hb.size
    by_cases hlt : k < ss.length
    · obtain ⟨b, o, rfl, hbl, hc0⟩ := hA.at_ hlt
      have hc : wr.cell? ⟨b, o + k, none⟩ = some (.string ss[k]) := by rw [hb.cell (by exact hbl)]; exact hc0
      clear hc0
      have hstep := Lib.hid (joined_take ss sep k hlt)
      have hm1 := HMAX.out (k + 1)
      by_cases h0 : k = 0
      · subst h0
        have e0 : joined (ss.take 0) sep = [] := rfl
        have hstep1 : Hid (joined (ss.take (0 + 1)) sep = ss[0].data.toList) := by rw [Hid, hstep.out, if_pos rfl]
        have hs0 : ss[0].size ≤ 100000000000000 := by
          rw [hstep1.out] at hm1
          simpa using hm1
        rw [e0] at hown
        clear hm1 hstep e0
        have HS := Lib.hid hstep1.out
        clear hstep1
        rw [Nat.add_zero] at hc
        generalize ss[0] = s at *
        go_wp2_with (at_builtin; refine Lib.wpList_append_own_string _ rfl (.tmp 19) (.tmp 23) 28 9 rfl w.heap.size 5 i0 Try.underlying28 Try.underlying9 hi hz0 hz1 hz2 _ _ _ rfl hown s rfl (by simp; unfold maxLen; omega) (by simp; omega) hsz ?_; intro v1 w1 hown1 hgrow _)
        have hb1 : Below w.heap.size w w1 := hb.grown hgrow hsz (fun j hj => (hown.lt j hj).1)
        have hown2 : w1.ownsRow w.heap.size 5 1 v1 (joined (ss.take (0 + 1)) sep).length (Lib.byteCells (joined (ss.take (0 + 1)) sep)) := by
          rw [HS.out]
          simpa [Lib.strCells_eq, Lib.byteCells] using hown1
        have HO := Lib.hid hown2
        clear hown1 hown2 hown
        go_wp2
        go_roundw
        case rel => exact ⟨0 + 1, by omega, by go_num, HO.out, hb1⟩
        case measure => simp [intOf] <;> omega
      · have hstep1 : Hid (joined (ss.take (k + 1)) sep = joined (ss.take k) sep ++ sep.data.toList ++ ss[k].data.toList) := by rw [Hid, hstep.out, if_neg h0]
        have hlen : (joined (ss.take k) sep).length + sep.size + ss[k].size ≤ 100000000000000 := by
          rw [hstep1.out] at hm1
          simp at hm1
          omega
        have hk0 : 0 < (k : Int) := by omega
        clear hm1 hstep h0
        generalize ss[k] = s at *
        generalize hJ : joined (ss.take k) sep = J at *
        clear hJ
        go_wp2_with (first
          | (at_builtin
             refine Lib.wpList_append_own_string _ rfl (.tmp 16) (.tmp 17) 28 9 rfl w.heap.size 5 i0 Try.underlying28 Try.underlying9 hi hz0 hz1 hz2 _ _ _ rfl hown sep rfl (by unfold maxLen; omega) (by omega) hsz ?_
             intro v1 w1 hown1 hgrow _
             have hb1 : Below w.heap.size w w1 := hb.grown hgrow hsz (fun j hj => (hown.lt j hj).1)
             have hc1 : w1.cell? ⟨b, o + k, none⟩ = some (.string s) := by
               rw [World.cell?_of_block (w := wr) (hgrow.block b (Nat.lt_of_lt_of_le hbl hsz) (fun e => by
                 have h1 := (hown.lt b e.symm).1
                 omega))]
               exact hc
             have hsz1 := hb1.size
             have hown2 : w1.ownsRow w.heap.size 5 1 v1 (J ++ sep.data.toList).length (Lib.byteCells (J ++ sep.data.toList)) := by
               rw [Lib.byteCells_append]
               simpa [Lib.strCells_eq] using hown1
             clear hown1 hown hgrow hc)
          | (at_builtin
             refine Lib.wpList_append_own_string _ rfl (.tmp 19) (.tmp 23) 28 9 rfl w.heap.size 5 i0 Try.underlying28 Try.underlying9 hi hz0 hz1 hz2 _ _ _ rfl hown2 s rfl (by simp; unfold maxLen; omega) (by simp; omega) hsz1 ?_
             intro v2 w2 hown3 hgrow2 _))
        have hb2 : Below w.heap.size w w2 := hb1.grown hgrow2 hsz1 (fun j hj => (hown2.lt j hj).1)
        have hown4 : w2.ownsRow w.heap.size 5 1 v2 (joined (ss.take (k + 1)) sep).length (Lib.byteCells (joined (ss.take (k + 1)) sep)) := by
          rw [hstep1.out, Lib.byteCells_append]
          simpa [Lib.strCells_eq, Nat.add_assoc] using hown3
        have HO := Lib.hid hown4
        clear hown4 hown3 hown2
        go_wp2
        go_roundw
        case rel => exact ⟨k + 1, by omega, by go_num, HO.out, hb2⟩
        case measure => simp [intOf] <;> omega
    · obtain rfl : k = ss.length := by omega
      rw [List.take_length] at hown
      have hcv := conv_own hown
      rcases hown.2 with ⟨rfl, _⟩ | ⟨g, cap, cur, rfl, _⟩
      all_goals
        go_wp2
        go_ret
        exact ⟨rfl, hb⟩
end JoinS
end Go.Proofs.Ytniolijdnkaokaa
