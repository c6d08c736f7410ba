import Derived.Test.YtaaceggedjcbpaaPgmFind2
import Derived.Test.YtaaceggedjcbpaaAppend4
/-
  The names that are visible: those of patterns; scopes as closures (the program).
-/
namespace Go.Proofs.Ytaaceggedjcbpaa
open Go.RowKit
namespace ProgI
open RowK Mem

/-- The names of patterns. -/
def nmP1 (p : PatternT) : List ByteArray := if p.2.1 then [p.2.2.1, p.2.2.2] else []
def nmP (ps : List PatternT) : List ByteArray := ps.flatMap nmP1
theorem nmP_snoc (ps : List PatternT) (p : PatternT) : nmP (ps ++ [p]) = nmP ps ++ nmP1 p := by simp [nmP]
theorem nmP_len : ∀ ps : List PatternT, (nmP ps).length ≤ 2 * ps.length
  | [] => by simp [nmP]
  | p :: ps => by
    have h := nmP_len ps
    have h2 : nmP (p :: ps) = nmP1 p ++ nmP ps := by simp [nmP]
    rw [h2, List.length_append, List.length_cons]
    have h3 : (nmP1 p).length ≤ 2 := by unfold nmP1; split <;> simp
    omega
def Names10 (w : World) (v : Value) (done : List ByteArray) (wr : World) : Prop := wr.ownsRow w.heap.size 9 1 v done.length (done.map Value.string) ∧ Below w.heap.size w wr
/-- Strings in new memory. -/
def GaveS (w : World) (ss : List ByteArray) (e : Ending) (w' : World) : Prop := ∃ A c, e = .returned (.slice A ss.length c) ∧ OwnS Rep.str w.heap.size w'.heap.size w' A ss.length c ss ∧ Below w.heap.size w w'
theorem gave_own {w w' : World} {v : Value} {ss : List ByteArray} (h : w'.ownsRow w.heap.size 9 1 v ss.length (ss.map Value.string)) (hb : Below w.heap.size w w') : GaveS w ss (.returned v) w' := by
  obtain ⟨B, d, e, h1, h2, h3, h4⟩ := StrK.of_own h
  have hr := strs_close (q := true) h1 (fun _ => h2) h4
  refine ⟨B, d, by rw [e], ⟨Nat.le_refl _, _, hr, fpS_nodup _ _, fun b hb' => ⟨?_, (Rep.slice Rep.str).lt hr b hb'⟩⟩, hb⟩
  unfold fpS at hb'
  split at hb'
  · cases hb'
  · cases hB : B with
    | none => rw [hB] at hb'; cases hb'
    | some a =>
      rw [hB] at hb'
      simp at hb'
      rw [hb']
      exact h3 a hB

set_option maxHeartbeats 4000000 in
set_option maxRecDepth 100000 in
theorem namesOfP (A : Option Addr) (c : Nat) (ps : List PatternT) (w : World) (hA : ArgS pat w A ps.length c ps) (hl : ps.length ≤ 100000000) :
    Calls Try.prog 82 #[.slice A ps.length c] w (GaveS w (nmP ps)) := by
  obtain ⟨i0, hi, hz0, hz1, hz2⟩ := info_parts strInfoU
  have HA := Lib.hid hA
  clear hA
  go_enter Try.func82, Try.ntmps82
  go_wp2
  go_loopw [3, 8] (fun v i wr => ∃ (k : Nat) (done : List ByteArray), k ≤ ps.length ∧ i = .int .i64 k ∧ Hid (done = nmP (ps.take k)) ∧ Names10 w v done wr) (fun _ i _ => ps.length - (intOf i).toNat)
  case atStart => exact ⟨0, [], Nat.zero_le _, rfl, Lib.hid rfl, World.ownsRow_nil w _ _ _, Below.refl _ _⟩
  case round =>
    obtain ⟨k, done, hk, rfl, hdone, hN⟩ := hrel
    have HD := Lib.hid hdone.out
    have HN := Lib.hid hN
    have hdl : done.length ≤ 200000000 := by
      have h1 := nmP_len (ps.take k)
      rw [HD.out]
      rw [List.length_take] at h1
      omega
    clear hN hdone
    by_cases hlt : k < ps.length
    · obtain ⟨b, o, rfl, hbb, g0, g1, g2, g3⟩ := (HA.out.below HN.out.2).pat_at hlt
      have HST := Lib.hid (show nmP (ps.take (k + 1)) = nmP (ps.take k) ++ nmP1 ps[k] by rw [take_snoc hlt, nmP_snoc])
      generalize ps[k] = x at *
      obtain ⟨z0, z1, z2, z3⟩ := x
      simp only at g0 g1 g2 g3
      have hi0 : (0 : Int) ≤ (k : Int) := by omega
      have hi1 : (k : Int) < (ps.length : Int) := by omega
      have hd : Below wr.heap.size wr (wr.alloc (Obj.cells #[Value.string z0, Value.bool z1, Value.string z2, Value.string z3] 83)) := (Below.refl _ _).alloc (Nat.le_refl _) _
      have HDD := Lib.hid hd
      clear hd
      cases z1 with
      | true =>
        have HF := Lib.hid (show done ++ [z2, z3] = nmP (ps.take (k + 1)) by rw [HST.out, HD.out]; rfl)
        have hown := HN.out.1
        have RN := Lib.hid (show Row 0 ((wr.alloc (Obj.cells #[Value.string z0, Value.bool true, Value.string z2, Value.string z3] 83)).alloc (Obj.cells #[Value.string z2, Value.string z3] 9)).heap.size ((wr.alloc (Obj.cells #[Value.string z0, Value.bool true, Value.string z2, Value.string z3] 83)).alloc (Obj.cells #[Value.string z2, Value.string z3] 9)) (some ⟨wr.heap.size + 1, 0, none⟩) [.string z2, .string z3] from by have h9 := row_new (heap_alloc_new (wr.alloc (Obj.cells #[Value.string z0, Value.bool true, Value.string z2, Value.string z3] 83)) (Obj.cells #[Value.string z2, Value.string z3] 9)); simp only [World.size_alloc] at h9 ⊢; exact h9)
        go_wp2_with (at_builtin; (refine wpList_append_rowW rfl _ _ _ rfl 9 i0 (.string ByteArray.empty) 1 16 w.heap.size Try.underlying27 hi hz0 hz1 hz2 rfl (by decide) _ done.length (done.map Value.string) rfl ((hown.alloc _).alloc _) _ 2 _ [.string z2, .string z3] rfl rfl RN.out (by simp [Value.oneCell']) (by unfold maxLen; omega) (by omega) (by have := HN.out.2.size; simp; omega) ?_); intro v1 w1 hown1 hgrow hwh)
        have BB : Below w.heap.size w w1 := ((HN.out.2.trans (HDD.out.mono HN.out.2.size)).alloc (by have := HN.out.2.size; simp; omega) (Obj.cells #[Value.string z2, Value.string z3] 9)).grown hgrow (by have := HN.out.2.size; simp; omega) (fun g e => (hown.lt g e).1)
        have NN := Lib.hid (show Names10 w v1 (done ++ [z2, z3]) w1 from ⟨by simpa using hown1, BB⟩)
        clear hown1 hgrow hwh hown BB
        go_wp2
        go_roundw
        case rel => exact ⟨k + 1, done ++ [z2, z3], by omega, by go_num, HF, NN.out⟩
        case measure => simp [intOf]; omega
      | false =>
        have HF := Lib.hid (show done = nmP (ps.take (k + 1)) by rw [HST.out, HD.out]; simp [nmP1])
        have NN := Lib.hid (show Names10 w _ done _ from ⟨HN.out.1.alloc _, HN.out.2.trans (HDD.out.mono HN.out.2.size)⟩)
        go_wp2
        go_roundw
        case rel => exact ⟨k + 1, done, by omega, by go_num, HF, NN.out⟩
        case measure => simp [intOf]; omega
    · obtain rfl : k = ps.length := by omega
      have HF := Lib.hid (show done = nmP ps by rw [HD.out, List.take_length])
      have F := Lib.hid (gave_own HN.out.1 HN.out.2)
      rw [HF.out] at F
      go_wp2
      go_ret
      exact F.out
end ProgI
end Go.Proofs.Ytaaceggedjcbpaa
