import Derived.Test.YtcdlgebbmcdadaaGreatDoorRepUni
import Derived.Test.YtcdlgebbmcdadaaGreatDoorUFunction
import Derived.Test.YtcdlgebbmcdadaaGreatDoorURule
import Derived.Deep.RegionLaw
import Derived.Deep.RegionHeld3
import Derived.Test.YtcdlgebbmcdadaaGreatDoorArgFmtI
import Derived.Test.YtcdlgebbmcdadaaGreatDoorJoinImpl
import Derived.Test.YtcdlgebbmcdadaaGreatDoorPgmVal3
import Derived.Test.YtcdlgebbmcdadaaGreatDoorArgFmtA
/-
  The text of a rule: as mathematics, and of the program (made by tools/s11f.py).
-/
namespace Go.Proofs.YtcdlgebbmcdadaaGreatDoor
open Go.RowKit
namespace FmtR
open Mem ArgM
abbrev Bt := List UInt8
def bar : Bt := [32, 124, 32]
def patT (x : PatternT) : Bt := x.1.data.toList ++ ([32, 61, 32] ++ (if x.2.1 then x.2.2.1.data.toList ++ ([32, 58, 32] ++ x.2.2.2.data.toList) else [110, 105, 108]))
def guardT (g : SumT) : Bt := FS g ++ [32, 62, 61, 32, 48]
def argsT : List ArgT → Bt
  | [] => []
  | a :: l => [32] ++ (FA a ++ (l.map fun b => [32, 44, 32] ++ FA b).flatten)
def callT (c : CallT) : Bt := c.1.data.toList ++ ([32, 58, 61, 32] ++ (c.2.1.data.toList ++ argsT c.2.2))
def headT (s : ByteArray) : Bt := [114, 117, 108, 101, 32] ++ s.data.toList
def endT (a : ArgT) : Bt := [114, 101, 116, 117, 114, 110, 32] ++ FA a
def barred (l : List Bt) : Bt := (l.map fun b => bar ++ b).flatten
theorem barred_append (a b : List Bt) : barred (a ++ b) = barred a ++ barred b := by simp [barred]
def ruleT (r : RuleT) : Bt := headT r.1 ++ (barred (r.2.1.map patT) ++ (barred (r.2.2.1.map guardT) ++ (barred (r.2.2.2.1.map callT) ++ (bar ++ endT r.2.2.2.2))))
end FmtR
namespace FmtI
open RowK Mem FmtR
set_option maxHeartbeats 4000000 in
set_option maxRecDepth 100000 in
theorem pattern (z0 : ByteArray) (z1 : Bool) (z2 z3 : ByteArray) (w : World) (h : szPatternU (z0, z1, z2, z3) ≤ 100000000) :
    Calls Tryz.prog 19 #[.agg #[.string z0, .bool z1, .string z2, .string z3]] w fun e w' => e = .returned (.string ⟨(patT (z0, z1, z2, z3)).toArray⟩) ∧ Below w.heap.size w w' := by
  simp only [szPatternU] at h
  have B0 := Lib.hid ((Below.refl w.heap.size w).alloc (Nat.le_refl _) (Obj.cells #[Value.string z0, Value.bool z1, Value.string z2, Value.string z3] 46))
  have h0 : z0.size ≤ 100000000 := by omega
  have h2 : z2.size ≤ 100000000 := by omega
  have h3 : z3.size ≤ 100000000 := by omega
  have n1 : decide (9223372036854775807 < z0.size + 3) = false := decide_eq_false (by omega)
  have n2 : decide (9223372036854775807 < z0.size + 3 + 3) = false := decide_eq_false (by omega)
  have n3 : decide (9223372036854775807 < z0.size + 3 + z2.size) = false := decide_eq_false (by omega)
  have n4 : decide (9223372036854775807 < z0.size + 3 + z2.size + 3) = false := decide_eq_false (by omega)
  have n5 : decide (9223372036854775807 < z0.size + 3 + z2.size + 3 + z3.size) = false := decide_eq_false (by omega)
  cases z1
  all_goals
    go_enter Tryz.func19, Tryz.ntmps19
    go_wp2
    go_ret
    exact ⟨TextS.ret_bytes (by simp [patT, ByteArray.data_append]), B0.out⟩
end FmtI
end Go.Proofs.YtcdlgebbmcdadaaGreatDoor

/-
  The text of a call, of the program (made by tools/s11f.py).
-/
namespace Go.Proofs.YtcdlgebbmcdadaaGreatDoor
open Go.RowKit
namespace FmtR
open Mem ArgM
theorem joined_cons (sep s0 : ByteArray) : ∀ (n : Nat) (l : List ByteArray), l.length = n → JoinS.joined (s0 :: l) sep = s0.data.toList ++ (l.map fun b => sep.data.toList ++ b.data.toList).flatten
  | 0, l, h => by
    obtain rfl := List.length_eq_zero_iff.1 h
    have := JoinS.joined_snoc [] s0 sep
    simpa using this
  | n + 1, l, h => by
    obtain h0 | ⟨L, b, hLb⟩ := List.eq_nil_or_concat l
    · rw [h0] at h; cases h
    · rw [List.concat_eq_append] at hLb
      subst hLb
      have hl : L.length = n := by simpa using h
      have ih := joined_cons sep s0 n L hl
      have e := JoinS.joined_snoc (s0 :: L) b sep
      rw [if_neg (by simp)] at e
      rw [show s0 :: (L ++ [b]) = (s0 :: L) ++ [b] from rfl, e, ih]
      simp
theorem bytes_le {ss : List ByteArray} {m : Nat} (h : ∀ s ∈ ss, s.size ≤ m) : StrK.bytesOf ss ≤ m * ss.length := by
  induction ss with
  | nil => simp [StrK.bytesOf]
  | cons a l ih =>
    have h1 := h a (by simp)
    have h2 := ih (fun s hs => h s (by simp [hs]))
    unfold StrK.bytesOf at h2 ⊢
    rw [List.map_cons, List.sum_cons, List.length_cons, Nat.mul_succ]
    omega
theorem fmtS_le (s : SumT) : (FS s).length ≤ 190 := by
  unfold FS
  split
  · rename_i h; exact ArgP.fmtS_len h
  · simp
theorem FA_le (a : ArgT) : (FA a).length ≤ 800 := by
  unfold FA
  split
  · rename_i h
    obtain ⟨p, hs, b⟩ := a
    have h0 := h
    simp only [argV, Bool.and_eq_true, List.all_eq_true] at h
    cases p with
    | false =>
      obtain ⟨k, rfl, hk, _⟩ := argV_int.1 h0
      have := ArgP.fmtS_len hk
      show (fmtS k).length ≤ 800
      omega
    | true =>
      obtain ⟨a1, a2, a3⟩ := argV_list.1 h0
      have h1 := ArgP.headsT_len a1
      show (headsT hs ++ baseT b).length ≤ 800
      rw [List.length_append]
      have h2 : (baseT b).length ≤ 8 := by
        unfold baseT
        split
        · simp
        · rename_i hb
          simp only [baseV, Bool.or_eq_true, decide_eq_true_eq] at a3
          rcases a3 with h9 | h9
          · exact absurd h9 hb
          · have := (valid_shape (list_valid h9)).2
            rw [TextM.size_list]; exact this
      omega
  · simp
def ba (l : Bt) : ByteArray := ⟨l.toArray⟩
theorem ba_size (l : Bt) : (ba l).size = l.length := by simp [ba, ByteArray.size]
theorem ba_data (l : Bt) : (ba l).data.toList = l := by simp [ba]
theorem argsT_joined {l : List ArgT} (h : l ≠ []) : [32] ++ JoinS.joined (l.map fun a => ba (FA a)) ⟨#[32, 44, 32]⟩ = argsT l := by
  cases l with
  | nil => exact absurd rfl h
  | cons a l =>
    rw [List.map_cons, joined_cons _ _ _ _ rfl, List.map_map]
    simp [argsT, Function.comp_def, ba]
end FmtR
namespace FmtI
open RowK Mem
theorem own_one {w : World} {g base : Nat} {e : TypeId} {v : Value} (h : w.heap[g]? = some (.cells #[v] e (0, 0))) (hb : base ≤ g) : w.ownsRow base e 1 (.slice (some ⟨g, 0, none⟩) 1 1) 1 [v] :=
  ⟨by simp, Or.inr ⟨g, 1, #[v], rfl, hb, h, Nat.le_refl _, by unfold maxLen; omega, by simp, by simp⟩⟩
end FmtI
namespace FmtI
open RowK Mem FmtR ProgI ArgM
set_option maxHeartbeats 8000000 in
set_option maxRecDepth 100000 in
theorem call (z0 z1 : ByteArray) (A2 : Option Addr) (c2 : Nat) (x2 : List ArgT) (w : World) (h2 : ArgS Mem.arg w A2 x2.length c2 x2) (hl : szCallU (z0, z1, x2) ≤ 10000000) (htab : FmtI.Pow w) :
    Calls Tryz.prog 21 #[.agg #[.string z0, .string z1, .slice A2 x2.length c2]] w fun e w' => e = .returned (.string (ba (callT (z0, z1, x2)))) ∧ Below w.heap.size w w' := by
  obtain ⟨i0, hi, hz0, hz1, hz2⟩ := info_parts strInfoU
  simp only [szCallU] at hl
  obtain ⟨w1, hw1⟩ : ∃ u, u = w.alloc (Obj.cells #[Value.string z0, Value.string z1, Value.slice A2 x2.length c2] 53) := ⟨_, rfl⟩
  have B0 := Lib.hid (show Below w.heap.size w w1 by rw [hw1]; exact (Below.refl _ _).alloc (Nat.le_refl _) _)
  have B0' := Lib.hid (show Below w.heap.size w (w.alloc (Obj.cells #[Value.string z0, Value.string z1, Value.slice A2 x2.length c2] 53)) from (Below.refl _ _).alloc (Nat.le_refl _) _)
  have H2 := Lib.hid h2
  have HL := Lib.hid hl
  have HTB := Lib.hid htab
  have h0 : z0.size ≤ 10000000 := by omega
  have h1 : z1.size ≤ 10000000 := by omega
  have hx2 : x2.length ≤ 10000000 := by omega
  have n1 : decide (9223372036854775807 < z0.size + 4) = false := decide_eq_false (by omega)
  have n2 : decide (9223372036854775807 < z0.size + 4 + z1.size) = false := decide_eq_false (by omega)
  have n3 : decide (9223372036854775807 < z0.size + 4 + z1.size + 1) = false := decide_eq_false (by omega)
  obtain ⟨R, hR⟩ : ∃ R, R = ba (callT (z0, z1, x2)) := ⟨_, rfl⟩
  rw [← hR]
  have HRR := Lib.hid (show R.data.toList = z0.data.toList ++ ([32, 58, 61, 32] ++ (z1.data.toList ++ argsT x2)) by rw [hR, ba_data]; rfl)
  clear h2 hl hR htab
  by_cases hn : x2 = []
  · subst hn
    go_enter Tryz.func21, Tryz.ntmps21
    go_wp2
    go_ret
    exact ⟨congrArg (fun s => Ending.returned (Value.string s)) (NameM.toList_inj (by rw [HRR.out]; simp [argsT, ByteArray.data_append])), B0'.out⟩
  · have hnl : ((x2.length : Int) == 0) = false := beq_eq_false_iff_ne.2 (by have := List.length_pos_iff.2 hn; omega)
    have HNE := Lib.hid hn
    clear hn
    go_enter Tryz.func21, Tryz.ntmps21
    go_wp2
    go_loopw [4, 21] (fun v i wr => ∃ (k : Nat) (done : List ByteArray), k ≤ x2.length ∧ i = .int .i64 k ∧ Hid (done = (x2.take k).map fun a => ba (FA a)) ∧ Names10 w1 v done wr) (fun _ i _ => x2.length - (intOf i).toNat)
    case atStart => exact ⟨0, [], Nat.zero_le _, rfl, Lib.hid rfl, World.ownsRow_nil _ _ _ _, by rw [hw1]; exact Below.refl _ _⟩
    case round =>
      clear hw1
      obtain ⟨k, done, hk, rfl, hdone, hN⟩ := hrel
      have HD := Lib.hid hdone.out
      have HN := Lib.hid hN
      have hdl : done.length ≤ 10000000 := by rw [HD.out, List.length_map, List.length_take]; omega
      clear hN hdone
      have BW := Lib.hid (below_step B0.out HN.out.2)
      by_cases hlt : k < x2.length
      · obtain ⟨b, o, X1, e1, rfl, hbb, g0, g1, g2, r1⟩ := (H2.out.below BW.out).arg_at hlt
        have hsz : szArgU x2[k] ≤ 10000000 := by
          have := HL.out
          have := szs_mem (sz := szArgU) (List.getElem_mem hlt)
          omega
        have HST := Lib.hid (show ((x2.take (k + 1)).map fun a => ba (FA a)) = ((x2.take k).map fun a => ba (FA a)) ++ [ba (FA x2[k])] by rw [take_snoc hlt, List.map_append]; rfl)
        generalize x2[k] = x at *
        obtain ⟨q0, q1, q2⟩ := x
        simp only at g0 g1 g2 r1
        have hi0 : (0 : Int) ≤ (k : Int) := by omega
        have hi1 : (k : Int) < (x2.length : Int) := by omega
        have hd : Below wr.heap.size wr (wr.alloc (Obj.cells #[Value.bool q0, Value.slice X1 q1.length e1, Value.string q2] 35)) := (Below.refl _ _).alloc (Nat.le_refl _) _
        have FO := Lib.hid (show Calls Tryz.prog 23 #[.agg #[.bool q0, .slice X1 q1.length e1, .string q2]] (wr.alloc (Obj.cells #[Value.bool q0, Value.slice X1 q1.length e1, Value.string q2] 35)) (fun e w' => e = .returned (.string (ba (FA (q0, q1, q2)))) ∧ Below (wr.alloc (Obj.cells #[Value.bool q0, Value.slice X1 q1.length e1, Value.string q2] 35)).heap.size (wr.alloc (Obj.cells #[Value.bool q0, Value.slice X1 q1.length e1, Value.string q2] 35)) w') from
          ArgI.formatArg q0 q2 X1 e1 q1 _ (r1.below hd) (by simp only [szArgU] at hsz; have := ssl_small (n := 10000000) (xs := q1) (by omega); omega) (sums_small (z0 := q0) (z2 := q2) hsz) (by simp only [szArgU] at hsz; omega) (HTB.out.below (below_step BW.out hd)))
        have HDD := Lib.hid hd
        have HF := Lib.hid (show done ++ [ba (FA (q0, q1, q2))] = (x2.take (k + 1)).map fun a => ba (FA a) by rw [HST.out, HD.out])
        clear r1 hsz hd
        generalize ba (FA (q0, q1, q2)) = y0 at *
        go_wp2_with fail
        refine (Calls.mono FO.out) ?_
        rintro e w3 ⟨rfl, b3⟩
        have D3 := Lib.hid (below_step HDD.out b3)
        have hown := own_below HN.out.1 D3.out
        have hs3 := D3.out.size
        have RN := Lib.hid (show Row 0 (w3.alloc (Obj.cells #[Value.string y0] 9)).heap.size (w3.alloc (Obj.cells #[Value.string y0] 9)) (some ⟨w3.heap.size, 0, none⟩) [.string y0] from by have h9 := row_new (heap_alloc_new w3 (Obj.cells #[Value.string y0] 9)); simpa using h9)
        clear b3
        go_wp2_with (at_builtin; (refine wpList_append_rowW rfl _ _ _ rfl 9 i0 (.string ByteArray.empty) 1 16 w1.heap.size Tryz.underlying59 hi hz0 hz1 hz2 rfl (by decide) _ done.length (done.map Value.string) rfl (hown.alloc _) _ 1 _ [.string y0] rfl rfl RN.out (by simp [Value.oneCell']) (by unfold maxLen; omega) (by omega) (by have := HN.out.2.size; simp; omega) ?_); intro v5 w5 hown5 hgrow hwh)
        have BB : Below w1.heap.size w1 w5 := ((HN.out.2.trans (D3.out.mono HN.out.2.size)).alloc (by have := HN.out.2.size; omega) (Obj.cells #[Value.string y0] 9)).grown hgrow (by have := HN.out.2.size; simp; omega) (fun g e => (hown.lt g e).1)
        have NN := Lib.hid (show Names10 w1 v5 (done ++ [y0]) w5 from ⟨by simpa using hown5, BB⟩)
        clear hown5 hgrow hwh hown BB
        go_wp2
        go_roundw
        case rel => exact ⟨k + 1, done ++ [y0], by omega, by go_num, HF, NN.out⟩
        case measure => simp [intOf]; omega
      · obtain rfl : k = x2.length := by omega
        have hdd : done = x2.map fun a => ba (FA a) := by rw [HD.out, List.take_length]
        have HJ := Lib.hid (show [32] ++ JoinS.joined done ⟨#[32, 44, 32]⟩ = argsT x2 by rw [hdd]; exact argsT_joined HNE.out)
        have hby := bytes_le (ss := done) (m := 800) (fun s hs => by
          rw [hdd] at hs
          obtain ⟨a, _, rfl⟩ := List.mem_map.1 hs
          rw [ba_size]; exact FA_le a)
        obtain ⟨N, cn, hv, oN, _⟩ := gave_own HN.out.1 HN.out.2
        injection hv with hv
        subst hv
        have hjl := JoinS.joined_length done ⟨#[32, 44, 32]⟩
        have h3s : (⟨#[32, 44, 32]⟩ : ByteArray).size = 3 := rfl
        rw [h3s] at hjl
        have JO := Lib.hid (JoinS.impl N cn done ⟨#[32, 44, 32]⟩ wr (own_SR oN).1 (by omega) (ArgS.cap oN.arg).2 (by rw [h3s]; omega))
        have hjb : (JoinS.joined done ⟨#[32, 44, 32]⟩).length ≤ 100000000000 := by omega
        clear hdd oN hby hjl h3s
        generalize JoinS.joined done ⟨#[32, 44, 32]⟩ = J at *
        have n4 : decide (9223372036854775807 < z0.size + 4 + z1.size + 1 + J.length) = false := decide_eq_false (by omega)
        go_wp2_with fail
        refine (Calls.mono JO.out) ?_
        rintro e w3 ⟨rfl, b3⟩
        have B3 := Lib.hid (below_step BW.out b3)
        clear b3
        go_wp2
        go_ret
        exact ⟨congrArg (fun s => Ending.returned (Value.string s)) (NameM.toList_inj (by rw [HRR.out, ← HJ.out]; simp [ByteArray.data_append])), B3.out⟩
end FmtI
end Go.Proofs.YtcdlgebbmcdadaaGreatDoor

/-
  The text of a rule, of the program (made by tools/s11f.py).
-/
namespace Go.Proofs.YtcdlgebbmcdadaaGreatDoor
open Go.RowKit
namespace FmtR
open Mem ArgM
theorem szB {α : Type} {f : α → ByteArray} {sz : α → Nat} (h : ∀ x, (f x).size ≤ 1000 * (1 + sz x)) : ∀ l : List α, StrK.bytesOf (l.map f) ≤ 1000 * (l.length + szs sz l)
  | [] => by simp [StrK.bytesOf]
  | a :: l => by
    have h1 := h a
    have h2 := szB h l
    have e : szs sz (a :: l) = sz a + szs sz l := by simp [szs]
    unfold StrK.bytesOf at h2 ⊢
    rw [List.map_cons, List.map_cons, List.sum_cons, List.length_cons, e]
    omega
theorem flat_le : ∀ l : List ArgT, ((l.map fun b => [32, 44, 32] ++ FA b).flatten).length ≤ 803 * l.length
  | [] => by simp
  | a :: l => by
    have h1 := flat_le l
    have h2 := FA_le a
    simp only [List.map_cons, List.flatten_cons, List.length_append, List.length_cons, List.length_nil]
    omega
theorem argsT_le (l : List ArgT) : (argsT l).length ≤ 803 * l.length := by
  cases l with
  | nil => simp [argsT]
  | cons a l =>
    have h1 := flat_le l
    have h2 := FA_le a
    show ([32] ++ (FA a ++ (l.map fun b => [32, 44, 32] ++ FA b).flatten)).length ≤ _
    simp only [List.length_append, List.length_cons, List.length_nil]
    omega
theorem data_len (s : ByteArray) : s.data.toList.length = s.size := by rw [TextM.size_list]
theorem pat_le (x : PatternT) : (ba (patT x)).size ≤ 1000 * (1 + szPatternU x) := by
  rw [ba_size]
  unfold patT szPatternU
  split <;> simp only [List.length_append, data_len, List.length_cons, List.length_nil] <;> omega
theorem guard_le (x : SumT) : (ba (guardT x)).size ≤ 1000 * (1 + szSum x) := by
  rw [ba_size]
  have := fmtS_le x
  unfold guardT
  simp only [List.length_append, List.length_cons, List.length_nil]
  omega
theorem call_le (x : CallT) : (ba (callT x)).size ≤ 1000 * (1 + szCallU x) := by
  rw [ba_size]
  have := argsT_le x.2.2
  unfold callT szCallU
  simp only [List.length_append, data_len, List.length_cons, List.length_nil]
  omega
theorem ruleT_joined (r : RuleT) (H E : ByteArray) (hH : H.data.toList = headT r.1) (hE : E.data.toList = endT r.2.2.2.2) :
    JoinS.joined ((H :: (r.2.1.map (fun x => ba (patT x)) ++ (r.2.2.1.map (fun x => ba (guardT x)) ++ r.2.2.2.1.map fun x => ba (callT x)))) ++ [E]) ⟨#[32, 124, 32]⟩ = ruleT r := by
  rw [List.cons_append, joined_cons _ _ _ _ rfl, hH]
  unfold ruleT barred
  simp [hE, ba_data, bar, Function.comp_def]
end FmtR
namespace FmtI
open RowK Mem FmtR ProgI ArgM
set_option maxHeartbeats 8000000 in
set_option maxRecDepth 100000 in
theorem rule (z0 : ByteArray) (A1 : Option Addr) (c1 : Nat) (x1 : List PatternT) (A2 : Option Addr) (c2 : Nat) (x2 : List SumT) (A3 : Option Addr) (c3 : Nat) (x3 : List CallT) (z4 : Bool) (A5 : Option Addr) (c5 : Nat) (x5 : List SumT) (z6 : ByteArray) (w : World)
    (h1 : ArgS Mem.pat w A1 x1.length c1 x1) (h2 : ArgS Mem.sum w A2 x2.length c2 x2) (h3 : ArgS Mem.call w A3 x3.length c3 x3) (h5 : ArgS Mem.sum w A5 x5.length c5 x5) (hr : szRuleU (z0, x1, x2, x3, z4, x5, z6) ≤ 10000000) (htab : FmtI.Pow w) :
    Calls Tryz.prog 7 #[.agg #[.string z0, .slice A1 x1.length c1, .slice A2 x2.length c2, .slice A3 x3.length c3, .bool z4, .slice A5 x5.length c5, .string z6]] w fun e w' => e = .returned (.string (ba (ruleT (z0, x1, x2, x3, z4, x5, z6)))) ∧ Below w.heap.size w w' := by
  obtain ⟨i0, hi, hz0, hz1, hz2⟩ := info_parts strInfoU
  simp only [szRuleU] at hr
  have HRS := Lib.hid hr
  obtain ⟨w1, hw1⟩ : ∃ u, u = w.alloc (Obj.cells #[Value.string z0, Value.slice A1 x1.length c1, Value.slice A2 x2.length c2, Value.slice A3 x3.length c3, Value.bool z4, Value.slice A5 x5.length c5, Value.string z6] 37) := ⟨_, rfl⟩
  have B0 := Lib.hid (show Below w.heap.size w w1 by rw [hw1]; exact (Below.refl _ _).alloc (Nat.le_refl _) _)
  have V0 := Lib.hid (show Lvar w1 w.heap.size #[Value.string z0, Value.slice A1 x1.length c1, Value.slice A2 x2.length c2, Value.slice A3 x3.length c3, Value.bool z4, Value.slice A5 x5.length c5, Value.string z6] by rw [hw1]; exact Lvar.new w _ _)
  have hws : w1.heap.size = w.heap.size + 1 := by rw [hw1]; simp
  obtain ⟨H, hH⟩ : ∃ H : ByteArray, H = ⟨#[114, 117, 108, 101, 32]⟩ ++ z0 := ⟨_, rfl⟩
  have HH := Lib.hid (show H.data.toList = headT z0 by rw [hH]; simp [headT, ByteArray.data_append])
  have hHs : H.size ≤ 20000000 := by
    rw [hH, ByteArray.size_append]
    have : (⟨#[114, 117, 108, 101, 32]⟩ : ByteArray).size = 5 := rfl
    omega
  have N0 := Lib.hid (show Names10 w1 (.slice (some ⟨w.heap.size + 1, 0, none⟩) 1 1) [H] (w1.alloc (Obj.cells #[Value.string H] 9)) from ⟨by
    have h9 := own_one (heap_alloc_new w1 (Obj.cells #[Value.string H] 9)) (Nat.le_refl _)
    rw [hws] at h9
    rw [hws]
    exact h9, (Below.refl _ _).alloc (Nat.le_refl _) _⟩)
  have H1 := Lib.hid h1
  have H2 := Lib.hid h2
  have H3 := Lib.hid h3
  have H5 := Lib.hid h5
  have HTB := Lib.hid htab
  have hxl : x1.length ≤ 10000000 ∧ x2.length ≤ 10000000 ∧ x3.length ≤ 10000000 := by omega
  have n0 : decide (9223372036854775807 < 5 + z0.size) = false := decide_eq_false (by omega)
  have n00 : 5 + z0.size ≤ 9223372036854775807 := by omega
  obtain ⟨R, hR⟩ : ∃ R, R = ba (ruleT (z0, x1, x2, x3, z4, x5, z6)) := ⟨_, rfl⟩
  rw [← hR]
  have HRR := Lib.hid (show R.data.toList = ruleT (z0, x1, x2, x3, z4, x5, z6) by rw [hR, ba_data])
  clear h1 h2 h3 h5 hr htab hR
  go_enter Tryz.func7, Tryz.ntmps7
  go_wp2
  go_loopw [3, 17] (fun v i wr => ∃ (k : Nat) (done : List ByteArray), k ≤ x1.length ∧ i = .int .i64 k ∧ Hid (done = [H] ++ (x1.take k).map (fun x => ba (patT x))) ∧ Hid (done.length ≤ 10000001 * 2) ∧ Names10 w1 v done wr) (fun _ i _ => x1.length - (intOf i).toNat)
  case atStart => exact ⟨0, [H], Nat.zero_le _, rfl, Lib.hid (by simp), Lib.hid (by simp), by have h9 := N0.out; rw [hw1] at h9 ⊢; rw [← hH]; exact h9⟩
  case round =>
    obtain ⟨k, done, hk, rfl, hdone, hlen, hN⟩ := hrel
    have HD := Lib.hid hdone.out
    have HN := Lib.hid hN
    have hdl := hlen.out
    clear hN hdone
    have BW := Lib.hid (below_step B0.out HN.out.2)
    have VW := Lib.hid (V0.out.below HN.out.2)
    by_cases hlt : k < x1.length
    · skip
      clear hw1 N0
      obtain ⟨b, o, rfl, hbb, g0, g1, g2, g3⟩ := (H1.out.below BW.out).pat_at hlt
      have hsz : szPatternU x1[k] ≤ 100000000 := by
        have := HRS.out
        have := szs_mem (sz := szPatternU) (List.getElem_mem hlt)
        omega
      have HST0 := Lib.hid (show [H] ++ (x1.take (k + 1)).map (fun x => ba (patT x)) = ([H] ++ (x1.take k).map (fun x => ba (patT x))) ++ [ba (patT x1[k])] by rw [take_snoc hlt, List.map_append, List.append_assoc]; rfl)
      generalize x1[k] = x at *
      obtain ⟨y0, y1, y2, y3⟩ := x
      simp only at g0 g1 g2 g3
      have hi0 : (0 : Int) ≤ (k : Int) := by omega
      have hi1 : (k : Int) < (x1.length : Int) := by omega
      have hd : Below wr.heap.size wr (wr.alloc (Obj.cells #[Value.string y0, Value.bool y1, Value.string y2, Value.string y3] 46)) := (Below.refl _ _).alloc (Nat.le_refl _) _
      have FO := Lib.hid (show Calls Tryz.prog 19 #[.agg #[.string y0, .bool y1, .string y2, .string y3]] (wr.alloc (Obj.cells #[Value.string y0, Value.bool y1, Value.string y2, Value.string y3] 46)) (fun e w' => e = .returned (.string (ba (patT (y0, y1, y2, y3)))) ∧ Below (wr.alloc (Obj.cells #[Value.string y0, Value.bool y1, Value.string y2, Value.string y3] 46)).heap.size (wr.alloc (Obj.cells #[Value.string y0, Value.bool y1, Value.string y2, Value.string y3] 46)) w') from pattern y0 y1 y2 y3 _ hsz)
      have HDD := Lib.hid hd
      clear hsz hd
      generalize ba (patT (y0, y1, y2, y3)) = yy at *
      go_wp2_with fail
      refine (Calls.mono FO.out) ?_
      rintro e w3 ⟨rfl, b3⟩
      have D3 := Lib.hid (below_step HDD.out b3)
      clear b3 FO
      have HST := Lib.hid (HST0.out)
      have HF := Lib.hid (show done ++ [yy] = [H] ++ (x1.take (k + 1)).map (fun x => ba (patT x)) from (by rw [HD.out]; exact HST0.out.symm))
      have hown := own_below HN.out.1 D3.out
      have hs3 := D3.out.size
      have hw9 := HN.out.2.size
      have RN := Lib.hid (show Row 0 (w3.alloc (Obj.cells #[Value.string yy] 9)).heap.size (w3.alloc (Obj.cells #[Value.string yy] 9)) (some ⟨w3.heap.size, 0, none⟩) [.string yy] from by have h9 := row_new (heap_alloc_new w3 (Obj.cells #[Value.string yy] 9)); simpa using h9)
      go_wp2_with (at_builtin; (refine wpList_append_rowW rfl _ _ _ rfl 9 i0 (.string ByteArray.empty) 1 16 w1.heap.size Tryz.underlying59 hi hz0 hz1 hz2 rfl (by decide) _ done.length (done.map Value.string) rfl (hown.alloc _) _ 1 _ [.string yy] rfl rfl RN.out (by simp [Value.oneCell']) (by unfold maxLen; omega) (by omega) (by simp; omega) ?_); intro v5 w5 hown5 hgrow hwh)
      have BB : Below w1.heap.size w1 w5 := ((HN.out.2.trans (D3.out.mono HN.out.2.size)).alloc (by omega) (Obj.cells #[Value.string yy] 9)).grown hgrow (by simp; omega) (fun g e => (hown.lt g e).1)
      have NN := Lib.hid (show Names10 w1 v5 (done ++ [yy]) w5 from ⟨by simpa using hown5, BB⟩)
      have hlen2 := Lib.hid (show (done ++ [yy]).length ≤ 10000001 * 2 by rw [HF.out]; simp only [List.length_append, List.length_map, List.length_take, List.length_cons, List.length_nil]; omega)
      clear hown5 hgrow hwh hown BB
      go_wp2
      go_roundw
      case rel => exact ⟨k + 1, done ++ [yy], by omega, by go_num, HF, hlen2, NN.out⟩
      case measure => simp [intOf]; omega
    · obtain rfl : k = x1.length := by omega
      clear hw1 N0
      have HD8 := Lib.hid (show done = H :: x1.map (fun x => ba (patT x)) by rw [HD.out, List.take_length]; simp)
      have HN8 := Lib.hid HN.out
      have vv : wr.cell? ⟨w.heap.size, 2, none⟩ = some (.slice A2 x2.length c2) := VW.out.cell 2 _ rfl
      clear HD
      go_wp2
      go_loopw [3, 30] (fun v i wr => ∃ (k : Nat) (done : List ByteArray), k ≤ x2.length ∧ i = .int .i64 k ∧ Hid (done = (H :: x1.map (fun x => ba (patT x))) ++ (x2.take k).map (fun x => ba (guardT x))) ∧ Hid (done.length ≤ 10000001 * 3) ∧ Names10 w1 v done wr) (fun _ i _ => x2.length - (intOf i).toNat)
      case atStart => exact ⟨0, _, Nat.zero_le _, rfl, Lib.hid (by rw [HD8.out]; simp), Lib.hid (by omega), HN8.out⟩
      case round =>
        obtain ⟨k, done, hk, rfl, hdone, hlen, hN⟩ := hrel
        have HD := Lib.hid hdone.out
        have HN := Lib.hid hN
        have hdl := hlen.out
        clear hN hdone
        have BW := Lib.hid (below_step B0.out HN.out.2)
        have VW := Lib.hid (V0.out.below HN.out.2)
        by_cases hlt : k < x2.length
        · skip
          clear HN8 HD8
          obtain ⟨b, o, G1, e1, rfl, hbb, g0, g1, r1⟩ := (H2.out.below BW.out).sum_at hlt
          have hsz : szSum x2[k] ≤ 10000000 := by
            have := HRS.out
            have := szs_mem (sz := szSum) (List.getElem_mem hlt)
            omega
          have HST0 := Lib.hid (show (H :: x1.map (fun x => ba (patT x))) ++ (x2.take (k + 1)).map (fun x => ba (guardT x)) = ((H :: x1.map (fun x => ba (patT x))) ++ (x2.take k).map (fun x => ba (guardT x))) ++ [ba (guardT x2[k])] by rw [take_snoc hlt, List.map_append, List.append_assoc]; rfl)
          generalize x2[k] = x at *
          obtain ⟨y0, ys⟩ := x
          simp only at g0 g1 r1
          have hi0 : (0 : Int) ≤ (k : Int) := by omega
          have hi1 : (k : Int) < (x2.length : Int) := by omega
          have hd : Below wr.heap.size wr (wr.alloc (Obj.cells #[Value.int .i64 y0, Value.slice G1 ys.length e1] 50)) := (Below.refl _ _).alloc (Nat.le_refl _) _
          have e9 : szSum (y0, ys) = ys.length + szs tsz ys := rfl
          have FO := Lib.hid (ArgI.formatSum y0 G1 e1 ys _ (r1.below hd) (by omega) (fun t ht => by have := szs_mem (sz := tsz) ht; have e7 : tsz t = t.2.size := rfl; omega) (HTB.out.below (below_step BW.out hd)))
          have HDD := Lib.hid hd
          have hFl := fmtS_le (y0, ys)
          clear hsz hd r1 e9
          have HY := Lib.hid (show (ByteArray.mk (FS (y0, ys)).toArray ++ ⟨#[32, 62, 61, 32, 48]⟩ : ByteArray) = ba (guardT (y0, ys)) from NameM.toList_inj (by rw [ba_data]; simp [guardT, ByteArray.data_append]))
          generalize FS (y0, ys) = F0 at *
          have n9 : decide (9223372036854775807 < F0.length + 5) = false := decide_eq_false (by omega)
          go_wp2_with fail
          refine (Calls.mono FO.out) ?_
          rintro e w3 ⟨rfl, b3⟩
          have D3 := Lib.hid (below_step HDD.out b3)
          clear b3 FO
          have HST := Lib.hid (HST0.out)
          have HF := Lib.hid (show done ++ [(ByteArray.mk F0.toArray ++ ⟨#[32, 62, 61, 32, 48]⟩)] = (H :: x1.map (fun x => ba (patT x))) ++ (x2.take (k + 1)).map (fun x => ba (guardT x)) from (by rw [HD.out, HY.out]; exact HST0.out.symm))
          have hown := own_below HN.out.1 D3.out
          have hs3 := D3.out.size
          have hw9 := HN.out.2.size
          have RN := Lib.hid (show Row 0 (w3.alloc (Obj.cells #[Value.string (ByteArray.mk F0.toArray ++ ⟨#[32, 62, 61, 32, 48]⟩)] 9)).heap.size (w3.alloc (Obj.cells #[Value.string (ByteArray.mk F0.toArray ++ ⟨#[32, 62, 61, 32, 48]⟩)] 9)) (some ⟨w3.heap.size, 0, none⟩) [.string (ByteArray.mk F0.toArray ++ ⟨#[32, 62, 61, 32, 48]⟩)] from by have h9 := row_new (heap_alloc_new w3 (Obj.cells #[Value.string (ByteArray.mk F0.toArray ++ ⟨#[32, 62, 61, 32, 48]⟩)] 9)); simpa using h9)
          go_wp2_with (at_builtin; (refine wpList_append_rowW rfl _ _ _ rfl 9 i0 (.string ByteArray.empty) 1 16 w1.heap.size Tryz.underlying59 hi hz0 hz1 hz2 rfl (by decide) _ done.length (done.map Value.string) rfl (hown.alloc _) _ 1 _ [.string (ByteArray.mk F0.toArray ++ ⟨#[32, 62, 61, 32, 48]⟩)] rfl rfl RN.out (by simp [Value.oneCell']) (by unfold maxLen; omega) (by omega) (by simp; omega) ?_); intro v5 w5 hown5 hgrow hwh)
          have BB : Below w1.heap.size w1 w5 := ((HN.out.2.trans (D3.out.mono HN.out.2.size)).alloc (by omega) (Obj.cells #[Value.string (ByteArray.mk F0.toArray ++ ⟨#[32, 62, 61, 32, 48]⟩)] 9)).grown hgrow (by simp; omega) (fun g e => (hown.lt g e).1)
          have NN := Lib.hid (show Names10 w1 v5 (done ++ [(ByteArray.mk F0.toArray ++ ⟨#[32, 62, 61, 32, 48]⟩)]) w5 from ⟨by simpa using hown5, BB⟩)
          have hlen2 := Lib.hid (show (done ++ [(ByteArray.mk F0.toArray ++ ⟨#[32, 62, 61, 32, 48]⟩)]).length ≤ 10000001 * 3 by rw [HF.out]; simp only [List.length_append, List.length_map, List.length_take, List.length_cons, List.length_nil]; omega)
          clear hown5 hgrow hwh hown BB
          go_wp2
          go_roundw
          case rel => exact ⟨k + 1, done ++ [(ByteArray.mk F0.toArray ++ ⟨#[32, 62, 61, 32, 48]⟩)], by omega, by go_num, HF, hlen2, NN.out⟩
          case measure => simp [intOf]; omega
        · obtain rfl : k = x2.length := by omega
          have HD9 := Lib.hid (show done = H :: (x1.map (fun x => ba (patT x)) ++ x2.map (fun x => ba (guardT x))) by rw [HD.out, List.take_length]; simp)
          have HN9 := Lib.hid HN.out
          have vv : wr.cell? ⟨w.heap.size, 3, none⟩ = some (.slice A3 x3.length c3) := VW.out.cell 3 _ rfl
          clear HD
          go_wp2
          go_loopw [3, 44] (fun v i wr => ∃ (k : Nat) (done : List ByteArray), k ≤ x3.length ∧ i = .int .i64 k ∧ Hid (done = (H :: (x1.map (fun x => ba (patT x)) ++ x2.map (fun x => ba (guardT x)))) ++ (x3.take k).map (fun x => ba (callT x))) ∧ Hid (done.length ≤ 10000001 * 4) ∧ Names10 w1 v done wr) (fun _ i _ => x3.length - (intOf i).toNat)
          case atStart => exact ⟨0, _, Nat.zero_le _, rfl, Lib.hid (by rw [HD9.out]; simp), Lib.hid (by omega), HN9.out⟩
          case round =>
            obtain ⟨k, done, hk, rfl, hdone, hlen, hN⟩ := hrel
            have HD := Lib.hid hdone.out
            have HN := Lib.hid hN
            have hdl := hlen.out
            clear hN hdone
            have BW := Lib.hid (below_step B0.out HN.out.2)
            have VW := Lib.hid (V0.out.below HN.out.2)
            by_cases hlt : k < x3.length
            · skip
              clear HN9 HD9
              obtain ⟨b, o, G1, e1, rfl, hbb, g0, g1, g2, r1⟩ := (H3.out.below BW.out).call_at hlt
              have hsz : szCallU x3[k] ≤ 10000000 := by
                have := HRS.out
                have := szs_mem (sz := szCallU) (List.getElem_mem hlt)
                omega
              have HST0 := Lib.hid (show (H :: (x1.map (fun x => ba (patT x)) ++ x2.map (fun x => ba (guardT x)))) ++ (x3.take (k + 1)).map (fun x => ba (callT x)) = ((H :: (x1.map (fun x => ba (patT x)) ++ x2.map (fun x => ba (guardT x)))) ++ (x3.take k).map (fun x => ba (callT x))) ++ [ba (callT x3[k])] by rw [take_snoc hlt, List.map_append, List.append_assoc]; rfl)
              generalize x3[k] = x at *
              obtain ⟨y0, y1, ya⟩ := x
              simp only at g0 g1 g2 r1
              have hi0 : (0 : Int) ≤ (k : Int) := by omega
              have hi1 : (k : Int) < (x3.length : Int) := by omega
              have hd : Below wr.heap.size wr (wr.alloc (Obj.cells #[Value.string y0, Value.string y1, Value.slice G1 ya.length e1] 53)) := (Below.refl _ _).alloc (Nat.le_refl _) _
              have FO := Lib.hid (FmtI.call y0 y1 G1 e1 ya _ (r1.below hd) hsz (HTB.out.below (below_step BW.out hd)))
              have HDD := Lib.hid hd
              clear hsz hd r1
              generalize ba (callT (y0, y1, ya)) = yy at *
              go_wp2_with fail
              refine (Calls.mono FO.out) ?_
              rintro e w3 ⟨rfl, b3⟩
              have D3 := Lib.hid (below_step HDD.out b3)
              clear b3 FO
              have HST := Lib.hid (HST0.out)
              have HF := Lib.hid (show done ++ [yy] = (H :: (x1.map (fun x => ba (patT x)) ++ x2.map (fun x => ba (guardT x)))) ++ (x3.take (k + 1)).map (fun x => ba (callT x)) from (by rw [HD.out]; exact HST0.out.symm))
              have hown := own_below HN.out.1 D3.out
              have hs3 := D3.out.size
              have hw9 := HN.out.2.size
              have RN := Lib.hid (show Row 0 (w3.alloc (Obj.cells #[Value.string yy] 9)).heap.size (w3.alloc (Obj.cells #[Value.string yy] 9)) (some ⟨w3.heap.size, 0, none⟩) [.string yy] from by have h9 := row_new (heap_alloc_new w3 (Obj.cells #[Value.string yy] 9)); simpa using h9)
              go_wp2_with (at_builtin; (refine wpList_append_rowW rfl _ _ _ rfl 9 i0 (.string ByteArray.empty) 1 16 w1.heap.size Tryz.underlying59 hi hz0 hz1 hz2 rfl (by decide) _ done.length (done.map Value.string) rfl (hown.alloc _) _ 1 _ [.string yy] rfl rfl RN.out (by simp [Value.oneCell']) (by unfold maxLen; omega) (by omega) (by simp; omega) ?_); intro v5 w5 hown5 hgrow hwh)
              have BB : Below w1.heap.size w1 w5 := ((HN.out.2.trans (D3.out.mono HN.out.2.size)).alloc (by omega) (Obj.cells #[Value.string yy] 9)).grown hgrow (by simp; omega) (fun g e => (hown.lt g e).1)
              have NN := Lib.hid (show Names10 w1 v5 (done ++ [yy]) w5 from ⟨by simpa using hown5, BB⟩)
              have hlen2 := Lib.hid (show (done ++ [yy]).length ≤ 10000001 * 4 by rw [HF.out]; simp only [List.length_append, List.length_map, List.length_take, List.length_cons, List.length_nil]; omega)
              clear hown5 hgrow hwh hown BB
              go_wp2
              go_roundw
              case rel => exact ⟨k + 1, done ++ [yy], by omega, by go_num, HF, hlen2, NN.out⟩
              case measure => simp [intOf]; omega
            · obtain rfl : k = x3.length := by omega
              have HDF := Lib.hid (show done = H :: (x1.map (fun x => ba (patT x)) ++ (x2.map (fun x => ba (guardT x)) ++ x3.map (fun x => ba (callT x)))) by rw [HD.out, List.take_length]; simp)
              have v4 : wr.cell? ⟨w.heap.size, 4, none⟩ = some (.bool z4) := VW.out.cell 4 _ rfl
              have v5 : wr.cell? ⟨w.heap.size, 5, none⟩ = some (.slice A5 x5.length c5) := VW.out.cell 5 _ rfl
              have v6 : wr.cell? ⟨w.heap.size, 6, none⟩ = some (.string z6) := VW.out.cell 6 _ rfl
              have hsz : szArgU (z4, x5, z6) ≤ 10000000 := by have := HRS.out; omega
              have FO := Lib.hid (ArgI.formatArg z4 z6 A5 c5 x5 wr (H5.out.below BW.out) (by simp only [szArgU] at hsz; have := ssl_small (n := 10000000) (xs := x5) (by omega); omega) (sums_small (z0 := z4) (z2 := z6) hsz) (by simp only [szArgU] at hsz; omega) (HTB.out.below BW.out))
              have hFl := FA_le (z4, x5, z6)
              have HE := Lib.hid (show (⟨#[114, 101, 116, 117, 114, 110, 32]⟩ ++ ByteArray.mk (FA (z4, x5, z6)).toArray : ByteArray).data.toList = endT (z4, x5, z6) by simp [endT, ByteArray.data_append])
              have HJ := Lib.hid (fun E hE => ruleT_joined (z0, x1, x2, x3, z4, x5, z6) H E HH.out hE)
              have HBY := Lib.hid (show StrK.bytesOf done ≤ 20000000 + 1000 * 40000000 by
                rw [HDF.out]
                have b1 := szB pat_le x1
                have b2 := szB guard_le x2
                have b3 := szB call_le x3
                have := HRS.out
                unfold StrK.bytesOf at b1 b2 b3 ⊢
                rw [List.map_cons, List.sum_cons, List.map_append, List.sum_append, List.map_append, List.sum_append]
                omega)
              clear hsz
              generalize FA (z4, x5, z6) = F0 at *
              have n9 : decide (9223372036854775807 < 7 + F0.length) = false := decide_eq_false (by omega)
              have n90 : 7 + F0.length ≤ 9223372036854775807 := by omega
              go_wp2_with fail
              refine (Calls.mono FO.out) ?_
              rintro e w3 ⟨rfl, b3⟩
              have B3 := Lib.hid (below_step BW.out b3)
              have hown := own_below HN.out.1 b3
              have hs3 := b3.size
              have hw9 := HN.out.2.size
              have HB13 := Lib.hid (below_step HN.out.2 b3)
              obtain ⟨E, hE⟩ : ∃ E : ByteArray, E = ⟨#[114, 101, 116, 117, 114, 110, 32]⟩ ++ ByteArray.mk F0.toArray := ⟨_, rfl⟩
              have hEs : E.size ≤ 900 := by
                rw [hE, ByteArray.size_append]
                have e1 : (⟨#[114, 101, 116, 117, 114, 110, 32]⟩ : ByteArray).size = 7 := rfl
                have e2 : (ByteArray.mk F0.toArray).size = F0.length := ba_size F0
                omega
              have RN := Lib.hid (show Row 0 (w3.alloc (Obj.cells #[Value.string (⟨#[114, 101, 116, 117, 114, 110, 32]⟩ ++ ByteArray.mk F0.toArray)] 9)).heap.size (w3.alloc (Obj.cells #[Value.string (⟨#[114, 101, 116, 117, 114, 110, 32]⟩ ++ ByteArray.mk F0.toArray)] 9)) (some ⟨w3.heap.size, 0, none⟩) [.string (⟨#[114, 101, 116, 117, 114, 110, 32]⟩ ++ ByteArray.mk F0.toArray)] from by have h9 := row_new (heap_alloc_new w3 (Obj.cells #[Value.string (⟨#[114, 101, 116, 117, 114, 110, 32]⟩ ++ ByteArray.mk F0.toArray)] 9)); simpa using h9)
              clear b3 FO v4 v5 v6
              go_wp2_with (at_builtin; (refine wpList_append_rowW rfl _ _ _ rfl 9 i0 (.string ByteArray.empty) 1 16 w1.heap.size Tryz.underlying59 hi hz0 hz1 hz2 rfl (by decide) _ done.length (done.map Value.string) rfl (hown.alloc _) _ 1 _ [.string (⟨#[114, 101, 116, 117, 114, 110, 32]⟩ ++ ByteArray.mk F0.toArray)] rfl rfl RN.out (by simp [Value.oneCell']) (by unfold maxLen; omega) (by omega) (by simp; omega) ?_); intro v5 w5 hown5 hgrow hwh)
              have BB : Below w1.heap.size w1 w5 := (HB13.out.alloc (by omega) (Obj.cells #[Value.string (⟨#[114, 101, 116, 117, 114, 110, 32]⟩ ++ ByteArray.mk F0.toArray)] 9)).grown hgrow (by simp; omega) (fun g e => (hown.lt g e).1)
              have hown6 : w5.ownsRow w1.heap.size 9 1 v5 (done ++ [E]).length ((done ++ [E]).map Value.string) := by rw [hE]; simpa using hown5
              obtain ⟨N, cn, hv, oN, _⟩ := gave_own hown6 BB
              injection hv with hv
              subst hv
              have hjl := JoinS.joined_length (done ++ [E]) ⟨#[32, 124, 32]⟩
              have h3s : (⟨#[32, 124, 32]⟩ : ByteArray).size = 3 := rfl
              rw [h3s] at hjl
              have hbe : StrK.bytesOf (done ++ [E]) = StrK.bytesOf done + E.size := by unfold StrK.bytesOf; rw [List.map_append, List.sum_append]; simp
              have hdl6 : (done ++ [E]).length = done.length + 1 := by simp
              have JO := Lib.hid (JoinS.impl N cn (done ++ [E]) ⟨#[32, 124, 32]⟩ w5 (own_SR oN).1 (by rw [hdl6]; omega) (ArgS.cap oN.arg).2 (by rw [h3s, hbe, hdl6]; have := HBY.out; omega))
              have HJJ := Lib.hid (show JoinS.joined (done ++ [E]) ⟨#[32, 124, 32]⟩ = ruleT (z0, x1, x2, x3, z4, x5, z6) by rw [HDF.out]; exact HJ.out E (by rw [hE]; exact HE.out))
              have B5 := Lib.hid (below_step B0.out BB)
              clear hown5 hgrow hwh hown hown6 BB oN hjl h3s hbe hE
              go_wp2_with fail
              refine (Calls.mono JO.out) ?_
              rintro e w6 ⟨rfl, b6⟩
              have B6 := Lib.hid (below_step B5.out b6)
              clear b6
              go_wp2
              go_ret
              exact ⟨congrArg (fun s => Ending.returned (Value.string s)) (NameM.toList_inj (by rw [HRR.out, ← HJJ.out])), B6.out⟩
end FmtI
end Go.Proofs.YtcdlgebbmcdadaaGreatDoor
