import Derived.Test.YtbbllkhmenpnlaaGreatRepGen
import Derived.Test.YtbbllkhmenpnlaaGreatEdgeI2
/-
  Data in a stretch of blocks while another block grows; rows of the call's own.
-/
namespace Go.Proofs.YtbbllkhmenpnlaaGreat
open Go.RowKit
namespace GraphS
open RowK Mem
theorem ownS_grown {α : Type} {r : Rep α} {lo hi : Nat} {w w' : World} {A : Option Addr} {n c : Nat} {xs : List α} {row : Option Nat} (h : OwnS r lo hi w A n c xs) (hg : w.grownBy w' row) (hr : ∀ g, row = some g → g < lo ∨ hi ≤ g) : OwnS r lo hi w' A n c xs := by
 obtain ⟨h0, fp, h1, h2, h3⟩ := h
 exact ⟨Nat.le_trans h0 hg.size, fp, (Rep.slice r).same h1 hg.size (fun b hb => hg.block b ((Rep.slice r).lt h1 b hb) (fun e => by have := h3 b hb; have := hr b e.symm; omega)), h2, h3⟩
def Apart (w w1 : World) (v : Value) : Prop := ∀ g, v.ownBlock = some g → g = w.heap.size + 1 ∨ w1.heap.size ≤ g
theorem Apart.next {w w1 w0 : World} {v v5 : Value} (h : Apart w w1 v) (hw : v5.ownBlock = v.ownBlock ∨ ∀ g, v5.ownBlock = some g → w0.heap.size ≤ g) (hs : w1.heap.size ≤ w0.heap.size) : Apart w w1 v5 := fun g hg => by
 rcases hw with hw | hw
 ·exact h g (by rw [← hw]; exact hg)
 ·exact Or.inr (Nat.le_trans hs (hw g hg))
end GraphS
end Go.Proofs.YtbbllkhmenpnlaaGreat

/-
  The ends of a call; EdgesOf of the model (made by tools/s13.py).
-/
namespace Go.Proofs.YtbbllkhmenpnlaaGreat
open Go.RowKit
namespace GraphS
open RowK Mem GraphM ProgM
set_option maxHeartbeats 4000000 in
set_option maxRecDepth 100000 in
theorem callerOf (A B : Option Addr) (n c d : Nat) (rs : List RuleT) (k i : Nat) (w : World) (hB : ArgS rule w B rs.length d rs) (hl : rs.length + szs szRuleU rs ≤ 9000000) (hk : k < rs.length) :
  Calls Tryz.prog 64 #[.agg #[.slice A n c, .slice B rs.length d], .agg #[.int .i64 (k : Int), .int .i64 (i : Int)]] w fun e w' => e = .returned (.string (fromE rs ((k : Int), (i : Int)))) ∧ Below w.heap.size w w' := by
 have hrl : rs.length ≤ 9000000 := by omega
 have b0 : Below w.heap.size w ((w.alloc (Obj.cells #[Value.slice A n c, Value.slice B rs.length d] 27)).alloc (Obj.cells #[Value.int .i64 (k : Int), Value.int .i64 (i : Int)] 50)) := ((Below.refl _ _).alloc (Nat.le_refl _) _).alloc (by simp) _
 obtain ⟨b1, o1, A1, c1, A2, c2, A3, c3, A5, c5, rfl, hbb, g0, g1, g2, g3, g4, g5, g6, _, _, r3, _⟩ := (hB.below b0).rule_at hk
 have HR := Lib.hid (fromE_at (rs := rs) (k := k) (i := (i : Int)) hk)
 have hi0 : (0 : Int) ≤ (k : Int) := by omega
 have hi1 : (k : Int) < (rs.length : Int) := by omega
 have B0 := Lib.hid b0
 clear hB b0 hl g1 g2 g4 g5 g6 g3
 generalize rs[k] = x at *
 go_enter Tryz.func64, Tryz.ntmps64
 go_wp2
 go_ret
 rw [HR.out]
 exact ⟨rfl, B0.out⟩
set_option maxHeartbeats 4000000 in
set_option maxRecDepth 100000 in
theorem calledBy (A B : Option Addr) (n c d : Nat) (rs : List RuleT) (k i : Nat) (w : World) (hB : ArgS rule w B rs.length d rs) (hl : rs.length + szs szRuleU rs ≤ 9000000) (hk : k < rs.length) (hi : i < rs[k].2.2.2.1.length) :
  Calls Tryz.prog 65 #[.agg #[.slice A n c, .slice B rs.length d], .agg #[.int .i64 (k : Int), .int .i64 (i : Int)]] w fun e w' => e = .returned (.string (toE rs ((k : Int), (i : Int)))) ∧ Below w.heap.size w w' := by
 have hrl : rs.length ≤ 9000000 := by omega
 have b0 : Below w.heap.size w ((w.alloc (Obj.cells #[Value.slice A n c, Value.slice B rs.length d] 27)).alloc (Obj.cells #[Value.int .i64 (k : Int), Value.int .i64 (i : Int)] 50)) := ((Below.refl _ _).alloc (Nat.le_refl _) _).alloc (by simp) _
 obtain ⟨b1, o1, A1, c1, A2, c2, A3, c3, A5, c5, rfl, hbb, g0, g1, g2, g3, g4, g5, g6, _, _, r3, _⟩ := (hB.below b0).rule_at hk
 have HR := Lib.hid (toE_at hk hi)
 have hi0 : (0 : Int) ≤ (k : Int) := by omega
 have hi1 : (k : Int) < (rs.length : Int) := by omega
 obtain ⟨b2, o2, G, cg, hA3, hb2, q0, q1, q2, _⟩ := r3.call_at hi
 have hcl : rs[k].2.2.2.1.length ≤ 9000000 := by
  have h2 := szs_mem (sz := szRuleU) (List.getElem_mem hk)
  simp only [szRuleU] at h2
  omega
 subst hA3
 have hj0 : (0 : Int) ≤ (i : Int) := by omega
 have hj1 : (i : Int) < (rs[k].2.2.2.1.length : Int) := by omega
 generalize rs[k].2.2.2.1[i] = y at *
 clear r3 q0 q2
 have B0 := Lib.hid b0
 clear hB b0 hl g1 g2 g4 g5 g6
 generalize rs[k].2.2.2.1.length = m at *
 go_enter Tryz.func65, Tryz.ntmps65
 go_wp2_with fail
 go_quiet (fail)
 go_wp2
 go_ret
 rw [HR.out]
 exact ⟨rfl, below_drewN B0.out _⟩
def EdgesB (w : World) (bs : Nat) (PV : Array Value) (v : Value) (done : List EdgeT) (wr : World) : Prop :=
 wr.ownsRow bs 50 2 v done.length (ecells done) ∧ Below w.heap.size w wr ∧ Lvar wr w.heap.size PV ∧ bs ≤ wr.heap.size
theorem EdgesB.grow {w wr w0 w5 : World} {bs : Nat} {PV : Array Value} {v v5 : Value} {done : List EdgeT} {e : EdgeT} (h : EdgesB w bs PV v done wr) (hbs : w.heap.size + 1 ≤ bs) (hb : Below wr.heap.size wr w0) (hg : w0.grownBy w5 v.ownBlock) (ho : w5.ownsRow bs 50 2 v5 (done.length + 1) (ecells done ++ [.int .i64 e.1, .int .i64 e.2])) : EdgesB w bs PV v5 (done ++ [e]) w5 := by
 obtain ⟨h1, h2, h3, h4⟩ := h
 exact ⟨by rw [ecells_snoc, List.length_append]; exact ho, (h2.trans (hb.mono h2.size)).grown hg (Nat.le_trans h2.size hb.size) (fun g e => by have := (h1.lt g e).1; omega), lvar_grown (h3.below hb) hg (fun e => by have := (h1.lt _ e).1; omega), Nat.le_trans h4 (Nat.le_trans hb.size hg.size)⟩
theorem EdgesB.below {w wr w' : World} {bs : Nat} {PV : Array Value} {v : Value} {done : List EdgeT} (h : EdgesB w bs PV v done wr) (hb : Below wr.heap.size wr w') : EdgesB w bs PV v done w' := ⟨own_below h.1 hb, h.2.1.trans (hb.mono h.2.1.size), h.2.2.1.below hb, Nat.le_trans h.2.2.2 hb.size⟩
theorem EdgesB.gave {w wr : World} {bs : Nat} {PV : Array Value} {v : Value} {done : List EdgeT} (h : EdgesB w bs PV v done wr) (hbs : w.heap.size + 1 ≤ bs) : GaveE w done (.returned v) wr := by
 obtain ⟨h1, h2, _⟩ := h
 refine edges_own ⟨?_, h2⟩
 obtain ⟨e, h | ⟨g, cap, cur, a, b, c⟩⟩ := h1
 ·exact ⟨e, Or.inl h⟩
 ·exact ⟨e, Or.inr ⟨g, cap, cur, a, by omega, c⟩⟩
set_option maxHeartbeats 4000000 in
set_option maxRecDepth 100000 in
theorem edgesOf (A B : Option Addr) (c d : Nat) (fs : List FunctionT) (rs : List RuleT) (w : World) (hA : ArgS Mem.fn w A fs.length c fs) (hB : ArgS rule w B rs.length d rs) (hl : szProgramU (fs, rs) ≤ 9000000) :
  Calls Tryz.prog 24 #[.agg #[.slice A fs.length c, .slice B rs.length d]] w (GaveE w (if progV fs rs = true then edgesA rs else [])) := by
 obtain ⟨i0, hi, hz0, hz1, hz2⟩ := info_parts infoEdge
 have b0 : Below w.heap.size w ((w.alloc (Obj.cells #[Value.slice A fs.length c, Value.slice B rs.length d] 27)).alloc (Obj.cells #[] 50)) := ((Below.refl _ _).alloc (Nat.le_refl _) _).alloc (by simp) _
 have V0 := (Lvar.new w #[Value.slice A fs.length c, Value.slice B rs.length d] 27).alloc (Obj.cells #[] 50)
 have E0 : ((w.alloc (Obj.cells #[Value.slice A fs.length c, Value.slice B rs.length d] 27)).alloc (Obj.cells #[] 50)).heap[w.heap.size + 1]? = some (Obj.cells #[] 50 (0, 0)) := by
  have h9 := heap_alloc_new (w.alloc (Obj.cells #[Value.slice A fs.length c, Value.slice B rs.length d] 27)) (Obj.cells #[] 50)
  simp only [World.size_alloc] at h9
  exact h9
 have O0 := ProgS.own_none (size := 2) E0 (Nat.le_refl _)
 have PV := Lib.hid (ProgS.validProg A B c d fs rs _ (hA.below b0) (hB.below b0) hl)
 have hrl : rs.length + szs szRuleU rs ≤ 9000000 := by simp only [szProgramU] at hl; omega
 have hr9 : rs.length ≤ 9000000 := by omega
 have HLE := Lib.hid (fun k (hk : k ≤ rs.length) => edgesT_le hk hrl)
 have HL := Lib.hid hrl
 have HB := Lib.hid hB
 have HE0 := Lib.hid (show EdgesB w (w.heap.size + 1) #[Value.slice A fs.length c, Value.slice B rs.length d] _ [] _ from ⟨O0, b0, V0, by simp⟩)
 have B0 := Lib.hid b0
 clear hA hB b0 V0 hl hrl E0 O0
 cases hv : progV fs rs with
 | false =>
  rw [hv] at PV
  rw [if_neg (by simp)]
  clear hv
  go_enter Tryz.func24, Tryz.ntmps24
  go_wp2_with fail
  refine (Calls.mono PV.out) ?_
  rintro e w1 ⟨rfl, b1⟩
  have B1 := Lib.hid (below_step B0.out b1)
  clear b1
  go_wp2
  go_ret
  exact ⟨_, _, rfl, OwnS.nil _ _ _ _ (Nat.le_refl _), B1.out⟩
 | true =>
  rw [hv] at PV
  rw [if_pos rfl]
  clear hv
  go_enter Tryz.func24, Tryz.ntmps24
  go_wp2_with fail
  refine (Calls.mono PV.out) ?_
  rintro e w1 ⟨rfl, b1⟩
  have HE1 := Lib.hid (HE0.out.below b1)
  clear b1 HE0
  go_wp2
  go_loopw [3, 4] (fun v i wr => ∃ (k : Nat) (done : List EdgeT), k ≤ rs.length ∧ i = .int .i64 k ∧ Hid (done = edgesT rs k) ∧ EdgesB w (w.heap.size + 1) #[Value.slice A fs.length c, Value.slice B rs.length d] v done wr) (fun _ i _ => rs.length - (intOf i).toNat)
  case atStart => exact ⟨0, [], Nat.zero_le _, rfl, Lib.hid rfl, HE1.out⟩
  case round =>
   obtain ⟨k, done, hk, rfl, hdone, hN⟩ := hrel
   have HD := Lib.hid hdone.out
   have HN := Lib.hid hN
   have p1 : wr.cell? ⟨w.heap.size, 1, none⟩ = some (.slice B rs.length d) := hN.2.2.1.cell 1 _ rfl
   clear hdone hN HE1
   by_cases hlt : k < rs.length
   ·have HCN := Lib.hid (ncalls_at hlt)
    have hcl : rs[k].2.2.2.1.length ≤ 9000000 := by
     have h1 := HL.out
     have h2 := szs_mem (sz := szRuleU) (List.getElem_mem hlt)
     simp only [szRuleU] at h2
     omega
    have HG := Lib.hid (fun (W : World) (h : Below w.heap.size w W) => (HB.out.below h).rule_at hlt)
    generalize rs[k] = x at *
    obtain ⟨z0, x1, x2, x3, z4, x5, z6⟩ := x
    simp only at hcl HCN HG
    have hi0 : (0 : Int) ≤ (k : Int) := by omega
    have hi1 : (k : Int) < (rs.length : Int) := by omega
    have HD0 := Lib.hid (show done = edgesT rs k ++ edgesK k 0 by rw [HD.out]; simp [edgesK])
    clear HD
    go_wp2
    go_loopw [3, 5] (fun v i wq => ∃ (j : Nat) (done : List EdgeT), j ≤ x3.length ∧ i = .int .i64 j ∧ Hid (done = edgesT rs k ++ edgesK k j) ∧ EdgesB w (w.heap.size + 1) #[Value.slice A fs.length c, Value.slice B rs.length d] v done wq) (fun _ i _ => x3.length - (intOf i).toNat)
    case atStart => exact ⟨0, done, Nat.zero_le _, rfl, HD0, HN.out⟩
    case round =>
     obtain ⟨j, done, hj, rfl, hdone, hN⟩ := hrel
     have HD := Lib.hid hdone.out
     have hdl : done.length ≤ 18000000 := by
      have h1 := HLE.out k (by omega)
      have h2 := congrArg List.length HD.out
      rw [List.length_append, edgesK_len] at h2
      omega
     obtain ⟨b1, o1, A1, c1, A2, c2, A3, c3, A5, c5, hB9, hbb, _, _, _, g3, _, _, _, _, _, _, _⟩ := HG.out wr hN.2.1
     have q1 : wr.cell? ⟨w.heap.size, 1, none⟩ = some (.slice B rs.length d) := hN.2.2.1.cell 1 _ rfl
     rw [hB9] at q1
     have HN2 := Lib.hid hN
     have HB9 := Lib.hid hB9
     have hsz := hN.2.1.size
     have hbs := hN.2.2.2
     clear hdone hN HN HD0 p1 hB9
     by_cases hlt2 : j < x3.length
     ·have hi2 : (0 : Int) ≤ (j : Int) := by omega
      have hi3 : (j : Int) < (x3.length : Int) := by omega
      have HST := Lib.hid (show done ++ [((k : Int), (j : Int))] = edgesT rs k ++ edgesK k (j + 1) by rw [HD.out, edgesK_succ, List.append_assoc])
      have HO := Lib.hid (HN2.out.1.alloc (Obj.cells #[Value.int .i64 (k : Int), Value.int .i64 (j : Int)] 50))
      have RN := Lib.hid (show Row 0 (wr.alloc (Obj.cells #[Value.int .i64 (k : Int), Value.int .i64 (j : Int)] 50)).heap.size (wr.alloc (Obj.cells #[Value.int .i64 (k : Int), Value.int .i64 (j : Int)] 50)) (some ⟨wr.heap.size, 0, none⟩) [.int .i64 (k : Int), .int .i64 (j : Int)] from row_new (heap_alloc_new wr (Obj.cells #[Value.int .i64 (k : Int), Value.int .i64 (j : Int)] 50)))
      have hb1 := Lib.hid (show Below wr.heap.size wr (wr.alloc (Obj.cells #[Value.int .i64 (k : Int), Value.int .i64 (j : Int)] 50)) from (Below.refl _ _).alloc (Nat.le_refl _) _)
      go_upto_region 9 with (at_builtin; go_loud (refine wpList_append_rowW rfl _ _ _ rfl 50 i0 (.agg #[.int .i64 0, .int .i64 0]) 2 16 (w.heap.size + 1) Tryz.underlying37 hi hz0 hz1 hz2 rfl (by decide) _ done.length (ecells done) rfl HO.out _ 1 _ [.int .i64 (k : Int), .int .i64 (j : Int)] rfl rfl RN.out (by simp [Value.oneCell']) (by unfold maxLen; omega) (by omega) (by simp; omega) ?_); intro v5 w5 hown5 hgrow hwh)
      have NN := Lib.hid (HN2.out.grow (e := ((k : Int), (j : Int))) (Nat.le_refl _) hb1.out hgrow hown5)
      clear hown5 hgrow hwh q1 g3
      go_wp2
      go_roundw
      case rel => exact ⟨j + 1, done ++ [((k : Int), (j : Int))], by omega, by go_num, HST, NN.out⟩
      case measure => simp [intOf]; omega
     ·obtain rfl : j = x3.length := by omega
      have HF := Lib.hid (show done = edgesT rs (k + 1) by rw [HD.out, edgesT, HCN.out])
      go_wp2
      go_roundw
      case rel => exact ⟨k + 1, done, by omega, by go_num, HF, HN2.out⟩
      case measure => simp [intOf]; omega
   ·obtain rfl : k = rs.length := by omega
    have FIN := Lib.hid (HN.out.gave (Nat.le_refl _))
    have HF := Lib.hid (show edgesA rs = done from HD.out.symm)
    go_wp2
    go_ret
    rw [HF.out]
    exact FIN.out
end GraphS
end Go.Proofs.YtbbllkhmenpnlaaGreat
