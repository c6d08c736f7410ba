import Derived.Test.YtbbllkhmenpnlaaGreatUEdge
import Derived.Test.YtbbllkhmenpnlaaGreatURule
import Derived.Test.YtbbllkhmenpnlaaGreatRepGen
import Derived.Test.YtbbllkhmenpnlaaGreatAppend4
import Derived.Test.YtbbllkhmenpnlaaGreatPgmArg
import Derived.Handy
import Derived.Shelf.Abstract
import Derived.Deep.Cut
import Derived.Deep.RegionLaw
import Derived.Test.YtbbllkhmenpnlaaGreatPgmPrgS
import Derived.Test.YtbbllkhmenpnlaaGreatNameOps
import Derived.BigQuiet
/-
  Call graphs as mathematics: the calls of a program, and those that pass.
-/
namespace Go.Proofs.YtbbllkhmenpnlaaGreat
open Go.RowKit
namespace GraphM
open RowK Mem
def ncalls (rs : List RuleT) (k : Nat) : Nat := match rs[k]? with | some r => r.2.2.2.1.length | none => 0
theorem ncalls_at {rs : List RuleT} {k : Nat} (h : k < rs.length) : ncalls rs k = rs[k].2.2.2.1.length := by unfold ncalls; rw [List.getElem?_eq_getElem h]
def edgesK (k n : Nat) : List EdgeT := (List.range n).map fun i : Nat => ((k : Int), (i : Int))
theorem edgesK_succ (k n : Nat) : edgesK k (n + 1) = edgesK k n ++ [((k : Int), (n : Int))] := by unfold edgesK; rw [List.range_succ, List.map_append]; rfl
theorem edgesK_len (k n : Nat) : (edgesK k n).length = n := by simp [edgesK]
def edgesT (rs : List RuleT) : Nat → List EdgeT
 | 0 => []
 | k + 1 => edgesT rs k ++ edgesK k (ncalls rs k)
theorem edgesT_len (rs : List RuleT) : ∀ k, k ≤ rs.length → (edgesT rs k).length ≤ szs szRuleU (rs.take k)
 | 0, _ => Nat.zero_le _
 | k + 1, h => by
  have ih := edgesT_len rs k (by omega)
  rw [edgesT, List.length_append, edgesK_len, szs_step (show k < rs.length from h), ncalls_at h]
  have h2 : rs[k].2.2.2.1.length ≤ szRuleU rs[k] := by unfold szRuleU; omega
  omega
theorem edgesT_le {rs : List RuleT} {k m : Nat} (h : k ≤ rs.length) (hl : rs.length + szs szRuleU rs ≤ m) : (edgesT rs k).length ≤ m := by
 have h1 := edgesT_len rs k h
 have h2 := szs_take (sz := szRuleU) rs k
 omega
theorem mem_edgesK {k n : Nat} {e : EdgeT} : e ∈ edgesK k n ↔ ∃ i, i < n ∧ e = ((k : Int), (i : Int)) := by
 unfold edgesK
 rw [List.mem_map]
 constructor
 ·rintro ⟨i, hi, rfl⟩; exact ⟨i, List.mem_range.1 hi, rfl⟩
 ·rintro ⟨i, hi, rfl⟩; exact ⟨i, List.mem_range.2 hi, rfl⟩
theorem mem_edgesT {rs : List RuleT} {e : EdgeT} : ∀ {k : Nat}, e ∈ edgesT rs k ↔ ∃ j i : Nat, j < k ∧ i < ncalls rs j ∧ e = ((j : Int), (i : Int))
 | 0 => by simp [edgesT]
 | k + 1 => by
  rw [edgesT, List.mem_append, mem_edgesT, mem_edgesK]
  constructor
  ·rintro (⟨j, i, h1, h2, h3⟩ | ⟨i, h2, h3⟩)
   ·exact ⟨j, i, by omega, h2, h3⟩
   ·exact ⟨k, i, by omega, h2, h3⟩
  ·rintro ⟨j, i, h1, h2, h3⟩
   by_cases h : j < k
   ·exact Or.inl ⟨j, i, h, h2, h3⟩
   ·obtain rfl : j = k := by omega
    exact Or.inr ⟨i, h2, h3⟩
def edgesA (rs : List RuleT) : List EdgeT := edgesT rs rs.length
theorem edgesA_at {rs : List RuleT} {e : EdgeT} (h : e ∈ edgesA rs) : ∃ j i : Nat, ∃ hj : j < rs.length, i < rs[j].2.2.2.1.length ∧ e = ((j : Int), (i : Int)) := by
 obtain ⟨j, i, h1, h2, h3⟩ := mem_edgesT.1 h
 exact ⟨j, i, h1, by rw [← ncalls_at h1]; exact h2, h3⟩
def fromE (rs : List RuleT) (e : EdgeT) : ByteArray := match rs[e.1.toNat]? with | some r => r.1 | none => ⟨#[]⟩
def toE (rs : List RuleT) (e : EdgeT) : ByteArray := match rs[e.1.toNat]? with | some r => (match r.2.2.2.1[e.2.toNat]? with | some c => c.2.1 | none => ⟨#[]⟩) | none => ⟨#[]⟩
theorem fromE_at {rs : List RuleT} {k : Nat} {i : Int} (h : k < rs.length) : fromE rs ((k : Int), i) = rs[k].1 := by
 unfold fromE
 rw [show ((k : Int), i).1.toNat = k from by simp, List.getElem?_eq_getElem h]
theorem toE_at {rs : List RuleT} {k i : Nat} (h : k < rs.length) (hi : i < rs[k].2.2.2.1.length) : toE rs ((k : Int), (i : Int)) = rs[k].2.2.2.1[i].2.1 := by
 unfold toE
 rw [show ((k : Int), (i : Int)).1.toNat = k from by simp, show ((k : Int), (i : Int)).2.toNat = i from by simp, List.getElem?_eq_getElem h]
 simp only
 rw [List.getElem?_eq_getElem hi]
def ecell (x : EdgeT) : List Value := [.int .i64 x.1, .int .i64 x.2]
def ecells (xs : List EdgeT) : List Value := xs.flatMap ecell
theorem ecells_snoc (xs : List EdgeT) (x : EdgeT) : ecells (xs ++ [x]) = ecells xs ++ [.int .i64 x.1, .int .i64 x.2] := by simp [ecells, ecell]
def Edges (w : World) (v : Value) (done : List EdgeT) (wr : World) : Prop := wr.ownsRow w.heap.size 50 2 v done.length (ecells done) ∧ Below w.heap.size w wr
def GaveE (w : World) (es : List EdgeT) (e : Ending) (w' : World) : Prop := ∃ A c, e = .returned (.slice A es.length c) ∧ OwnS edge w.heap.size w'.heap.size w' A es.length c es ∧ Below w.heap.size w w'
theorem own_below {w w' : World} {base size n : Nat} {e : TypeId} {v : Value} {xs : List Value} (h : w.ownsRow base e size v n xs) (hb : Below w.heap.size w w') : w'.ownsRow base e size v n xs :=
 h.kept (StrK.only_below hb none) (by cases v.ownBlock <;> simp)
theorem Edges.below {w wr w' : World} {v : Value} {done : List EdgeT} (h : Edges w v done wr) (hb : Below wr.heap.size wr w') : Edges w v done w' := ⟨own_below h.1 hb, h.2.trans (hb.mono h.2.size)⟩
theorem below_drewN {m : Nat} {w w' : World} (h : Below m w w') (n : Nat) : Below m w (w'.drewN n) := h.trans ⟨rfl, rfl, rfl, Nat.le_refl _, fun _ _ => rfl⟩
def esOf (zs : List EdgeT) : List (El EdgeT) := zs.map fun z => ([], ecell z, z)
theorem cells_esOf (zs : List EdgeT) : cells (esOf zs) = ecells zs := by simp [cells, esOf, ecells, List.flatMap_map]
theorem fps_esOf (zs : List EdgeT) : fps (esOf zs) = [] := by simp [fps, esOf, List.flatMap_map]
theorem vals_esOf (zs : List EdgeT) : vals (esOf zs) = zs := by simp [vals, esOf, Function.comp_def]
theorem edges_own {w w' : World} {v : Value} {es : List EdgeT} (h : Edges w v es w') : GaveE w es (.returned v) w' := by
 obtain ⟨h1, h2⟩ := h
 have ho : Owned edge 50 (fun b => w.heap.size ≤ b) w' v es := by
  refine ⟨esOf es, vals_esOf es, ?_, ?_, ?_, ?_, ?_⟩
  ·rw [cells_esOf]
   obtain ⟨e, h | ⟨g, cap, cur, a, b, c⟩⟩ := h1
   ·exact ⟨e, Or.inl h⟩
   ·exact ⟨e, Or.inr ⟨g, cap, cur, a, Nat.zero_le _, c⟩⟩
  ·intro x hx
   obtain ⟨z, _, rfl⟩ := List.mem_map.1 hx
   exact edge_close z.1 z.2
  ·rw [fps_esOf]; exact List.nodup_nil
  ·exact fun g hg => (h1.lt g hg).1
  ·rw [fps_esOf]; exact fun b hb => by cases hb
 obtain ⟨A, c, rfl, hS⟩ := ho.ownS (by decide) (fun b h => h)
 exact ⟨A, c, rfl, hS, h2⟩
end GraphM
end Go.Proofs.YtbbllkhmenpnlaaGreat

/-
  The calls of a program that pass, of the program (made by tools/s13.py).
-/
namespace Go.Proofs.YtbbllkhmenpnlaaGreat
open Go.RowKit
namespace GraphI
open RowK Mem GraphM
set_option maxHeartbeats 4000000 in
set_option maxRecDepth 100000 in
theorem edgesWhere (F : Nat) (lb : Array Value) (eg : ∀ args W, (callFunc F args).run Tryz.prog W = .ok (.enter F args) W) (p : EdgeT → Bool) (A B : Option Addr) (n c d : Nat) (rs : List RuleT) (w : World) (hB : ArgS rule w B rs.length d rs) (hl : rs.length + szs szRuleU rs ≤ 9000000)
  (hp : ∀ (k i : Nat) (W : World), Below w.heap.size w W → (∃ hk : k < rs.length, i < rs[k].2.2.2.1.length) → Calls Tryz.prog F (#[.agg #[.int .i64 (k : Int), .int .i64 (i : Int)]] ++ lb) W fun e w' => e = .returned (.bool (p ((k : Int), (i : Int)))) ∧ Below W.heap.size W w') :
  Calls Tryz.prog 55 #[.agg #[.slice A n c, .slice B rs.length d], .func (.func F) #[] lb] w (GaveE w ((edgesA rs).filter p)) := by
 obtain ⟨i0, hi, hz0, hz1, hz2⟩ := info_parts infoEdge
 have b0 : Below w.heap.size w (w.alloc (Obj.cells #[Value.slice A n c, Value.slice B rs.length d] 27)) := (Below.refl _ _).alloc (Nat.le_refl _) _
 have B0 := Lib.hid b0
 have HB := Lib.hid hB
 have HP := Lib.hid hp
 have hrl : rs.length ≤ 9000000 := by omega
 have HLE := Lib.hid (fun k (hk : k ≤ rs.length) => edgesT_le hk hl)
 have HL := Lib.hid hl
 clear hB hp hl b0
 go_enter Tryz.func55, Tryz.ntmps55
 go_wp2
 go_loopw [5, 13] (fun v i wr => ∃ (k : Nat) (done : List EdgeT), k ≤ rs.length ∧ i = .int .i64 k ∧ Hid (done = (edgesT rs k).filter p) ∧ Edges w v done wr) (fun _ i _ => rs.length - (intOf i).toNat)
 case atStart => exact ⟨0, [], Nat.zero_le _, rfl, Lib.hid rfl, World.ownsRow_nil _ _ _ _, B0.out⟩
 case round =>
  obtain ⟨k, done, hk, rfl, hdone, hN⟩ := hrel
  have HD := Lib.hid hdone.out
  have HN := Lib.hid hN
  clear hdone hN
  by_cases hlt : k < rs.length
  ·obtain ⟨b1, o1, A1, c1, A2, c2, A3, c3, A5, c5, rfl, hbb, g0, g1, g2, g3, g4, g5, g6, _, _, _, _⟩ := (HB.out.below HN.out.2).rule_at hlt
   have HCN := Lib.hid (ncalls_at hlt)
   have HIN := Lib.hid (fun i (hi : i < rs[k].2.2.2.1.length) => (⟨hlt, hi⟩ : ∃ hk : k < rs.length, i < rs[k].2.2.2.1.length))
   have hcl : rs[k].2.2.2.1.length ≤ 9000000 := by
    have h1 := HL.out
    have h2 := szs_mem (sz := szRuleU) (List.getElem_mem hlt)
    simp only [szRuleU] at h2
    omega
   generalize rs[k] = x at *
   obtain ⟨z0, x1, x2, x3, z4, x5, z6⟩ := x
   simp only at g0 g1 g2 g3 g4 g5 g6 hcl HCN HIN
   have hi0 : (0 : Int) ≤ (k : Int) := by omega
   have hi1 : (k : Int) < (rs.length : Int) := by omega
   have HDD := Lib.hid (show Below wr.heap.size wr (wr.alloc (Obj.cells #[Value.string z0, Value.slice A1 x1.length c1, Value.slice A2 x2.length c2, Value.slice A3 x3.length c3, Value.bool z4, Value.slice A5 x5.length c5, Value.string z6] 48)) from (Below.refl _ _).alloc (Nat.le_refl _) _)
   have HD0 := Lib.hid (show done = (edgesT rs k ++ edgesK k 0).filter p by rw [HD.out]; simp [edgesK])
   have HE0 := Lib.hid (show Edges w _ done (wr.alloc (Obj.cells #[Value.string z0, Value.slice A1 x1.length c1, Value.slice A2 x2.length c2, Value.slice A3 x3.length c3, Value.bool z4, Value.slice A5 x5.length c5, Value.string z6] 48)) from HN.out.below HDD.out)
   clear HD HN
   go_wp2
   generalize x3.length = m at *
   go_loopw [5, 21] (fun v i wq => ∃ (j : Nat) (done : List EdgeT), j ≤ m ∧ i = .int .i64 j ∧ Hid (done = (edgesT rs k ++ edgesK k j).filter p) ∧ Edges w v done wq) (fun _ i _ => m - (intOf i).toNat)
   case atStart => exact ⟨0, done, Nat.zero_le _, rfl, HD0, HE0.out⟩
   case round =>
    obtain ⟨j, done, hj, rfl, hdone, hN⟩ := hrel
    have HD := Lib.hid hdone.out
    have HN := Lib.hid hN
    have hdl : done.length ≤ 18000000 := by
     have h1 := HLE.out k (by omega)
     have h2 : ((edgesT rs k ++ edgesK k j).filter p).length ≤ (edgesT rs k ++ edgesK k j).length := List.length_filter_le _ _
     rw [List.length_append, edgesK_len] at h2
     rw [HD.out]
     omega
    clear hdone hN HD0 HE0
    by_cases hlt2 : j < m
    ·have hi2 : (0 : Int) ≤ (j : Int) := by omega
     have hi3 : (j : Int) < (m : Int) := by omega
     have hb1 : Below wr.heap.size wr (wr.alloc (Obj.cells #[Value.int .i64 (k : Int), Value.int .i64 (j : Int)] 50)) := (Below.refl _ _).alloc (Nat.le_refl _) _
     have HC := Lib.hid (HP.out k j _ (HN.out.2.trans (hb1.mono HN.out.2.size)) (HIN.out j hlt2))
     have HST := Lib.hid (show (edgesT rs k ++ edgesK k (j + 1)).filter p = (edgesT rs k ++ edgesK k j).filter p ++ [((k : Int), (j : Int))].filter p by rw [edgesK_succ, ← List.append_assoc, List.filter_append])
     have VE := Lib.hid (Lvar.new wr #[Value.int .i64 (k : Int), Value.int .i64 (j : Int)] 50)
     have HB1 := Lib.hid hb1
     clear hb1
     cases hq : p ((k : Int), (j : Int)) with
     | true =>
      rw [hq] at HC
      have HF := Lib.hid (show done ++ [((k : Int), (j : Int))] = (edgesT rs k ++ edgesK k (j + 1)).filter p by rw [HST.out, HD.out]; simp [hq])
      clear hq HST
      go_upto_region 10 with (go_at_fn F; refine (Calls.mono HC.out) ?_; rintro e w1 ⟨rfl, b1⟩)
      have V1 := VE.out.below b1
      have l0 : w1.cell? ⟨wr.heap.size, 0, none⟩ = some (.int .i64 (k : Int)) := V1.cell 0 _ rfl
      have l1 : w1.cell? ⟨wr.heap.size, 1, none⟩ = some (.int .i64 (j : Int)) := V1.cell 1 _ rfl
      have BW := Lib.hid (below_step HB1.out b1)
      have hown := (HN.out.below BW.out).1.alloc (Obj.cells #[Value.int .i64 (k : Int), Value.int .i64 (j : Int)] 50)
      have RN := Lib.hid (show Row 0 (w1.alloc (Obj.cells #[Value.int .i64 (k : Int), Value.int .i64 (j : Int)] 50)).heap.size (w1.alloc (Obj.cells #[Value.int .i64 (k : Int), Value.int .i64 (j : Int)] 50)) (some ⟨w1.heap.size, 0, none⟩) [.int .i64 (k : Int), .int .i64 (j : Int)] from row_new (heap_alloc_new w1 (Obj.cells #[Value.int .i64 (k : Int), Value.int .i64 (j : Int)] 50)))
      have HOWN := Lib.hid hown
      have hws : w.heap.size ≤ w1.heap.size := Nat.le_trans HN.out.2.size BW.out.size
      clear b1 V1 hown
      go_upto_region 11 with (at_builtin; go_loud (refine wpList_append_rowW rfl _ _ _ rfl 50 i0 (.agg #[.int .i64 0, .int .i64 0]) 2 16 w.heap.size Tryz.underlying37 hi hz0 hz1 hz2 rfl (by decide) _ done.length (ecells done) rfl HOWN.out _ 1 _ [.int .i64 (k : Int), .int .i64 (j : Int)] rfl rfl RN.out (by simp [Value.oneCell']) (by unfold maxLen; omega) (by omega) (by simp; omega) ?_); intro v5 w5 hown5 hgrow hwh)
      have BB : Below w.heap.size w w5 := ((HN.out.2.trans (BW.out.mono HN.out.2.size)).alloc hws (Obj.cells #[Value.int .i64 (k : Int), Value.int .i64 (j : Int)] 50)).grown hgrow (by simp; omega) (fun g e => (HN.out.1.lt g e).1)
      have NN := Lib.hid (show Edges w v5 (done ++ [((k : Int), (j : Int))]) w5 from ⟨by rw [ecells_snoc, List.length_append]; exact hown5, BB⟩)
      clear hown5 hgrow hwh BB
      go_wp2
      go_roundw
      case rel => exact ⟨j + 1, done ++ [((k : Int), (j : Int))], by omega, by go_num, HF, NN.out⟩
      case measure => simp [intOf]; omega
     | false =>
      rw [hq] at HC
      have HF := Lib.hid (show done = (edgesT rs k ++ edgesK k (j + 1)).filter p by rw [HST.out, HD.out]; simp [hq])
      clear hq HST
      go_wp2_with (go_at_fn F; refine (Calls.mono HC.out) ?_; rintro e w1 ⟨rfl, b1⟩)
      have BW := Lib.hid (below_step HB1.out b1)
      have NN := Lib.hid (show Edges w _ done w1 from HN.out.below BW.out)
      clear b1
      go_wp2
      go_roundw
      case rel => exact ⟨j + 1, done, by omega, by go_num, HF, NN.out⟩
      case measure => simp [intOf]; omega
    ·obtain rfl : j = m := by omega
     have HF := Lib.hid (show done = (edgesT rs (k + 1)).filter p by rw [HD.out, edgesT, HCN.out])
     go_wp2
     go_roundw
     case rel => exact ⟨k + 1, done, by omega, by go_num, HF, HN.out⟩
     case measure => simp [intOf]; omega
  ·obtain rfl : k = rs.length := by omega
   have FIN := Lib.hid (edges_own HN.out)
   have HF := Lib.hid (show (edgesA rs).filter p = done from HD.out.symm)
   go_wp2
   go_ret
   rw [HF.out]
   exact FIN.out
end GraphI
end Go.Proofs.YtbbllkhmenpnlaaGreat

/-
  The ends of a call; EdgesOf and InnerEdges of the program (made by tools/s13.py).
-/
namespace Go.Proofs.YtbbllkhmenpnlaaGreat
open Go.RowKit
namespace GraphI
open RowK Mem GraphM ProgM
set_option maxHeartbeats 4000000 in
set_option maxRecDepth 100000 in
theorem callerOf (A B : Option Addr) (n c d : Nat) (rs : List RuleT) (k i : Nat) (w : World) (hB : ArgS rule w B rs.length d rs) (hl : rs.length + szs szRuleU rs ≤ 9000000) (hk : k < rs.length) :
  Calls Tryz.prog 58 #[.agg #[.slice A n c, .slice B rs.length d], .agg #[.int .i64 (k : Int), .int .i64 (i : Int)]] w fun e w' => e = .returned (.string (fromE rs ((k : Int), (i : Int)))) ∧ Below w.heap.size w w' := by
 have hrl : rs.length ≤ 9000000 := by omega
 have b0 : Below w.heap.size w ((w.alloc (Obj.cells #[Value.slice A n c, Value.slice B rs.length d] 27)).alloc (Obj.cells #[Value.int .i64 (k : Int), Value.int .i64 (i : Int)] 50)) := ((Below.refl _ _).alloc (Nat.le_refl _) _).alloc (by simp) _
 obtain ⟨b1, o1, A1, c1, A2, c2, A3, c3, A5, c5, rfl, hbb, g0, g1, g2, g3, g4, g5, g6, _, _, r3, _⟩ := (hB.below b0).rule_at hk
 have HR := Lib.hid (fromE_at (rs := rs) (k := k) (i := (i : Int)) hk)
 have hi0 : (0 : Int) ≤ (k : Int) := by omega
 have hi1 : (k : Int) < (rs.length : Int) := by omega
 have B0 := Lib.hid b0
 clear hB b0 hl g1 g2 g4 g5 g6 g3
 generalize rs[k] = x at *
 go_enter Tryz.func58, Tryz.ntmps58
 go_wp2
 go_ret
 rw [HR.out]
 exact ⟨rfl, B0.out⟩
set_option maxHeartbeats 4000000 in
set_option maxRecDepth 100000 in
theorem calledBy (A B : Option Addr) (n c d : Nat) (rs : List RuleT) (k i : Nat) (w : World) (hB : ArgS rule w B rs.length d rs) (hl : rs.length + szs szRuleU rs ≤ 9000000) (hk : k < rs.length) (hi : i < rs[k].2.2.2.1.length) :
  Calls Tryz.prog 59 #[.agg #[.slice A n c, .slice B rs.length d], .agg #[.int .i64 (k : Int), .int .i64 (i : Int)]] w fun e w' => e = .returned (.string (toE rs ((k : Int), (i : Int)))) ∧ Below w.heap.size w w' := by
 have hrl : rs.length ≤ 9000000 := by omega
 have b0 : Below w.heap.size w ((w.alloc (Obj.cells #[Value.slice A n c, Value.slice B rs.length d] 27)).alloc (Obj.cells #[Value.int .i64 (k : Int), Value.int .i64 (i : Int)] 50)) := ((Below.refl _ _).alloc (Nat.le_refl _) _).alloc (by simp) _
 obtain ⟨b1, o1, A1, c1, A2, c2, A3, c3, A5, c5, rfl, hbb, g0, g1, g2, g3, g4, g5, g6, _, _, r3, _⟩ := (hB.below b0).rule_at hk
 have HR := Lib.hid (toE_at hk hi)
 have hi0 : (0 : Int) ≤ (k : Int) := by omega
 have hi1 : (k : Int) < (rs.length : Int) := by omega
 obtain ⟨b2, o2, G, cg, hA3, hb2, q0, q1, q2, _⟩ := r3.call_at hi
 have hcl : rs[k].2.2.2.1.length ≤ 9000000 := by
  have h2 := szs_mem (sz := szRuleU) (List.getElem_mem hk)
  simp only [szRuleU] at h2
  omega
 subst hA3
 have hj0 : (0 : Int) ≤ (i : Int) := by omega
 have hj1 : (i : Int) < (rs[k].2.2.2.1.length : Int) := by omega
 generalize rs[k].2.2.2.1[i] = y at *
 clear r3 q0 q2
 have B0 := Lib.hid b0
 clear hB b0 hl g1 g2 g4 g5 g6
 generalize rs[k].2.2.2.1.length = m at *
 go_enter Tryz.func59, Tryz.ntmps59
 go_wp2_with fail
 go_quiet (fail)
 go_wp2
 go_ret
 rw [HR.out]
 exact ⟨rfl, below_drewN B0.out _⟩
end GraphI
end Go.Proofs.YtbbllkhmenpnlaaGreat
