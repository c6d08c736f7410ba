import Derived.Test.YtbbllkhmenpnlaaGreatReachS2
/-
  Components, of the model (made by tools/s13c.py).
-/
namespace Go.Proofs.YtbbllkhmenpnlaaGreat
open Go.RowKit
namespace GraphS
open RowK Mem GraphM ProgM
theorem idxAtS {W : World} {R : Option Addr} {cr : Nat} {ss : List ByteArray} (h : ArgS Rep.str W R ss.length cr ss) (nm : ByteArray) (hl : ss.length ≤ 9000000) :
  Calls Tryz.prog 17 #[.slice R ss.length cr, .string nm] W fun e w' => e = .returned (.int .i64 (Lib.idxOfS ss nm)) ∧ W = w' := by
 obtain ⟨q, fp, h9⟩ := h
 exact NameS.specIndex R cr ss nm W (strs_open h9).1 (by omega)
theorem reach_len (q : Bool) (fs : List FunctionT) (G : Arrows) (nm : ByteArray) : (@ite _ (q = true) _ (rchL (names fs) G nm) []).length ≤ fs.length := by
 split
 ·have h := rchL_len (ns := names fs) (G := G) (a := nm)
  unfold names at h ⊢
  rw [List.length_map] at h
  exact h
 ·exact Nat.zero_le _
theorem comp_step (q : Bool) (ns : Nm) (G : Arrows) (nm : ByteArray) : (@ite _ (q = true) _ (rchL ns G nm) []).filter (fun x => decide (0 ≤ Lib.idxOfS (@ite _ (q = true) _ (rchL ns G x) []) nm)) = @ite _ (q = true) _ (compL ns G nm) [] := by
 cases q with
 | false => simp
 | true =>
  simp only [if_true]
  exact compL_of (fun x _ => by rw [decide_eq_true_iff]; exact Lib.idxOfS_nonneg_iff _ _)
def CompR (w _w0 w1 : World) (PV : Array Value) (X : Option Addr) (cx : Nat) (T : List ByteArray) (v : Value) (done : List ByteArray) (wq : World) : Prop :=
 NamesB w (w.heap.size + 1) PV v done wq ∧ OwnS Rep.str (w.heap.size + 1 + 1) w1.heap.size wq X T.length cx T ∧ ∀ g, v.ownBlock = some g → g = w.heap.size + 1 ∨ w1.heap.size ≤ g
theorem CompR.below {w w0 w1 wq w' : World} {PV : Array Value} {X : Option Addr} {cx : Nat} {T : List ByteArray} {v : Value} {done : List ByteArray} (h : CompR w w0 w1 PV X cx T v done wq) (hb : Below wq.heap.size wq w') : CompR w w0 w1 PV X cx T v done w' := ⟨h.1.below hb, OwnS.below h.2.1 hb, h.2.2⟩
theorem CompR.grow {w w0 w1 wq w2 w5 : World} {PV : Array Value} {X : Option Addr} {cx : Nat} {T : List ByteArray} {v v5 : Value} {done : List ByteArray} {e : ByteArray} (h : CompR w w0 w1 PV X cx T v done wq) (hb : Below wq.heap.size wq w2) (hg : w2.grownBy w5 v.ownBlock) (ho : w5.ownsRow (w.heap.size + 1) 9 1 v5 (done.length + 1) (done.map Value.string ++ [.string e]))
  (hw : v5.ownBlock = v.ownBlock ∨ ∀ g, v5.ownBlock = some g → w2.heap.size ≤ g) : CompR w w0 w1 PV X cx T v5 (done ++ [e]) w5 := by
 obtain ⟨h1, h2, h3⟩ := h
 refine ⟨h1.grow (Nat.le_refl _) hb hg ho, ownS_grown (OwnS.below h2 hb) hg (fun g hg' => by have := h3 g hg'; omega), fun g hg' => ?_⟩
 rcases hw with hw | hw
 ·exact h3 g (by rw [← hw]; exact hg')
 ·have h8 := h2.1
  have h7 := hb.size
  have h6 := hw g hg'
  omega
set_option maxHeartbeats 4000000 in
set_option maxRecDepth 100000 in
theorem l13Component (A B : Option Addr) (c d : Nat) (fs : List FunctionT) (rs : List RuleT) (nm : ByteArray) (w : World) (hA : ArgS Mem.fn w A fs.length c fs) (hB : ArgS rule w B rs.length d rs) (hl : szProgramU (fs, rs) ≤ 9000000) :
  Calls Tryz.prog 50 #[.agg #[.slice A fs.length c, .slice B rs.length d], .string nm] w (ProgI.GaveS w (@ite _ (progV fs rs = true) _ (compL (names fs) (arrows rs) nm) [])) := by
 obtain ⟨i0, hi, hz0, hz1, hz2⟩ := info_parts strInfoU
 have b0 : Below w.heap.size w ((w.alloc (Obj.cells #[Value.slice A fs.length c, Value.slice B rs.length d] 27)).alloc (Obj.cells #[] 9)) := ((Below.refl _ _).alloc (Nat.le_refl _) _).alloc (by simp) _
 have V0 := (Lvar.new w #[Value.slice A fs.length c, Value.slice B rs.length d] 27).alloc (Obj.cells #[] 9)
 have E0 : ((w.alloc (Obj.cells #[Value.slice A fs.length c, Value.slice B rs.length d] 27)).alloc (Obj.cells #[] 9)).heap[w.heap.size + 1]? = some (Obj.cells #[] 9 (0, 0)) := by
  have h9 := heap_alloc_new (w.alloc (Obj.cells #[Value.slice A fs.length c, Value.slice B rs.length d] 27)) (Obj.cells #[] 9)
  simp only [World.size_alloc] at h9
  exact h9
 have HE0 := Lib.hid (show NamesB w (w.heap.size + 1) #[Value.slice A fs.length c, Value.slice B rs.length d] _ [] _ from ⟨ProgS.own_none (size := 1) E0 (Nat.le_refl _), b0, V0, by simp⟩)
 have R0 := Lib.hid (reachableFrom A B c d fs rs nm _ (hA.below b0) (hB.below b0) hl)
 have REA := Lib.hid (fun x W (h : Below w.heap.size w W) => reachableFrom A B c d fs rs x W (hA.below h) (hB.below h) hl)
 have hfs : fs.length ≤ 9000000 := by simp only [szProgramU] at hl; omega
 have hns := Nat.le_trans (reach_len (progV fs rs) fs (arrows rs) nm) hfs
 have HNX := Lib.hid (fun x => Nat.le_trans (reach_len (progV fs rs) fs (arrows rs) x) hfs)
 have HF := Lib.hid (comp_step (progV fs rs) (names fs) (arrows rs) nm)
 obtain ⟨Z, hZ⟩ : ∃ Z, Z = @ite _ (progV fs rs = true) _ (compL (names fs) (arrows rs) nm) [] := ⟨_, rfl⟩
 rw [← hZ] at HF ⊢
 clear hZ
 generalize (@ite _ (progV fs rs = true) _ (rchL (names fs) (arrows rs) nm) []) = T at *
 clear hA hB b0 V0 E0 hl hfs
 go_enter Tryz.func50, Tryz.ntmps50
 go_wp2_with fail
 refine (Calls.mono R0.out) ?_
 rintro e w1 ⟨X, cx, rfl, oX, b1⟩
 simp only [World.size_alloc] at oX
 have C0 := Lib.hid (show CompR w w w1 #[Value.slice A fs.length c, Value.slice B rs.length d] X cx T _ [] w1 from ⟨HE0.out.below b1, oX, fun g hg => Or.inl (by injection hg with hg; exact hg.symm)⟩)
 clear b1 oX HE0
 go_wp2
 go_loopw [5, 7] (fun v i wr => ∃ (k : Nat) (done : List ByteArray), k ≤ T.length ∧ i = .int .i64 k ∧ Hid (done = (T.take k).filter (fun x => decide (0 ≤ Lib.idxOfS (@ite _ (progV fs rs = true) _ (rchL (names fs) (arrows rs) x) []) nm))) ∧ CompR w w w1 #[Value.slice A fs.length c, Value.slice B rs.length d] X cx T v done wr) (fun _ i _ => T.length - (intOf i).toNat)
 case atStart => exact ⟨0, [], Nat.zero_le _, rfl, Lib.hid rfl, C0.out⟩
 case round =>
  obtain ⟨k, done, hk, rfl, hdone, hN⟩ := hrel
  have HD := Lib.hid hdone.out
  have HC := Lib.hid hN
  have hdl : done.length ≤ 9000000 := by
   rw [HD.out]
   have h2 := List.length_filter_le (fun x => decide (0 ≤ Lib.idxOfS (@ite _ (progV fs rs = true) _ (rchL (names fs) (arrows rs) x) []) nm)) (T.take k)
   rw [List.length_take] at h2
   omega
  have hbs := hN.1.2.2.2
  clear hdone hN C0
  by_cases hlt : k < T.length
  ·obtain ⟨qx, fpx, hx9⟩ := HC.out.2.1.arg
   obtain ⟨bx, ox, rfl, hbx, hcx⟩ := (strs_open hx9).1.at_ hlt
   have HST := Lib.hid (show (T.take (k + 1)).filter (fun x => decide (0 ≤ Lib.idxOfS (@ite _ (progV fs rs = true) _ (rchL (names fs) (arrows rs) x) []) nm)) = done ++ [T[k]].filter (fun x => decide (0 ≤ Lib.idxOfS (@ite _ (progV fs rs = true) _ (rchL (names fs) (arrows rs) x) []) nm)) by rw [take_snoc hlt, List.filter_append, HD.out])
   generalize T[k] = x at *
   have hi0 : (0 : Int) ≤ (k : Int) := by omega
   have hi1 : (k : Int) < (T.length : Int) := by omega
   have VP := HC.out.1.2.2.1
   have hbw := HC.out.1.2.1
   have p0 : wr.cell? ⟨w.heap.size, 0, none⟩ = some (.slice A fs.length c) := VP.cell 0 _ rfl
   have p1 : wr.cell? ⟨w.heap.size, 1, none⟩ = some (.slice B rs.length d) := VP.cell 1 _ rfl
   have KS := Lib.hid (fun (W : World) (h : Below wr.heap.size wr W) => (⟨(VP.below h).cell 0 _ rfl, (VP.below h).cell 1 _ rfl, (h.cell (p := ⟨bx, ox + k, none⟩) hbx).trans hcx⟩ : W.cell? ⟨w.heap.size, 0, none⟩ = some (Value.slice A fs.length c) ∧ W.cell? ⟨w.heap.size, 1, none⟩ = some (Value.slice B rs.length d) ∧ W.cell? ⟨bx, ox + k, none⟩ = some (Value.string x)))
   have RE := Lib.hid (fun (W : World) (h : Below wr.heap.size wr W) => REA.out x W (below_step hbw h))
   have hns9 := HNX.out x
   have D0 := Lib.hid (Below.refl wr.heap.size wr).drew
   have D0r := Lib.hid (Below.refl wr.heap.size wr)
   obtain ⟨q, hq⟩ : ∃ q : Bool, q = decide (0 ≤ Lib.idxOfS (@ite _ (progV fs rs = true) _ (rchL (names fs) (arrows rs) x) []) nm) := ⟨_, rfl⟩
   have HQ := Lib.hid hq
   have HST := Lib.hid (show (T.take (k + 1)).filter (fun x => decide (0 ≤ Lib.idxOfS (@ite _ (progV fs rs = true) _ (rchL (names fs) (arrows rs) x) []) nm)) = done ++ (if q = true then [x] else []) by rw [HST.out, hq]; cases h9 : decide (0 ≤ Lib.idxOfS (@ite _ (progV fs rs = true) _ (rchL (names fs) (arrows rs) x) []) nm) <;> simp [h9])
   clear hq hx9 VP hbw
   go_upto_region 6 with fail
   go_cut [26] (fun s wx => s = .bool q ∧ Below wr.heap.size wr wx)
   case first =>
    generalize (@ite _ (progV fs rs = true) _ (rchL (names fs) (arrows rs) x) []) = U at *
    refine wp_region_held_drew (S := (fun W => W.cell? ⟨w.heap.size, 0, none⟩ = some (Value.slice A fs.length c) ∧ W.cell? ⟨w.heap.size, 1, none⟩ = some (Value.slice B rs.length d) ∧ W.cell? ⟨bx, ox + k, none⟩ = some (Value.string x))) (by kernel_rfl) ?_ (fun hHeld => ?_)
    ·(try dsimp only); first | exact KS.out _ D0.out | exact KS.out _ D0r.out
    refine wpAnyH_take (i := 0) (oi := { dst := some 18, op := Op.load 27 (Operand.tmp 2), type := 27, pos := "l13_graph.go:58", after := #[], guard := none }) (v := ?v7_0) rfl (by kernel_rfl) (by kernel_rfl) (by kernel_rfl) (fun _ _ _ h => h) (Or.inl ⟨by rfl, ?hy7_0⟩) (by assumption) ?r7_0
    case hy7_0 => (intro w hSw; (try dsimp only at hSw); go_simp; try (with_reducible rfl))
    (try simp only [Act.put, zA, zB, zC])
    refine wpAnyH_take (i := 1) (oi := { dst := some 19, op := Op.move (Operand.tmp 6), type := 31, pos := "l13_graph.go:58", after := #[], guard := none }) (v := ?v7_1) rfl (by kernel_rfl) (by kernel_rfl) (by kernel_rfl) (fun _ _ _ h => h) (Or.inl ⟨by rfl, ?hy7_1⟩) (by assumption) ?r7_1
    case hy7_1 => (intro w hSw; (try dsimp only at hSw); go_simp; try (with_reducible rfl))
    (try simp only [Act.put, zA, zB, zC])
    refine wpAnyH_take (i := 2) (oi := { dst := some 20, op := Op.move (Operand.tmp 7), type := 3, pos := "l13_graph.go:58", after := #[], guard := none }) (v := ?v7_2) rfl (by kernel_rfl) (by kernel_rfl) (by kernel_rfl) (fun _ _ _ h => h) (Or.inl ⟨by rfl, ?hy7_2⟩) (by assumption) ?r7_2
    case hy7_2 => (intro w hSw; (try dsimp only at hSw); go_simp; try (with_reducible rfl))
    (try simp only [Act.put, zA, zB, zC])
    refine wpAnyH_take (i := 3) (oi := { dst := some 21, op := Op.indexAddr 31 (Operand.tmp 19) (Operand.tmp 20), type := 0, pos := "l13_graph.go:58", after := #[{ on := 1, ground := Ground.data }, { on := 2, ground := Ground.data }], guard := none }) (v := ?v7_3) rfl (by kernel_rfl) (by kernel_rfl) (by kernel_rfl) (fun _ _ _ h => h) (Or.inl ⟨by rfl, ?hy7_3⟩) (by assumption) ?r7_3
    case hy7_3 => (intro w hSw; (try dsimp only at hSw); go_simp; try (with_reducible rfl))
    (try simp only [Act.put, zA, zB, zC])
    refine wpAnyH_take (i := 4) (oi := { dst := some 22, op := Op.load 9 (Operand.tmp 21), type := 9, pos := "l13_graph.go:58", after := #[{ on := 3, ground := Ground.data }], guard := none }) (v := ?v7_4) rfl (by kernel_rfl) (by kernel_rfl) (by kernel_rfl) (fun _ _ _ h => h) (Or.inl ⟨by rfl, ?hy7_4⟩) (by assumption) ?r7_4
    case hy7_4 => (intro w hSw; (try dsimp only at hSw); go_simp; try (with_reducible rfl))
    (try simp only [Act.put, zA, zB, zC])
    refine wpAnyH_take (i := 6) (oi := { dst := some 24, op := Op.move (Operand.tmp 1), type := 9, pos := "l13_graph.go:58", after := #[], guard := none }) (v := ?v7_6) rfl (by kernel_rfl) (by kernel_rfl) (by kernel_rfl) (fun _ _ _ h => h) (Or.inl ⟨by rfl, ?hy7_6⟩) (by assumption) ?r7_6
    case hy7_6 => (intro w hSw; (try dsimp only at hSw); go_simp; try (with_reducible rfl))
    (try simp only [Act.put, zA, zB, zC])
    refine wpAnyH_ready (rs := [5]) (by kernel_rfl) (by simp) ?_
    refine AllReadyH.cons (o := { dst := some 23, op := Op.call { callee := Callee.value (Operand.func 34), args := #[Operand.tmp 18, Operand.tmp 22], argTypes := #[27, 9] }, type := 31, pos := "l13_graph.go:58", after := #[{ on := 0, ground := Ground.data }, { on := 4, ground := Ground.data }], guard := none }) rfl (fun K hK => ?_) AllReadyH.nil
    go_simp
    go_at_call 34; (with_reducible refine (Calls.mono (RE.out _ D0.out)) ?_); rintro e w1 ⟨R9, cr, rfl, oR, b1⟩; (have D1 := Lib.hid (below_step D0.out b1)); (have IX := Lib.hid (idxAtS oR.arg nm hns9)); clear b1 oR
    refine hK.out _ _ ?_ (fun hHeld2 => ?_)
    ·(try dsimp only); exact KS.out _ D1.out
    clear hK K
    (try simp only [Act.put, zA, zB, zC])
    refine wpAnyH_ready (rs := [7]) (by kernel_rfl) (by simp) ?_
    refine AllReadyH.cons (o := { dst := some 25, op := Op.call { callee := Callee.value (Operand.func 17), args := #[Operand.tmp 23, Operand.tmp 24], argTypes := #[31, 9] }, type := 3, pos := "l13_graph.go:58", after := #[{ on := 5, ground := Ground.data }, { on := 6, ground := Ground.data }, { on := 5, ground := Ground.chain }], guard := none }) rfl (fun K hK => ?_) AllReadyH.nil
    go_simp
    go_at_call 17; (with_reducible refine (Calls.mono (IX.out)) ?_); rintro e w9 ⟨rfl, rfl⟩
    refine hK.out _ _ ?_ (fun hHeld2 => ?_)
    ·(try dsimp only); exact KS.out _ D1.out
    clear hK K
    (try simp only [Act.put, zA, zB, zC])
    refine wpAnyH_take (i := 8) (oi := { dst := some 26, op := Op.binOp BinOp.geq 3 (Operand.tmp 25) (Operand.const (Value.int IntKind.i64 0)) 3, type := 4, pos := "l13_graph.go:58", after := #[{ on := 7, ground := Ground.data }], guard := none }) (v := ?v7_8) rfl (by kernel_rfl) (by kernel_rfl) (by kernel_rfl) (fun _ _ _ h => h) (Or.inl ⟨by rfl, ?hy7_8⟩) (by assumption) ?r7_8
    case hy7_8 => (intro w hSw; (try dsimp only at hSw); go_simp; try (with_reducible rfl))
    (try simp only [Act.put, zA, zB, zC])
    refine wpAnyH_done (by kernel_rfl) ?_ _
    all_goals
     go_wp2_with fail
     go_meet
     exact ⟨by rw [HQ.out], by first | exact D1.out | exact D1.out.drew⟩
   case rest =>
    obtain ⟨rfl, hbx2⟩ := hcut
    have HBX := Lib.hid hbx2
    have q2 := (KS.out wc hbx2).2.2
    have hsx := hbx2.size
    clear hbx2 p0 p1 hcx RE D0 D0r KS
    cases q with
    | true =>
     have HFx := Lib.hid (show done ++ [x] = (T.take (k + 1)).filter (fun x => decide (0 ≤ Lib.idxOfS (@ite _ (progV fs rs = true) _ (rchL (names fs) (arrows rs) x) []) nm)) by rw [HST.out]; rfl)
     have HO := Lib.hid ((HC.out.below HBX.out).1.1.alloc (Obj.cells #[Value.string x] 9))
     have RN := Lib.hid (show Row 0 (wc.alloc (Obj.cells #[Value.string x] 9)).heap.size (wc.alloc (Obj.cells #[Value.string x] 9)) (some ⟨wc.heap.size, 0, none⟩) [.string x] from row_new (heap_alloc_new wc (Obj.cells #[Value.string x] 9)))
     have hb1 := Lib.hid (show Below wc.heap.size wc (wc.alloc (Obj.cells #[Value.string x] 9)) from (Below.refl _ _).alloc (Nat.le_refl _) _)
     go_upto_region 5 with (at_builtin; go_loud (refine wpList_append_rowW rfl _ _ _ rfl 9 i0 (.string ByteArray.empty) 1 16 (w.heap.size + 1) Tryz.underlying31 hi hz0 hz1 hz2 rfl (by decide) _ done.length (done.map Value.string) rfl HO.out _ 1 _ [.string x] rfl rfl RN.out (by simp [Value.oneCell']) (by unfold maxLen; omega) (by omega) (by simp; omega) ?_); intro v5 w5 hown5 hgrow hwh)
     have NN := Lib.hid ((HC.out.below HBX.out).grow hb1.out hgrow hown5 hwh)
     clear hown5 hgrow hwh q2
     go_wp2
     go_roundw
     case rel => exact ⟨k + 1, done ++ [x], by omega, by go_num, HFx, NN.out⟩
     case measure => simp [intOf]; omega
    | false =>
     have HFx := Lib.hid (show done = (T.take (k + 1)).filter (fun x => decide (0 ≤ Lib.idxOfS (@ite _ (progV fs rs = true) _ (rchL (names fs) (arrows rs) x) []) nm)) by rw [HST.out]; simp)
     have NN := Lib.hid (HC.out.below HBX.out)
     go_wp2
     go_roundw
     case rel => exact ⟨k + 1, done, by omega, by go_num, HFx, NN.out⟩
     case measure => simp [intOf]; omega
  ·obtain rfl : k = T.length := by omega
   have FIN := Lib.hid (HC.out.1.gave (Nat.le_refl _))
   have HFF := Lib.hid (show Z = done by rw [← HF.out, HD.out, List.take_length])
   go_wp2
   go_ret
   rw [HFF.out]
   exact FIN.out
end GraphS
end Go.Proofs.YtbbllkhmenpnlaaGreat
