import Derived.Test.YtbbllkhmenpnlaaGreatArgImpl2
import Derived.Test.YtbbllkhmenpnlaaGreatSortSpec1
import Derived.Test.YtbbllkhmenpnlaaGreatNameOps
import Derived.Laws.AppendOwn
/-
  The names of an argument, of the program and of the model.
-/
namespace Go.Proofs.YtbbllkhmenpnlaaGreat
open Go.RowKit
namespace ArgI
open RowK Mem ArgM

def nmT (ts : List (Int × ByteArray)) : List ByteArray := ts.map (·.2)
def nmS (xs : List SumT) : List ByteArray := xs.flatMap fun x => nmT x.2
def nmA (xs : List SumT) (s : ByteArray) : List ByteArray := nmS xs ++ (if s.size = 0 then [] else [s])
theorem nmT_snoc (ts : List (Int × ByteArray)) (t : Int × ByteArray) : nmT (ts ++ [t]) = nmT ts ++ [t.2] := by simp [nmT]
theorem nmS_snoc (xs : List SumT) (x : SumT) : nmS (xs ++ [x]) = nmS xs ++ nmT x.2 := by simp [nmS]
theorem nmT_len (ts : List (Int × ByteArray)) : (nmT ts).length = ts.length := by simp [nmT]
theorem nmS_len : ∀ xs : List SumT, (nmS xs).length = szs ssl xs
 | [] => rfl
 | x :: xs => by
  rw [szs_cons, ← nmS_len xs]
  simp [nmS, nmT, ssl]
theorem stringInfo9 : (Tryz.prog.info? 9).map (fun i => (i.zero, i.size, i.bytes)) = some (some (.string ByteArray.empty), 1, 16) := by kernel_rfl
theorem nmA_len (xs : List SumT) (s : ByteArray) (h : xs.length + szs ssl xs ≤ 10000000) : (nmA xs s).length ≤ 100000000 := by
 unfold nmA
 rw [List.length_append, nmS_len]
 split <;> simp <;> omega
def Names9 (w : World) (c : Nat) (A : Option Addr) (p : Bool) (s : ByteArray) (n : Nat) (v : Value) (ss : List ByteArray) (wr : World) : Prop :=
 wr.ownsRow (w.heap.size + 1) 9 1 v ss.length (ss.map Value.string) ∧ Below w.heap.size w wr ∧ Lvar wr w.heap.size #[Value.bool p, Value.slice A n c, Value.string s]
theorem own_grow {w wr w1 : World} {c n : Nat} {A : Option Addr} {p : Bool} {s t : ByteArray} {v v1 : Value} {ss : List ByteArray} (h : Names9 w c A p s n v ss wr) {T : TypeId} {cs : Array Value}
  (ho : w1.ownsRow (w.heap.size + 1) 9 1 v1 (ss.length + 1) (ss.map Value.string ++ [.string t])) (hg : (wr.alloc (.cells cs T)).grownBy w1 v.ownBlock) : Names9 w c A p s n v1 (ss ++ [t]) w1 := by
 obtain ⟨h1, h2, h3⟩ := h
 have hs := h2.size
 refine ⟨by simpa using ho, (h2.alloc hs _).grown hg (by simp; omega) (fun j hj => by have := (h1.lt j hj).1; omega), ?_⟩
 exact Mem.lvar_grown (h3.alloc _) hg (fun e => by have := (h1.lt _ e).1; omega)
theorem Names9.alloc {w wr : World} {c n : Nat} {A : Option Addr} {p : Bool} {s : ByteArray} {v : Value} {ss : List ByteArray} (h : Names9 w c A p s n v ss wr) (o : Obj) : Names9 w c A p s n v ss (wr.alloc o) :=
 ⟨h.1.alloc _, h.2.1.alloc h.2.1.size _, h.2.2.alloc o⟩

set_option maxHeartbeats 2000000 in
set_option maxRecDepth 100000 in
theorem names (p : Bool) (s : ByteArray) (A : Option Addr) (c : Nat) (xs : List SumT) (w : World) (hA : ArgS Mem.sum w A xs.length c xs) (hl : xs.length + szs ssl xs ≤ 10000000) :
  Calls Tryz.prog 178 #[.agg #[.bool p, .slice A xs.length c, .string s]] w (StrK.Gave w (SortM.srtB (nmA xs s))) := by
 obtain ⟨i0, hi, hz0, hz1, hz2⟩ := info_parts stringInfo9
 have HL := Lib.hid hl
 have HA := Lib.hid hA
 have hxl : xs.length ≤ 10000000 := by omega
 have HSO := Lib.hid (fun (B : Option Addr) (d : Nat) (ss : List ByteArray) (W : World) (h : StrK.SRow W B ss) (h2 : ss.length ≤ 100000000) => NameS.implSort B d ss W h (by omega))
 have N0 := Lib.hid (show Names9 w c A p s xs.length (.slice none 0 0) [] (w.alloc (Obj.cells #[Value.bool p, Value.slice A xs.length c, Value.string s] 46)) from ⟨World.ownsRow_nil _ _ _ _, (Below.refl _ _).alloc (Nat.le_refl _) _, Lvar.new w _ _⟩)
 have hse := str_empty s
 clear hA hl
 go_enter Tryz.func178, Tryz.ntmps178
 go_wp2
 go_loopw [3, 11] (fun v i wr => ∃ (k : Nat) (done : List ByteArray), k ≤ xs.length ∧ i = .int .i64 k ∧ Hid (done = nmS (xs.take k)) ∧ Names9 w c A p s xs.length v done wr) (fun _ i _ => xs.length - (intOf i).toNat)
 case atStart => exact ⟨0, [], Nat.zero_le _, rfl, Lib.hid rfl, N0.out⟩
 case round =>
  obtain ⟨k, done, hk, rfl, hdone, hN⟩ := hrel
  have hdl : done.length ≤ 10000000 := by
   rw [hdone.out, nmS_len]
   have := szs_take (sz := ssl) xs k
   have := HL.out
   omega
  have HN := Lib.hid hN
  have HD := Lib.hid hdone.out
  have a1 := hN.2.2.cell 1 (.slice A xs.length c) rfl
  have a2 := hN.2.2.cell 2 (.string s) rfl
  have hsz := hN.2.1.size
  have hsz1 := hN.2.2.lt
  clear hN N0 hdone
  by_cases hlt : k < xs.length
  ·obtain ⟨b, o, B, d, rfl, hbb, c0w, c1w, hts⟩ := HA.out.sum_at hlt
   have hs9 := sum_len hlt (Nat.le_trans HL.out (by omega))
   have HST := Lib.hid (show nmS (xs.take (k + 1)) = nmS (xs.take k) ++ nmT xs[k].2 by rw [take_snoc hlt, nmS_snoc])
   have HLT := Lib.hid (show (nmS (xs.take (k + 1))).length ≤ 10000000 by
    rw [nmS_len]
    have := szs_take (sz := ssl) xs (k + 1)
    have := HL.out
    omega)
   rw [HST.out] at HLT
   generalize xs[k] = x at *
   obtain ⟨z, ts⟩ := x
   simp only at c0w c1w hs9 hts
   have HTS := Lib.hid hts
   have HC1 := Lib.hid (fun W (h : Below w.heap.size w W) => (h.cell (p := ⟨b, o + k * 2 + 1, none⟩) hbb).trans c1w)
   have c0 := (HN.out.2.1.cell (p := ⟨b, o + k * 2, none⟩) hbb).trans c0w
   have c1 := HC1.out _ HN.out.2.1
   have hbr : b < wr.heap.size := by omega
   have hi0 : (0 : Int) ≤ (k : Int) := by omega
   have hi1 : (k : Int) < (xs.length : Int) := by omega
   clear c0w c1w hts
   have N1 := Lib.hid (HN.out.alloc (Obj.cells #[Value.int .i64 z, Value.slice B ts.length d] 101))
   go_wp2
   go_loopw [3, 18] (fun v j wq => ∃ (m : Nat) (dn : List ByteArray), m ≤ ts.length ∧ j = .int .i64 m ∧ Hid (dn = nmS (xs.take k) ++ nmT (ts.take m)) ∧ Names9 w c (some ⟨b, o, none⟩) p s xs.length v dn wq) (fun _ j _ => ts.length - (intOf j).toNat)
   case atStart => exact ⟨0, done, Nat.zero_le _, rfl, Lib.hid (by rw [HD.out]; simp [nmT]), N1.out⟩
   case round =>
    obtain ⟨m, dn, hm, rfl, hdn, hN⟩ := hrel
    have HDN := Lib.hid hdn.out
    have hdl2 : dn.length ≤ 10000000 := by
     have h1 := HDN.out
     have h2 := HLT.out
     rw [h1, List.length_append, nmT_len, List.length_take]
     rw [List.length_append, nmT_len] at h2
     omega
    have HN2 := Lib.hid hN
    have q1 := hN.2.2.cell 1 (.slice (some ⟨b, o, none⟩) xs.length c) rfl
    have hsz2 := hN.2.1.size
    have hsz3 := hN.2.2.lt
    have cq := HC1.out _ hN.2.1
    clear hN hdn
    by_cases hmt : m < ts.length
    ·obtain ⟨b2, o2, rfl, hbb2, d0, d1⟩ := (HTS.out.below HN2.out.2.1).term_at hmt
     have HTT := Lib.hid (show nmS (xs.take k) ++ nmT (ts.take (m + 1)) = dn ++ [ts[m].2] by rw [take_snoc hmt, nmT_snoc, HDN.out, List.append_assoc])
     generalize ts[m] = y at *
     obtain ⟨u, nm⟩ := y
     simp only at d0 d1 HTT
     have hj0 : (0 : Int) ≤ (m : Int) := by omega
     have hj1 : (m : Int) < (ts.length : Int) := by omega
     have N3 := Lib.hid (HN2.out.alloc (Obj.cells #[Value.int .i64 u, Value.string nm] 161))
     have T3 := Lib.hid (Lvar.new wr #[Value.int .i64 u, Value.string nm] 161)
     go_upto_region 8 with fail
     generalize wr.alloc (Obj.cells #[Value.int .i64 u, Value.string nm] 161) = w3 at *
     have hown := N3.out.1
     have t3 := T3.out.cell 1 (.string nm) rfl
     have hs3 := N3.out.2.1.size
     go_wp2_with (at_builtin; refine wpList_append_own _ rfl (.tmp 22) (.tmp 25) 31 rfl (w.heap.size + 1) 9 i0 (.string ByteArray.empty) 1 16 Tryz.underlying31 hi hz0 hz1 hz2 rfl (by decide) _ _ _ rfl (hown.alloc _) ⟨w3.heap.size, 0, none⟩ 1 1 [.string nm] rfl rfl (cell_one_new _ _ _) (by simp [Value.oneCell']) (by unfold maxLen; omega) (by omega) (by have := N3.out.2.2.lt; simp; omega) ?_; intro v1 w1 hown1 hgrow _)
     have NN := Lib.hid (own_grow N3.out hown1 hgrow)
     clear hown1 hgrow hown
     go_wp2
     go_roundw
     case rel => exact ⟨m + 1, dn ++ [nm], by omega, by go_num, Lib.hid HTT.out.symm, NN.out⟩
     case measure => simp [intOf]; omega
    ·obtain rfl : m = ts.length := by omega
     have HF := Lib.hid (show dn = nmS (xs.take (k + 1)) by rw [HDN.out, HST.out, List.take_length])
     go_wp2
     go_roundw
     case rel => exact ⟨k + 1, dn, by omega, by go_num, HF, HN2.out⟩
     case measure => simp [intOf]; omega
  ·obtain rfl : k = xs.length := by omega
   have HF := Lib.hid (show done = nmS xs by rw [HD.out, List.take_length])
   by_cases h2 : s.size = 0
   ·rw [decide_eq_true h2] at hse
    have HR := Lib.hid (show done = nmA xs s by rw [HF.out, nmA, if_pos h2, List.append_nil])
    obtain ⟨A2, cap, rfl, hr, hf, hg, hcp⟩ := StrK.of_own HN.out.1
    have HS := Lib.hid (HSO.out A2 cap done wr hr (by omega))
    have HB := Lib.hid HN.out.2.1
    clear hr hf hg
    go_wp2_with fail
    refine (Calls.mono HS.out) ?_
    rintro e w1 ⟨G, cg, rfl, g1, g2, b1, g4, g5⟩
    have F := Lib.hid (show StrK.Gave w (SortM.srtB done) (.returned (.slice G (SortM.srtB done).length cg)) w1 from ⟨G, cg, rfl, g1, g2, HB.out.trans (b1.mono HB.out.size), fun a e => Nat.le_trans HB.out.size (g4 a e), g5⟩)
    clear g1 g2 b1 g4
    go_wp2
    go_ret
    rw [← HR.out]
    exact F.out
   ·rw [decide_eq_false h2] at hse
    have HR := Lib.hid (show done ++ [s] = nmA xs s by rw [HF.out, nmA, if_neg h2])
    have hown := HN.out.1
    go_wp2_with (at_builtin; refine wpList_append_own _ rfl (.tmp 32) (.tmp 35) 31 rfl (w.heap.size + 1) 9 i0 (.string ByteArray.empty) 1 16 Tryz.underlying31 hi hz0 hz1 hz2 rfl (by decide) _ _ _ rfl (hown.alloc _) ⟨wr.heap.size, 0, none⟩ 1 1 [.string s] rfl rfl (cell_one_new _ _ _) (by simp [Value.oneCell']) (by unfold maxLen; omega) (by omega) (by simp; omega) ?_; intro v1 w1 hown1 hgrow _)
    have NN := Lib.hid (own_grow HN.out hown1 hgrow)
    clear hown1 hgrow hown
    obtain ⟨A2, cap, rfl, hr, hf, hg, hcp⟩ := StrK.of_own NN.out.1
    have HS := Lib.hid (HSO.out A2 cap (done ++ [s]) w1 hr (by simp; omega))
    have HB := Lib.hid NN.out.2.1
    clear hr hf hg
    go_wp2_with fail
    refine (Calls.mono HS.out) ?_
    rintro e w2 ⟨G, cg, rfl, g1, g2, b1, g4, g5⟩
    have F := Lib.hid (show StrK.Gave w (SortM.srtB (done ++ [s])) (.returned (.slice G (SortM.srtB (done ++ [s])).length cg)) w2 from ⟨G, cg, rfl, g1, g2, HB.out.trans (b1.mono HB.out.size), fun a e => Nat.le_trans HB.out.size (g4 a e), g5⟩)
    clear g1 g2 b1 g4
    go_wp2
    go_ret
    rw [← HR.out]
    exact F.out

set_option maxHeartbeats 2000000 in
set_option maxRecDepth 100000 in
theorem namesS (p : Bool) (s : ByteArray) (A : Option Addr) (c : Nat) (xs : List SumT) (w : World) (hA : ArgS Mem.sum w A xs.length c xs) (hl : xs.length + szs ssl xs ≤ 10000000) :
  Calls Tryz.prog 142 #[.agg #[.bool p, .slice A xs.length c, .string s]] w (StrK.Gave w (SortM.srtB (nmA xs s))) := by
 obtain ⟨i0, hi, hz0, hz1, hz2⟩ := info_parts stringInfo9
 have HL := Lib.hid hl
 have HA := Lib.hid hA
 have hxl : xs.length ≤ 10000000 := by omega
 have HSO := Lib.hid (fun (B : Option Addr) (d : Nat) (ss : List ByteArray) (W : World) (h : StrK.SRow W B ss) (h2 : ss.length ≤ 100000000) => NameS.specSort B d ss W h h2)
 have N0 := Lib.hid (show Names9 w c A p s xs.length (.slice (some ⟨w.heap.size + 1, 0, none⟩) 0 0) [] ((w.alloc (Obj.cells #[Value.bool p, Value.slice A xs.length c, Value.string s] 46)).alloc (Obj.cells #[] 9)) from ⟨⟨by simp, Or.inr ⟨_, 0, #[], rfl, Nat.le_refl _, by simpa using heap_alloc_new (w.alloc (Obj.cells #[Value.bool p, Value.slice A xs.length c, Value.string s] 46)) (Obj.cells #[] 9), by simp, by simp, by simp, by simp⟩⟩, ((Below.refl _ _).alloc (Nat.le_refl _) _).alloc (by simp) _, (Lvar.new w _ _).alloc _⟩)
 have hse := str_empty s
 clear hA hl
 go_enter Tryz.func142, Tryz.ntmps142
 go_wp2
 go_loopw [3, 4] (fun v i wr => ∃ (k : Nat) (done : List ByteArray), k ≤ xs.length ∧ i = .int .i64 k ∧ Hid (done = nmS (xs.take k)) ∧ Names9 w c A p s xs.length v done wr) (fun _ i _ => xs.length - (intOf i).toNat)
 case atStart => exact ⟨0, [], Nat.zero_le _, rfl, Lib.hid rfl, N0.out⟩
 case round =>
  obtain ⟨k, done, hk, rfl, hdone, hN⟩ := hrel
  have hdl : done.length ≤ 10000000 := by
   rw [hdone.out, nmS_len]
   have := szs_take (sz := ssl) xs k
   have := HL.out
   omega
  have HN := Lib.hid hN
  have HD := Lib.hid hdone.out
  have a1 := hN.2.2.cell 1 (.slice A xs.length c) rfl
  have a2 := hN.2.2.cell 2 (.string s) rfl
  have hsz := hN.2.1.size
  have hsz1 := hN.2.2.lt
  clear hN N0 hdone
  by_cases hlt : k < xs.length
  ·obtain ⟨b, o, B, d, rfl, hbb, c0w, c1w, hts⟩ := HA.out.sum_at hlt
   have hs9 := sum_len hlt (Nat.le_trans HL.out (by omega))
   have HST := Lib.hid (show nmS (xs.take (k + 1)) = nmS (xs.take k) ++ nmT xs[k].2 by rw [take_snoc hlt, nmS_snoc])
   have HLT := Lib.hid (show (nmS (xs.take (k + 1))).length ≤ 10000000 by
    rw [nmS_len]
    have := szs_take (sz := ssl) xs (k + 1)
    have := HL.out
    omega)
   rw [HST.out] at HLT
   generalize xs[k] = x at *
   obtain ⟨z, ts⟩ := x
   simp only at c0w c1w hs9 hts
   have HTS := Lib.hid hts
   have HC1 := Lib.hid (fun W (h : Below w.heap.size w W) => (h.cell (p := ⟨b, o + k * 2 + 1, none⟩) hbb).trans c1w)
   have c0 := (HN.out.2.1.cell (p := ⟨b, o + k * 2, none⟩) hbb).trans c0w
   have c1 := HC1.out _ HN.out.2.1
   have hbr : b < wr.heap.size := by omega
   have hi0 : (0 : Int) ≤ (k : Int) := by omega
   have hi1 : (k : Int) < (xs.length : Int) := by omega
   clear c0w c1w hts
   go_wp2
   go_loopw [3, 5] (fun v j wq => ∃ (m : Nat) (dn : List ByteArray), m ≤ ts.length ∧ j = .int .i64 m ∧ Hid (dn = nmS (xs.take k) ++ nmT (ts.take m)) ∧ Names9 w c (some ⟨b, o, none⟩) p s xs.length v dn wq) (fun _ j _ => ts.length - (intOf j).toNat)
   case atStart => exact ⟨0, done, Nat.zero_le _, rfl, Lib.hid (by rw [HD.out]; simp [nmT]), HN.out⟩
   case round =>
    obtain ⟨m, dn, hm, rfl, hdn, hN⟩ := hrel
    have HDN := Lib.hid hdn.out
    have hdl2 : dn.length ≤ 10000000 := by
     have h1 := HDN.out
     have h2 := HLT.out
     rw [h1, List.length_append, nmT_len, List.length_take]
     rw [List.length_append, nmT_len] at h2
     omega
    have HN2 := Lib.hid hN
    have q1 := hN.2.2.cell 1 (.slice (some ⟨b, o, none⟩) xs.length c) rfl
    have hsz2 := hN.2.1.size
    have hsz3 := hN.2.2.lt
    have cq := HC1.out _ hN.2.1
    clear hN hdn
    by_cases hmt : m < ts.length
    ·obtain ⟨b2, o2, rfl, hbb2, d0, d1⟩ := (HTS.out.below HN2.out.2.1).term_at hmt
     have HTT := Lib.hid (show nmS (xs.take k) ++ nmT (ts.take (m + 1)) = dn ++ [ts[m].2] by rw [take_snoc hmt, nmT_snoc, HDN.out, List.append_assoc])
     generalize ts[m] = y at *
     obtain ⟨u, nm⟩ := y
     simp only at d0 d1 HTT
     have hj0 : (0 : Int) ≤ (m : Int) := by omega
     have hj1 : (m : Int) < (ts.length : Int) := by omega
     have hown := HN2.out.1
     go_wp2_with (at_builtin; refine wpList_append_own _ rfl (.tmp 25) (.tmp 36) 31 rfl (w.heap.size + 1) 9 i0 (.string ByteArray.empty) 1 16 Tryz.underlying31 hi hz0 hz1 hz2 rfl (by decide) _ _ _ rfl (hown.alloc _) ⟨wr.heap.size, 0, none⟩ 1 1 [.string nm] rfl rfl (cell_one_new _ _ _) (by simp [Value.oneCell']) (by unfold maxLen; omega) (by omega) (by simp; omega) ?_; intro v1 w1 hown1 hgrow _)
     have NN := Lib.hid (own_grow HN2.out hown1 hgrow)
     clear hown1 hgrow hown
     go_wp2
     go_roundw
     case rel => exact ⟨m + 1, dn ++ [nm], by omega, by go_num, Lib.hid HTT.out.symm, NN.out⟩
     case measure => simp [intOf]; omega
    ·obtain rfl : m = ts.length := by omega
     have HF := Lib.hid (show dn = nmS (xs.take (k + 1)) by rw [HDN.out, HST.out, List.take_length])
     go_wp2
     go_roundw
     case rel => exact ⟨k + 1, dn, by omega, by go_num, HF, HN2.out⟩
     case measure => simp [intOf]; omega
  ·obtain rfl : k = xs.length := by omega
   have HF := Lib.hid (show done = nmS xs by rw [HD.out, List.take_length])
   by_cases h2 : s.size = 0
   ·rw [decide_eq_true h2] at hse
    have HR := Lib.hid (show done = nmA xs s by rw [HF.out, nmA, if_pos h2, List.append_nil])
    obtain ⟨A2, cap, rfl, hr, hf, hg, hcp⟩ := StrK.of_own HN.out.1
    have HS := Lib.hid (HSO.out A2 cap done wr hr (by omega))
    have HB := Lib.hid HN.out.2.1
    clear hr hf hg
    go_wp2_with fail
    refine (Calls.mono HS.out) ?_
    rintro e w1 ⟨G, cg, rfl, g1, g2, b1, g4, g5⟩
    have F := Lib.hid (show StrK.Gave w (SortM.srtB done) (.returned (.slice G (SortM.srtB done).length cg)) w1 from ⟨G, cg, rfl, g1, g2, HB.out.trans (b1.mono HB.out.size), fun a e => Nat.le_trans HB.out.size (g4 a e), g5⟩)
    clear g1 g2 b1 g4
    go_wp2
    go_ret
    rw [← HR.out]
    exact F.out
   ·rw [decide_eq_false h2] at hse
    have HR := Lib.hid (show done ++ [s] = nmA xs s by rw [HF.out, nmA, if_neg h2])
    have hown := HN.out.1
    go_wp2_with (at_builtin; refine wpList_append_own _ rfl (.tmp 41) (.tmp 44) 31 rfl (w.heap.size + 1) 9 i0 (.string ByteArray.empty) 1 16 Tryz.underlying31 hi hz0 hz1 hz2 rfl (by decide) _ _ _ rfl (hown.alloc _) ⟨wr.heap.size, 0, none⟩ 1 1 [.string s] rfl rfl (cell_one_new _ _ _) (by simp [Value.oneCell']) (by unfold maxLen; omega) (by omega) (by simp; omega) ?_; intro v1 w1 hown1 hgrow _)
    have NN := Lib.hid (own_grow HN.out hown1 hgrow)
    clear hown1 hgrow hown
    obtain ⟨A2, cap, rfl, hr, hf, hg, hcp⟩ := StrK.of_own NN.out.1
    have HS := Lib.hid (HSO.out A2 cap (done ++ [s]) w1 hr (by simp; omega))
    have HB := Lib.hid NN.out.2.1
    clear hr hf hg
    go_wp2_with fail
    refine (Calls.mono HS.out) ?_
    rintro e w2 ⟨G, cg, rfl, g1, g2, b1, g4, g5⟩
    have F := Lib.hid (show StrK.Gave w (SortM.srtB (done ++ [s])) (.returned (.slice G (SortM.srtB (done ++ [s])).length cg)) w2 from ⟨G, cg, rfl, g1, g2, HB.out.trans (b1.mono HB.out.size), fun a e => Nat.le_trans HB.out.size (g4 a e), g5⟩)
    clear g1 g2 b1 g4
    go_wp2
    go_ret
    rw [← HR.out]
    exact F.out
end ArgI
end Go.Proofs.YtbbllkhmenpnlaaGreat
