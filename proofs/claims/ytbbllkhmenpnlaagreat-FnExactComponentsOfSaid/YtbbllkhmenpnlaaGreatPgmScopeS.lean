import Derived.Test.YtbbllkhmenpnlaaGreatPgmScope3
import Derived.Test.YtbbllkhmenpnlaaGreatArithSpec
import Derived.Deep.RegionHeld3
/-
  ScopeOf, of the model.
-/
namespace Go.Proofs.YtbbllkhmenpnlaaGreat
open Go.RowKit
namespace ProgS
open RowK Mem ProgI

def Rows10 (w : World) (bs : Nat) (RRc : Array Value) (v : Value) (done : List ByteArray) (wr : World) : Prop :=
 wr.ownsRow bs 9 1 v done.length (done.map Value.string) ∧ Below w.heap.size w wr ∧ Lvar wr (w.heap.size + 1) RRc ∧ bs ≤ wr.heap.size
theorem Rows10.grow {w wr w0 w5 : World} {bs n : Nat} {RRc : Array Value} {v v5 : Value} {done more : List ByteArray} (h : Rows10 w bs RRc v done wr) (hbs : w.heap.size + 2 ≤ bs) (hb : Below wr.heap.size wr w0) (hg : w0.grownBy w5 v.ownBlock) (ho : w5.ownsRow bs 9 1 v5 (done.length + n) (done.map Value.string ++ more.map Value.string)) (hn : n = more.length) : Rows10 w bs RRc v5 (done ++ more) w5 := by
 obtain ⟨h1, h2, h3, h4⟩ := h
 subst hn
 refine ⟨by simpa using ho, (h2.trans (hb.mono h2.size)).grown hg (Nat.le_trans h2.size hb.size) (fun g e => by have := (h1.lt g e).1; omega), lvar_grown (h3.below hb) hg (fun e => by have := (h1.lt _ e).1; omega), Nat.le_trans h4 (Nat.le_trans hb.size hg.size)⟩
def Loop1 (w : World) (bs : Nat) (RRc : Array Value) (x1 : List PatternT) (fx : List ByteArray) (v i : Value) (wr : World) : Prop :=
 ∃ (j : Nat) (done : List ByteArray), j ≤ x1.length ∧ i = .int .i64 j ∧ done = fx ++ nmP (x1.take j) ∧ Rows10 w bs RRc v done wr
def Loop2 (w : World) (bs : Nat) (RRc : Array Value) (k : Nat) (x3 : List CallT) (fx : List ByteArray) (v i : Value) (wr : World) : Prop :=
 ∃ (j : Nat) (done : List ByteArray), j ≤ k ∧ i = .int .i64 j ∧ done = fx ++ nmC (x3.take j) ∧ Rows10 w bs RRc v done wr

set_option maxHeartbeats 4000000 in
set_option maxRecDepth 100000 in
theorem scopeOf (A B : Option Addr) (m c d : Nat) (fs : List FunctionT) (z0 : ByteArray) (A1 : Option Addr) (c1 : Nat) (x1 : List PatternT) (A2 : Option Addr) (c2 : Nat) (x2 : List SumT) (A3 : Option Addr) (c3 : Nat) (x3 : List CallT) (z4 : Bool) (A5 : Option Addr) (c5 : Nat) (x5 : List SumT) (z6 : ByteArray) (n : Int) (w : World)
  (hA : ArgS fn w A fs.length c fs) (hl : fs.length + szs szFunctionU fs ≤ 100000000) (h1 : ArgS pat w A1 x1.length c1 x1) (h3 : ArgS call w A3 x3.length c3 x3) (hl1 : x1.length ≤ 100000000) (hl3 : x3.length ≤ 100000000) :
  Calls Tryz.prog 101 #[.agg #[.slice A fs.length c, .slice B m d], .agg #[.string z0, .slice A1 x1.length c1, .slice A2 x2.length c2, .slice A3 x3.length c3, .bool z4, .slice A5 x5.length c5, .string z6], .int .i64 n] w (GaveS w (scopeM fs z0 x1 x3 n)) := by
 obtain ⟨i0, hi, hz0, hz1, hz2⟩ := info_parts strInfoU
 have b0 : Below w.heap.size w ((w.alloc (Obj.cells #[Value.slice A fs.length c, Value.slice B m d] 27)).alloc (Obj.cells #[Value.string z0, Value.slice A1 x1.length c1, Value.slice A2 x2.length c2, Value.slice A3 x3.length c3, Value.bool z4, Value.slice A5 x5.length c5, Value.string z6] 48)) := ((Below.refl _ _).alloc (Nat.le_refl _) _).alloc (by simp) _
 have B0 := Lib.hid b0
 have V0 := Lvar.new (w.alloc (Obj.cells #[Value.slice A fs.length c, Value.slice B m d] 27)) #[Value.string z0, Value.slice A1 x1.length c1, Value.slice A2 x2.length c2, Value.slice A3 x3.length c3, Value.bool z4, Value.slice A5 x5.length c5, Value.string z6] 48
 simp only [World.size_alloc] at V0
 have V0 := Lib.hid V0
 have FF := Lib.hid (find A B m c d fs z0 _ (hA.below b0) hl)
 have HP := Lib.hid h1
 have HC := Lib.hid h3
 have HFS := Lib.hid (find_small (nm := z0) hl)
 clear hA h1 h3 b0 hl
 go_enter Tryz.func101, Tryz.ntmps101
 go_wp2_with fail
 refine (Calls.mono FF.out) ?_
 rintro e w1 ⟨D1, d1, D3, d3, rfl, o1, b1⟩
 have B1 := Lib.hid (below_step B0.out b1)
 have V1 := Lib.hid (V0.out.below b1)
 have O1 := Lib.hid o1
 have hz := b1.size
 simp only [World.size_alloc] at hz
 clear o1 b1
 have HS := Lib.hid (show scopeM fs z0 x1 x3 n = (match findF fs z0 with | none => [] | some f => if 0 ≤ n ∧ n ≤ (x3.length : Int) then f.2.1 ++ nmP x1 ++ nmC (x3.take n.toNat) else []) from rfl)
 cases hF : findF fs z0 with
 | none =>
  have HR := Lib.hid (show scopeM fs z0 x1 x3 n = [] by rw [HS.out, hF])
  have FIN := Lib.hid (show GaveS w [] (.returned (.slice (some ⟨w1.heap.size + 1, 0, none⟩) 0 0)) ((w1.alloc (Obj.cells #[Value.string ByteArray.empty, Value.slice D1 0 d1, Value.bool false, Value.slice D3 0 d3] 98)).alloc (Obj.cells #[] 9)) from ⟨_, _, rfl, OwnS.nil _ _ _ _ (Nat.le_refl _), (B1.out.alloc B1.out.size (Obj.cells #[Value.string ByteArray.empty, Value.slice D1 0 d1, Value.bool false, Value.slice D3 0 d3] 98)).alloc (by have := B1.out.size; simp; omega) (Obj.cells #[] 9)⟩)
  simp only [Option.getD_none, Option.isSome_none, zeroF, List.length_nil]
  clear hF HS
  go_wp2
  go_ret
  rw [HR.out]
  exact FIN.out
 | some f =>
  rw [hF] at HS HFS
  obtain ⟨fz0, fx1, fz2, fx3⟩ := f
  have O2 := O1.out
  rw [hF] at O2
  have O2 := Lib.hid (OwnR.arg (show OwnR fn _ w1.heap.size w1 [.string fz0, .slice D1 fx1.length d1, .bool fz2, .slice D3 fx3.length d3] (fz0, fx1, fz2, fx3) from O2))
  have hfx : fx1.length ≤ 100000000 := by
   have h9 : szFunctionU (fz0, fx1, fz2, fx3) ≤ 100000000 := HFS.out
   simp only [szFunctionU] at h9
   omega
  simp only [Option.getD_some, Option.isSome_some]
  clear hF O1 HFS
  have V2 := Lib.hid ((V1.out.alloc (Obj.cells #[Value.string fz0, Value.slice D1 fx1.length d1, Value.bool fz2, Value.slice D3 fx3.length d3] 98)).alloc (Obj.cells #[] 9))
  have L2 := Lib.hid ((Lvar.new w1 #[Value.string fz0, Value.slice D1 fx1.length d1, Value.bool fz2, Value.slice D3 fx3.length d3] 98).alloc (Obj.cells #[] 9))
  have B2 := Lib.hid ((B1.out.alloc B1.out.size (Obj.cells #[Value.string fz0, Value.slice D1 fx1.length d1, Value.bool fz2, Value.slice D3 fx3.length d3] 98)).alloc (by have := B1.out.size; simp; omega) (Obj.cells #[] 9))
  have O3 := Lib.hid (O2.out.below (((Below.refl w1.heap.size w1).alloc (Nat.le_refl _) (Obj.cells #[Value.string fz0, Value.slice D1 fx1.length d1, Value.bool fz2, Value.slice D3 fx3.length d3] 98)).alloc (by simp) (Obj.cells #[] 9)))
  have E2 := Lib.hid (show ((w1.alloc (Obj.cells #[Value.string fz0, Value.slice D1 fx1.length d1, Value.bool fz2, Value.slice D3 fx3.length d3] 98)).alloc (Obj.cells #[] 9)).heap[w1.heap.size + 1]? = some (Obj.cells #[] 9) from by have h9 := heap_alloc_new (w1.alloc (Obj.cells #[Value.string fz0, Value.slice D1 fx1.length d1, Value.bool fz2, Value.slice D3 fx3.length d3] 98)) (Obj.cells #[] 9); simp only [World.size_alloc] at h9; exact h9)
  have hzw : w1.heap.size + 2 ≤ ((w1.alloc (Obj.cells #[Value.string fz0, Value.slice D1 fx1.length d1, Value.bool fz2, Value.slice D3 fx3.length d3] 98)).alloc (Obj.cells #[] 9)).heap.size := by simp
  clear O2 V1 V0 FF
  have IN := Lib.hid (fun W => ArithS.inR n 0 (x3.length : Int) W)
  go_upto_region 3 with fail
  generalize (w1.alloc (Obj.cells #[Value.string fz0, Value.slice D1 fx1.length d1, Value.bool fz2, Value.slice D3 fx3.length d3] 98)).alloc (Obj.cells #[] 9) = w2 at *
  have r3 : w2.cell? ⟨w.heap.size + 1, 3, none⟩ = some (.slice A3 x3.length c3) := V2.out.cell 3 _ rfl
  have f1 : w2.cell? ⟨w1.heap.size, 1, none⟩ = some (.slice D1 fx1.length d1) := L2.out.cell 1 _ rfl
  by_cases hn : 0 ≤ n ∧ n ≤ (x3.length : Int)
  ·obtain ⟨hn0, hn1⟩ := hn
   have IN2 := IN.out
   rw [decide_eq_true hn0, decide_eq_true hn1] at IN2
   have IN2 := Lib.hid IN2
   obtain ⟨k, rfl⟩ : ∃ k : Nat, n = (k : Int) := ⟨n.toNat, by omega⟩
   have HS2 := Lib.hid (show fx1 ++ nmP x1 ++ nmC (x3.take k) = scopeM fs z0 x1 x3 (k : Int) by rw [HS.out]; exact (if_pos ⟨hn0, hn1⟩).symm)
   have hk9 : k ≤ 100000000 := by omega
   have hk3 : k ≤ x3.length := by omega
   have OE := Lib.hid (show w2.ownsRow w2.heap.size 9 1 (.slice (some ⟨w1.heap.size + 1, 0, none⟩) 0 0) 0 [] ∨ True from Or.inr trivial)
   have O0 : w2.ownsRow (w1.heap.size + 1) 9 1 (.slice (some ⟨w1.heap.size + 1, 0, none⟩) 0 0) 0 [] := own_none E2.out (Nat.le_refl _)
   have O0 := Lib.hid O0
   have RF := Lib.hid (str_row (arg_fn O3.out).1)
   clear HS IN hn0 hn1 OE
   go_wp2_with fail
   refine (Calls.mono (IN2.out _)) ?_
   rintro e w9 ⟨rfl, rfl⟩
   go_wp2_with (at_builtin; (refine wpList_append_rowW rfl _ _ _ rfl 9 i0 (.string ByteArray.empty) 1 16 (w1.heap.size + 1) Tryz.underlying31 hi hz0 hz1 hz2 rfl (by decide) _ 0 [] rfl O0.out _ fx1.length _ (fx1.map Value.string) rfl (by simp) RF.out (by simp [Value.oneCell']) (by unfold maxLen; omega) (by omega) (by omega) ?_); intro v5 w5 hown5 hgrow5 hwh5)
   have R5 := Lib.hid (Rows10.grow (show Rows10 w (w1.heap.size + 1) #[Value.string z0, Value.slice A1 x1.length c1, Value.slice A2 x2.length c2, Value.slice A3 x3.length c3, Value.bool z4, Value.slice A5 x5.length c5, Value.string z6] (.slice (some ⟨w1.heap.size + 1, 0, none⟩) 0 0) [] w2 from ⟨O0.out, B2.out, V2.out, by omega⟩) (by omega) (Below.refl _ _) hgrow5 hown5 rfl)
   clear hown5 hgrow5 hwh5 f1 r3
   go_wp2
   go_loopw [9, 10] (fun v i wr => Loop1 w (w1.heap.size + 1) #[Value.string z0, Value.slice A1 x1.length c1, Value.slice A2 x2.length c2, Value.slice A3 x3.length c3, Value.bool z4, Value.slice A5 x5.length c5, Value.string z6] x1 fx1 v i wr) (fun _ i _ => x1.length - (intOf i).toNat)
   case atStart => exact ⟨0, [] ++ fx1, Nat.zero_le _, rfl, by simp [nmP], R5.out⟩
   case round =>
    obtain ⟨j, done, hj, rfl, hdone, hN⟩ := hrel
    have HD := Lib.hid hdone
    have HN := Lib.hid hN
    have hdl : done.length ≤ 400000000 := by
     have h1 := nmP_len (x1.take j)
     rw [hdone, List.length_append]
     rw [List.length_take] at h1
     omega
    have r1 : wr.cell? ⟨w.heap.size + 1, 1, none⟩ = some (.slice A1 x1.length c1) := hN.2.2.1.cell 1 _ rfl
    have hrl := hN.2.2.1.lt
    have hbsz := hN.2.2.2
    clear hN hdone R5
    by_cases hlt : j < x1.length
    ·obtain ⟨b, o, rfl, hbw, g0w, g1w, g2w, g3w⟩ := HP.out.pat_at hlt
     have hbb : b < wr.heap.size := Nat.lt_of_lt_of_le hbw HN.out.2.1.size
     have g0 := (HN.out.2.1.cell (p := ⟨b, o + j * 4, none⟩) hbw).trans g0w
     have g1 := (HN.out.2.1.cell (p := ⟨b, o + j * 4 + 1, none⟩) hbw).trans g1w
     have g2 := (HN.out.2.1.cell (p := ⟨b, o + j * 4 + 2, none⟩) hbw).trans g2w
     have g3 := (HN.out.2.1.cell (p := ⟨b, o + j * 4 + 3, none⟩) hbw).trans g3w
     have HST := Lib.hid (show nmP (x1.take (j + 1)) = nmP (x1.take j) ++ nmP1 x1[j] by rw [take_snoc hlt, nmP_snoc])
     generalize x1[j] = x at *
     obtain ⟨y0, y1, y2, y3⟩ := x
     simp only at g0 g1 g2 g3 g2w g3w
     have CK := Lib.hid (fun W (h : Below w.heap.size w W) => (⟨(h.cell (p := ⟨b, o + j * 4 + 2, none⟩) hbw).trans g2w, (h.cell (p := ⟨b, o + j * 4 + 3, none⟩) hbw).trans g3w⟩ : W.cell? ⟨b, o + j * 4 + 2, none⟩ = some (.string y2) ∧ W.cell? ⟨b, o + j * 4 + 3, none⟩ = some (.string y3)))
     clear g0w g1w g2w g3w
     have hi0 : (0 : Int) ≤ (j : Int) := by omega
     have hi1 : (j : Int) < (x1.length : Int) := by omega
     cases y1 with
     | true =>
      have HF := Lib.hid (show done ++ [y2, y3] = fx1 ++ nmP (x1.take (j + 1)) by rw [HST.out, HD.out]; simp [nmP1])
      have hown := HN.out.1
      have RN := Lib.hid (show Row 0 (wr.alloc (Obj.cells #[Value.string y2, Value.string y3] 9)).drew.heap.size (wr.alloc (Obj.cells #[Value.string y2, Value.string y3] 9)).drew (some ⟨wr.heap.size, 0, none⟩) [.string y2, .string y3] from row_new (heap_alloc_new wr (Obj.cells #[Value.string y2, Value.string y3] 9)))
      have bd : Below wr.heap.size wr (wr.alloc (Obj.cells #[Value.string y2, Value.string y3] 9)).drew := ((Below.refl _ _).alloc (Nat.le_refl _) _).drew
      have BD := Lib.hid bd
      have OD := Lib.hid (show (wr.alloc (Obj.cells #[Value.string y2, Value.string y3] 9)).drew.ownsRow (w1.heap.size + 1) 9 1 _ done.length (done.map Value.string) from hown.alloc _)
      clear bd
      go_upto_region 10 with fail
      go_region_held3 (fun W => W.cell? ⟨w.heap.size + 1, 1, none⟩ = some (.slice (some ⟨b, o, none⟩) x1.length c1) ∧ W.cell? ⟨b, o + j * 4 + 2, none⟩ = some (.string y2) ∧ W.cell? ⟨b, o + j * 4 + 3, none⟩ = some (.string y3)) (first | go_keep | (refine ⟨?_, ?_, ?_⟩ <;> (rw [BD.out.cell (by assumption)]; assumption)) | exact ⟨p1, p2, p3⟩)
       (first
       | (refine step_append_rowW (w := (wr.alloc (Obj.cells #[Value.string y2, Value.string y3] 9)).drew) rfl _ _ _ rfl 9 i0 (.string ByteArray.empty) 1 16 (w1.heap.size + 1) Tryz.underlying31 hi hz0 hz1 hz2 rfl (by decide) _ done.length (done.map Value.string) rfl OD.out _ 2 _ [.string y2, .string y3] rfl rfl RN.out (by simp [Value.oneCell']) (by unfold maxLen; omega) (by omega) (by first | omega | (simp; omega)) ?_; intro v6 w6 hown6 hgrow6 hwh6; (obtain ⟨A6, c6, rfl, _, _, _, _⟩ := RowK.of_own hown6); (have R6 := Rows10.grow (more := [y2, y3]) HN.out (by omega) BD.out hgrow6 hown6 rfl); (obtain ⟨p2, p3⟩ := CK.out w6 R6.2.1); (have p1 : w6.cell? ⟨w.heap.size + 1, 1, none⟩ = some (.slice (some ⟨b, o, none⟩) x1.length c1) := R6.2.2.1.cell 1 _ rfl)))
      all_goals
       have R7 := Lib.hid R6
       clear R6 hown6 hgrow6 hwh6 p1 p2 p3 hown
       go_wp2
       go_roundw
       case rel => exact ⟨j + 1, done ++ [y2, y3], by omega, by go_num, HF.out, R7.out⟩
       case measure => simp [intOf]; omega
     | false =>
      have HF := Lib.hid (show done = fx1 ++ nmP (x1.take (j + 1)) by rw [HST.out, HD.out]; simp [nmP1])
      go_wp2
      go_roundw
      case rel => exact ⟨j + 1, done, by omega, by go_num, HF.out, HN.out⟩
      case measure => simp [intOf]; omega
    ·obtain rfl : j = x1.length := by omega
     have hdone2 : done = fx1 ++ nmP x1 := by rw [HD.out, List.take_length]
     obtain ⟨base, hbase⟩ : ∃ base : List ByteArray, base = fx1 ++ nmP x1 := ⟨_, rfl⟩
     have HB0 := Lib.hid (show base = fx1 ++ nmP x1 from hbase)
     have hbl : base.length ≤ 400000000 := by rw [hbase, ← hdone2]; exact hdl
     rw [← hbase] at hdone2
     subst hdone2
     clear hbase HD
     go_wp2
     go_loopw [9, 11] (fun v i wq => Loop2 w (w1.heap.size + 1) #[Value.string z0, Value.slice A1 x1.length c1, Value.slice A2 x2.length c2, Value.slice A3 x3.length c3, Value.bool z4, Value.slice A5 x5.length c5, Value.string z6] k x3 done v i wq) (fun _ i _ => k - (intOf i).toNat)
     case atStart => exact ⟨0, done, Nat.zero_le _, rfl, by simp [nmC], HN.out⟩
     case round =>
      obtain ⟨i, dn, hi9, rfl, hdn, hN⟩ := hrel
      have HDN := Lib.hid hdn
      have HM := Lib.hid hN
      have hdl2 : dn.length ≤ 500000000 := by
       rw [hdn, List.length_append, nmC, List.length_map, List.length_take]
       omega
      have r3 : wr.cell? ⟨w.heap.size + 1, 3, none⟩ = some (.slice A3 x3.length c3) := hN.2.2.1.cell 3 _ rfl
      have hrl2 := hN.2.2.1.lt
      have hbsz2 := hN.2.2.2
      clear hN hdn
      by_cases hlt2 : i < k
      ·have hlt3 : i < x3.length := by omega
       obtain ⟨b, o, G, cg, rfl, hbb, g0, g1, g2, t2⟩ := (HC.out.below HM.out.2.1).call_at hlt3
       have HST := Lib.hid (show nmC (x3.take (i + 1)) = nmC (x3.take i) ++ [x3[i].1] by rw [take_snoc hlt3, nmC_snoc])
       clear t2
       generalize x3[i] = x at *
       obtain ⟨zb, zf, xa⟩ := x
       simp only at g0 g1 g2
       have hi0 : (0 : Int) ≤ (i : Int) := by omega
       have hi1 : (i : Int) < (x3.length : Int) := by omega
       have hi2 : (i : Int) < (k : Int) := by omega
       have HF := Lib.hid (show dn ++ [zb] = done ++ nmC (x3.take (i + 1)) by rw [HST.out, HDN.out, List.append_assoc])
       have hown := HM.out.1
       have RN := Lib.hid (show Row 0 (wr.alloc (Obj.cells #[Value.string zb] 9)).heap.size (wr.alloc (Obj.cells #[Value.string zb] 9)) (some ⟨wr.heap.size, 0, none⟩) [.string zb] from row_new (heap_alloc_new wr (Obj.cells #[Value.string zb] 9)))
       go_wp2_with (at_builtin; (refine wpList_append_rowW rfl _ _ _ rfl 9 i0 (.string ByteArray.empty) 1 16 (w1.heap.size + 1) Tryz.underlying31 hi hz0 hz1 hz2 rfl (by decide) _ dn.length (dn.map Value.string) rfl (hown.alloc _) _ 1 _ [.string zb] rfl rfl RN.out (by simp [Value.oneCell']) (by unfold maxLen; omega) (by omega) (by first | omega | (simp; omega)) ?_); intro v6 w6 hown6 hgrow6 hwh6)
       have R6 := Rows10.grow (more := [zb]) HM.out (by omega) ((Below.refl wr.heap.size wr).alloc (Nat.le_refl _) (Obj.cells #[Value.string zb] 9)) hgrow6 hown6 rfl
       have R7 := Lib.hid R6
       clear R6 hown6 hgrow6 hwh6 hown
       go_wp2
       go_roundw
       case rel => exact ⟨i + 1, dn ++ [zb], by omega, by go_num, HF.out, R7.out⟩
       case measure => simp [intOf]; omega
      ·obtain rfl : i = k := by omega
       have HR := Lib.hid (show dn = scopeM fs z0 x1 x3 (i : Int) by rw [← HS2.out, HDN.out, HB0.out])
       have FIN := Lib.hid (gave_own (w := w) (own_base HM.out.1 (by omega)) HM.out.2.1)
       go_wp2
       go_ret
       rw [← HR.out]
       exact FIN.out
  ·have IN2 := IN.out
   have hnn : (decide (0 ≤ n) && decide (n ≤ (x3.length : Int))) = false := by
    rw [Bool.and_eq_false_iff]
    by_cases h9 : 0 ≤ n
    ·exact Or.inr (decide_eq_false (fun h8 => hn ⟨h9, h8⟩))
    ·exact Or.inl (decide_eq_false h9)
   rw [hnn] at IN2
   have IN2 := Lib.hid IN2
   have HR := Lib.hid (show scopeM fs z0 x1 x3 n = [] by rw [HS.out]; exact if_neg hn)
   have FIN := Lib.hid (show GaveS w [] (.returned (.slice (some ⟨w1.heap.size + 1, 0, none⟩) 0 0)) w2 from ⟨_, _, rfl, OwnS.nil _ _ _ _ (Nat.le_refl _), B2.out⟩)
   clear hn hnn HS IN
   go_wp2_with fail
   refine (Calls.mono (IN2.out _)) ?_
   rintro e w9 ⟨rfl, rfl⟩
   go_wp2
   go_ret
   rw [HR.out]
   exact FIN.out
end ProgS
end Go.Proofs.YtbbllkhmenpnlaaGreat
