import Derived.Test.YtgpjgjjadhmkhaaGreatRepUni
import Derived.Test.YtgpjgjjadhmkhaaGreatRepInt
import Derived.Deep.RegionLaw
import Derived.Deep.RegionHeld3
/-
  The laws' helpers on Value: copies, sizes, comparison, marks (made by tools/ukit.py).
-/
namespace Go.Proofs.YtgpjgjjadhmkhaaGreat
open Go.RowKit
namespace Mem
open RowK

abbrev ValueT := Bool × Int × List Int
def valu : Rep ValueT := Rep.prod Rep.bool (Rep.prod Rep.int (Rep.slice Rep.int))
theorem valu_open {q : Bool} {w : World} {fp : List Nat} {cs : List Value} {p : ValueT} (h : valu.rep q w fp cs p) : ∃ (A2 : Option Addr) (c2 : Nat) (f2 : List Nat), fp = f2 ∧ cs = [.bool p.1, .int .i64 p.2.1, .slice A2 p.2.2.length c2] ∧ (Rep.slice Rep.int).rep q w f2 [.slice A2 p.2.2.length c2] p.2.2 := by
  obtain ⟨g0, g0', d0, d0', rfl, rfl, k0, h'⟩ := h
  obtain ⟨rfl, rfl⟩ := k0
  obtain ⟨g1, g1', d1, d1', rfl, rfl, k1, h''⟩ := h'
  obtain ⟨rfl, rfl⟩ := k1
  have r2 := h''
  obtain ⟨A2, c2, rfl, _⟩ := h''
  exact ⟨A2, c2, _, by simp, rfl, r2⟩
theorem valus_at {q : Bool} {w : World} {fp : List Nat} {A : Option Addr} {n c : Nat} {xs : List ValueT} (h : (Rep.slice valu).rep q w fp [.slice A n c] xs) {k : Nat} (hk : k < xs.length) :
    ∃ b o A2 c2 f2, A = some ⟨b, o, none⟩ ∧ b < w.heap.size ∧ w.cell? ⟨b, o + k * 3, none⟩ = some (.bool xs[k].1) ∧ w.cell? ⟨b, o + k * 3 + 1, none⟩ = some (.int .i64 xs[k].2.1) ∧ w.cell? ⟨b, o + k * 3 + 2, none⟩ = some (.slice A2 xs[k].2.2.length c2) ∧ (Rep.slice Rep.int).rep q w f2 [.slice A2 xs[k].2.2.length c2] xs[k].2.2 := by
  obtain ⟨b, o, f, cs, rfl, hb, hr, hc, _⟩ := slice_at h hk
  obtain ⟨A2, c2, f2, _, rfl, r2⟩ := valu_open hr
  have hn : valu.n = 3 := rfl
  rw [hn] at hc
  exact ⟨b, o, A2, c2, f2, rfl, hb, hc 0 (by omega), hc 1 (by omega), hc 2 (by omega), r2⟩
theorem ArgS.valu_at {w : World} {A : Option Addr} {n c : Nat} {xs : List ValueT} (h : ArgS valu w A n c xs) {k : Nat} (hk : k < xs.length) :
    ∃ b o A2 c2, A = some ⟨b, o, none⟩ ∧ b < w.heap.size ∧ w.cell? ⟨b, o + k * 3, none⟩ = some (.bool xs[k].1) ∧ w.cell? ⟨b, o + k * 3 + 1, none⟩ = some (.int .i64 xs[k].2.1) ∧ w.cell? ⟨b, o + k * 3 + 2, none⟩ = some (.slice A2 xs[k].2.2.length c2) ∧ ArgS Rep.int w A2 xs[k].2.2.length c2 xs[k].2.2 := by
  obtain ⟨q, fp, h⟩ := h
  obtain ⟨b, o, A2, c2, f2, rfl, hb, h0, h1, h2, r2⟩ := valus_at h hk
  exact ⟨b, o, A2, c2, rfl, hb, h0, h1, h2, q, f2, r2⟩
def szValueU (x : ValueT) : Nat := (x.2.2.length + szs szInt x.2.2)
def WfValueU (x : ValueT) : Prop := True ∧ (Lit.int .i64 x.2.1).wf = true ∧ x.2.2.length ≤ 9223372036854775807 ∧ (∀ e ∈ x.2.2, WfInt e)
theorem infoValue : (Tryz.prog.info? 33).map (fun i => (i.zero, i.size, i.bytes)) = some (some (.agg #[.bool false, .int .i64 0, .slice none 0 0]), 3, 40) := by kernel_rfl
def zeroValue : El ValueT := ([], [.bool false, .int .i64 0, .slice none 0 0], (false, 0, []))
set_option maxHeartbeats 4000000 in
set_option maxRecDepth 100000 in
theorem copyValueU (q2 : Bool) (f2 : List Nat) (z0 : Bool) (z1 : Int) (A2 : Option Addr) (c2 : Nat) (x2 : List Int) (w : World) (h2 : (Rep.slice Rep.int).rep q2 w f2 [.slice A2 x2.length c2] x2) (hl : szValueU (z0, z1, x2) ≤ 100000000) :
    Calls Tryz.prog 61 #[.agg #[.bool z0, .int .i64 z1, .slice A2 x2.length c2]] w fun e w' => ∃ B2, e = .returned (.agg #[.bool z0, .int .i64 z1, .slice B2 x2.length x2.length]) ∧ OwnR valu w.heap.size w'.heap.size w' [.bool z0, .int .i64 z1, .slice B2 x2.length x2.length] (z0, z1, x2) ∧ Below w.heap.size w w' := by
  simp only [szValueU] at hl
  have CP0 := Lib.hid (fun W (h : Below w.heap.size w W) => copyIntSU q2 f2 A2 c2 x2 W (Rep.below h2 h) (by omega))
  clear hl h2
  go_enter Tryz.func61, Tryz.ntmps61
  go_wp2_with fail
  refine (Calls.mono (CP0.out _ (by repeat (first | with_reducible exact Below.refl _ _ | with_reducible exact Below.refl _ _ | refine Below.setCell ?_ (by first | omega | (simp; done) | (simp; omega)) _ | refine Below.alloc ?_ (by first | omega | (simp; done) | (simp; omega)) _)))) ?_
  rintro e w0 ⟨D2, rfl, o0, b0⟩
  have B0 : Below w.heap.size w w0 := below_step (by repeat (first | with_reducible exact Below.refl _ _ | with_reducible exact Below.refl _ _ | refine Below.setCell ?_ (by first | omega | (simp; done) | (simp; omega)) _ | refine Below.alloc ?_ (by first | omega | (simp; done) | (simp; omega)) _)) b0
  have hz0 := b0.size
  simp only [World.size_alloc] at hz0 o0
  have VA0 := (((Lvar.new w #[Value.bool z0, Value.int .i64 z1, Value.slice A2 x2.length c2] 104).alloc (Obj.cells #[Value.bool false, Value.int .i64 0, Value.slice none 0 0] 33)).alloc (Obj.cells #[Value.bool z0, Value.int .i64 z1, Value.slice none 0 0] 33)).below b0
  have VB0 := ((Lvar.new (w.alloc (Obj.cells #[Value.bool z0, Value.int .i64 z1, Value.slice A2 x2.length c2] 104)) #[Value.bool false, Value.int .i64 0, Value.slice none 0 0] 33).alloc (Obj.cells #[Value.bool z0, Value.int .i64 z1, Value.slice none 0 0] 33)).below b0
  have VC0 := (Lvar.new ((w.alloc (Obj.cells #[Value.bool z0, Value.int .i64 z1, Value.slice A2 x2.length c2] 104)).alloc (Obj.cells #[Value.bool false, Value.int .i64 0, Value.slice none 0 0] 33)) #[Value.bool z0, Value.int .i64 z1, Value.slice none 0 0] 33).below b0
  simp only [World.size_alloc] at VB0 VC0
  have cA0_0 := VA0.cell 0 _ rfl
  have cA0_1 := VA0.cell 1 _ rfl
  have cA0_2 := VA0.cell 2 _ rfl
  have cB0_0 := VB0.cell 0 _ rfl
  have cB0_1 := VB0.cell 1 _ rfl
  have cB0_2 := VB0.cell 2 _ rfl
  have yB0_0 := VB0.frozen 0
  have yB0_1 := VB0.frozen 1
  have yB0_2 := VB0.frozen 2
  have cC0_0 := VC0.cell 0 _ rfl
  have cC0_1 := VC0.cell 1 _ rfl
  have cC0_2 := VC0.cell 2 _ rfl
  have yC0_0 := VC0.frozen 0
  have yC0_1 := VC0.frozen 1
  have yC0_2 := VC0.frozen 2
  have VA0 := Lib.hid VA0
  have VB0 := Lib.hid VB0
  have VC0 := Lib.hid VC0
  clear b0
  go_wp2_with fail
  obtain ⟨T9, hT9⟩ := (show Lvar _ (w.heap.size + 1) #[Value.bool z0, Value.int .i64 z1, Value.slice D2 x2.length x2.length] from ((((VB0.out.other (p := ⟨w.heap.size + 1 + 1, 2, none⟩) (by first | omega | (simp; done) | (simp; omega)) (Value.slice D2 x2.length x2.length)).set 0 (Value.bool z0)).set 1 (Value.int .i64 z1)).set 2 (Value.slice D2 x2.length x2.length)))
  obtain ⟨i9, hi9, _, hs9, _⟩ := info_parts infoValue
  refine bodyPost_ret (results_cell_row rfl _ _ (w.heap.size + 1) T9 #[.bool z0, .int .i64 z1, .slice D2 x2.length x2.length] _ _ rfl hT9 Tryz.underlying33 rfl (by rw [hi9, Option.map_some, hs9]; rfl)) rfl ?_
  have key : ∀ {u : World}, Mod w.heap.size (w.heap.size + 3) w0 u → OwnR valu w.heap.size u.heap.size u [.bool z0, .int .i64 z1, .slice D2 x2.length x2.length] (z0, z1, x2) ∧ Below w.heap.size w u := fun {u} hm => by
    have hs := hm.size
    have o0 := OwnR.keep o0 hm (Or.inr (by omega))
    exact ⟨(OwnR.prod (mid := w.heap.size) (OwnR.bool (by omega) z0) (OwnR.prod (mid := w.heap.size) (OwnR.int (by omega) z1) (o0.wider (by omega) (by omega) (Nat.le_refl _)) (by omega) (by omega)) (by omega) (by omega)), below_mod B0 hm (Nat.le_refl _) B0.size⟩
  refine ⟨D2, rfl, key ?_⟩
  repeat (first | with_reducible exact Mod.refl _ _ _ | refine Mod.trans ?_ (Mod.set _ (by first | omega | (simp; done) | (simp; omega)) (by first | omega | (simp; done) | (simp; omega)) _))
set_option maxHeartbeats 4000000 in
set_option maxRecDepth 100000 in
theorem sizeValueU (q2 : Bool) (f2 : List Nat) (z0 : Bool) (z1 : Int) (A2 : Option Addr) (c2 : Nat) (x2 : List Int) (L : Nat) (w : World) (h2 : (Rep.slice Rep.int).rep q2 w f2 [.slice A2 x2.length c2] x2) (hL : L ≤ 1000000000) (hs : WfValueU (z0, z1, x2)) :
    Calls Tryz.prog 58 #[.agg #[.bool z0, .int .i64 z1, .slice A2 x2.length c2], .int .i64 L] w fun e w' => e = .returned (.int .i64 (IntK.leftOf L (szValueU (z0, z1, x2)))) ∧ Below w.heap.size w w' := by
  simp only [WfValueU] at hs
  obtain ⟨hs0, hs1, hs2a, hs2b⟩ := hs
  have B0 := Lib.hid ((Below.refl w.heap.size w).alloc (Nat.le_refl _) (Obj.cells #[Value.bool z0, Value.int .i64 z1, Value.slice A2 x2.length c2] 104))
  have V0 := Lib.hid (Lvar.new w #[Value.bool z0, Value.int .i64 z1, Value.slice A2 x2.length c2] 104)
  have SZ0 := fun W (h : Below w.heap.size w W) => sizeIntSU q2 f2 A2 c2 L x2 W (Rep.below h2 h) (by omega) hs2a hs2b
  unfold IntK.leftOf at SZ0
  by_cases g0 : (x2.length + szs szInt x2) ≤ L
  · obtain ⟨m0, hm0⟩ : ∃ m : Nat, m = L - (x2.length + szs szInt x2) := ⟨_, rfl⟩
    simp only [if_pos g0, show ((L : Nat) : Int) - (((x2.length + szs szInt x2) : Nat) : Int) = (m0 : Int) by omega] at SZ0
    have hd0 : decide ((m0 : Int) < 0) = false := decide_eq_false (by omega)
    have HM0 := Lib.hid (show m0 + (x2.length + szs szInt x2) = L by omega)
    have SZ0 := Lib.hid SZ0
    have hL0 : m0 ≤ 1000000000 := by omega
    clear g0 hm0
    have HR := Lib.hid (show IntK.leftOf L (szValueU (z0, z1, x2)) = (m0 : Int) by simp only [szValueU]; unfold IntK.leftOf; have := HM0.out; rw [if_pos (by omega)]; omega)
    clear hs0 hs1 hs2a hs2b h2
    go_enter Tryz.func58, Tryz.ntmps58
    go_wp2_with fail
    refine (Calls.mono (SZ0.out _ B0.out)) ?_
    rintro e w1 ⟨rfl, b1⟩
    have B1 := Lib.hid (below_step B0.out b1)
    have V1 := Lib.hid (V0.out.below b1)
    clear b1
    have v1_0 := V1.out.cell 0 _ rfl
    have v1_1 := V1.out.cell 1 _ rfl
    have v1_2 := V1.out.cell 2 _ rfl
    go_wp2
    go_ret
    exact ⟨by rw [HR.out]; rfl, B1.out⟩
  · have HM := Lib.hid g0
    simp only [if_neg g0] at SZ0
    have SZ0 := Lib.hid SZ0
    clear g0
    have HR := Lib.hid (show IntK.leftOf L (szValueU (z0, z1, x2)) = -1 by simp only [szValueU]; unfold IntK.leftOf; have := HM.out; rw [if_neg (by omega)])
    clear hs0 hs1 hs2a hs2b h2
    go_enter Tryz.func58, Tryz.ntmps58
    go_wp2_with fail
    refine (Calls.mono (SZ0.out _ B0.out)) ?_
    rintro e w1 ⟨rfl, b1⟩
    have B1 := Lib.hid (below_step B0.out b1)
    have V1 := Lib.hid (V0.out.below b1)
    clear b1
    have v1_0 := V1.out.cell 0 _ rfl
    have v1_1 := V1.out.cell 1 _ rfl
    have v1_2 := V1.out.cell 2 _ rfl
    go_wp2
    go_ret
    exact ⟨by rw [HR.out]; rfl, B1.out⟩
set_option maxHeartbeats 4000000 in
set_option maxRecDepth 100000 in
theorem eqValueU (q2 p2 : Bool) (f2 g2 : List Nat) (z0 : Bool) (z1 : Int) (A2 : Option Addr) (c2 : Nat) (x2 : List Int) (B2 : Option Addr) (d2 : Nat) (w : World) (h2 : (Rep.slice Rep.int).rep q2 w f2 [.slice A2 x2.length c2] x2) (k2 : (Rep.slice Rep.int).rep p2 w g2 [.slice B2 x2.length d2] x2) (hl : szValueU (z0, z1, x2) ≤ 100000000) :
    Calls Tryz.prog 62 #[.agg #[.bool z0, .int .i64 z1, .slice A2 x2.length c2], .agg #[.bool z0, .int .i64 z1, .slice B2 x2.length d2]] w fun e w' => e = .returned (.bool true) ∧ Below w.heap.size w w' := by
  simp only [szValueU] at hl
  have EQ0 := Lib.hid (fun W (h : Below w.heap.size w W) => eqIntSU q2 p2 f2 g2 A2 B2 c2 d2 x2 W (Rep.below h2 h) (Rep.below k2 h) (by omega))
  have BB0 := Lib.hid (((Below.refl w.heap.size w).alloc (Nat.le_refl _) (Obj.cells #[Value.bool z0, Value.int .i64 z1, Value.slice A2 x2.length c2] 33)).alloc (by simp) (Obj.cells #[Value.bool z0, Value.int .i64 z1, Value.slice B2 x2.length d2] 33))
  have V0 := Lib.hid ((Lvar.new w #[Value.bool z0, Value.int .i64 z1, Value.slice A2 x2.length c2] 33).alloc (Obj.cells #[Value.bool z0, Value.int .i64 z1, Value.slice B2 x2.length d2] 33))
  have U0 := Lib.hid (Lvar.new (w.alloc (Obj.cells #[Value.bool z0, Value.int .i64 z1, Value.slice A2 x2.length c2] 33)) #[Value.bool z0, Value.int .i64 z1, Value.slice B2 x2.length d2] 33)
  simp only [World.size_alloc] at U0
  clear hl h2 k2
  go_enter Tryz.func62, Tryz.ntmps62
  go_wp2_with fail
  refine (Calls.mono (EQ0.out _ ?_)) ?_
  · first | exact BB0.out | exact BB0.out.drew | exact below_drewN BB0.out _
  rintro e w1 ⟨rfl, b1⟩
  have BB1 := Lib.hid (show Below w.heap.size w w1 from by first | exact BB0.out.trans (b1.mono BB0.out.size) | exact BB0.out.drew.trans (b1.mono BB0.out.size) | exact (below_drewN BB0.out _).trans (b1.mono BB0.out.size))
  have V1 := Lib.hid (show Lvar w1 _ _ from by first | exact V0.out.below b1 | exact (V0.out.below (Below.refl _ _).drew).below b1)
  have v1_0 := V1.out.cell 0 _ rfl
  have v1_1 := V1.out.cell 1 _ rfl
  have v1_2 := V1.out.cell 2 _ rfl
  have U1 := Lib.hid (show Lvar w1 _ _ from by first | exact U0.out.below b1 | exact (U0.out.below (Below.refl _ _).drew).below b1)
  have u1_0 := U1.out.cell 0 _ rfl
  have u1_1 := U1.out.cell 1 _ rfl
  have u1_2 := U1.out.cell 2 _ rfl
  clear b1
  go_wp2
  go_ret
  exact ⟨rfl, BB1.out⟩
theorem run_mkValueU (n : Nat) (hn : n ≤ 100000000000) (u : World) : (Instr.makeSlice 28 (.int .i64 (n : Int)) (.int .i64 (n : Int))).run Tryz.prog u =
    .ok (.slice (some ⟨u.heap.size, 0, none⟩) n n) (u.alloc (.cells (madeCells #[.bool false, .int .i64 0, .slice none 0 0] (n * 3)) 33)) := by
  obtain ⟨i0, hi, hz0, hz1, hz2⟩ := info_parts infoValue
  have h := run_make (P := Tryz.prog) u 28 33 i0 (.agg #[.bool false, .int .i64 0, .slice none 0 0]) Tryz.underlying28 hi hz0 .i64 .i64 (n : Int) (n : Int) (by omega) (Int.le_refl _) (by rw [hz2]; omega) (by omega)
  simpa [hz1, Value.cells] using h
set_option maxHeartbeats 4000000 in
set_option maxRecDepth 100000 in
theorem copyValueSU (q : Bool) (fp : List Nat) (A : Option Addr) (c : Nat) (xs : List ValueT) (w : World) (hA : (Rep.slice valu).rep q w fp [.slice A xs.length c] xs) (hl : xs.length + szs szValueU xs ≤ 100000000) :
    Calls Tryz.prog 27 #[.slice A xs.length c] w (CopiedU valu w xs) := by
  have hxl : xs.length ≤ 100000000 := by omega
  have hmk := run_mkValueU xs.length (by omega)
  have HZ := Lib.hid (Filling.made (r := valu) (e := 33) (z := zeroValue) (ok := fun b => w.heap.size ≤ b) w (madeCells #[.bool false, .int .i64 0, .slice none 0 0] (xs.length * 3)) (made_gen [.bool false, .int .i64 0, .slice none 0 0] ((false, 0, []) : ValueT) (by simp) xs.length) (Nat.le_refl _))
  have HB0 := Lib.hid ((Below.refl w.heap.size w).alloc (Nat.le_refl _) (Obj.cells (madeCells #[.bool false, .int .i64 0, .slice none 0 0] (xs.length * 3)) 33))
  have HL := Lib.hid hl
  have HA := Lib.hid hA
  clear hl hA
  go_enter Tryz.func27, Tryz.ntmps27
  go_wp2
  go_loopw [4] (fun i wr => ∃ k : Nat, k ≤ xs.length ∧ i = .int .i64 k ∧ Filling valu 33 zeroValue (fun b => w.heap.size ≤ b) wr w.heap.size xs.length (xs.take k) ∧ Below w.heap.size w wr) (fun i _ => xs.length - (intOf i).toNat)
  case atStart => exact ⟨0, Nat.zero_le _, rfl, HZ.out, HB0.out⟩
  case round =>
    obtain ⟨k, hk, rfl, hS, hb⟩ := hrel
    have HS := Lib.hid hS
    have HB := Lib.hid hb
    clear hS hb
    by_cases hlt : k < xs.length
    · obtain ⟨b, o, A2, c2, f2, rfl, hbb, g0, g1, g2, t2⟩ := valus_at (Rep.below HA.out HB.out) hlt
      have htl : (xs.take k).length = k := by rw [List.length_take]; omega
      have hk' : (xs.take k).length < xs.length := by rw [htl]; exact hlt
      obtain ⟨p0, y0⟩ := HS.out.cell (j := 0) (u := .bool false) rfl hk' (by decide) rfl
      have p0 : wr.cell? ⟨w.heap.size, (xs.take k).length * 3, none⟩ = some (.bool false) := p0
      have y0 : wr.frozen? ⟨w.heap.size, (xs.take k).length * 3, none⟩ = false := y0
      obtain ⟨p1, y1⟩ := HS.out.cell (j := 1) (u := .int .i64 0) rfl hk' (by decide) rfl
      have p1 : wr.cell? ⟨w.heap.size, (xs.take k).length * 3 + 1, none⟩ = some (.int .i64 0) := p1
      have y1 : wr.frozen? ⟨w.heap.size, (xs.take k).length * 3 + 1, none⟩ = false := y1
      obtain ⟨p2, y2⟩ := HS.out.cell (j := 2) (u := .slice none 0 0) rfl hk' (by decide) rfl
      have p2 : wr.cell? ⟨w.heap.size, (xs.take k).length * 3 + 2, none⟩ = some (.slice none 0 0) := p2
      have y2 : wr.frozen? ⟨w.heap.size, (xs.take k).length * 3 + 2, none⟩ = false := y2
      rw [htl] at p0 y0 p1 y1 p2 y2
      have hz := HS.out.lt
      have HT := Lib.hid (take_snoc hlt)
      have HTL := Lib.hid htl
      have hs9 : szValueU xs[k] ≤ 100000000 := by
        have := HL.out
        have := szs_mem (sz := szValueU) (List.getElem_mem hlt)
        omega
      clear htl hk'
      generalize xs[k] = x at *
      obtain ⟨z0, z1, x2⟩ := x
      simp only at g0 g1 g2 t2
      have CP := Lib.hid (copyValueU _ f2 z0 z1 A2 c2 x2 wr t2 hs9)
      have hi0 : (0 : Int) ≤ (k : Int) := by omega
      have hi1 : (k : Int) < (xs.length : Int) := by omega
      go_wp2_with fail
      refine (Calls.mono CP.out) ?_
      rintro e w1 ⟨D2, rfl, ⟨_, fG, k1, k2, k3⟩, b1⟩
      have HW := Lib.hid b1
      have hS2 := Filling.snoc (m := wr.heap.size) HS.out rfl (by rw [HTL.out]; exact hlt) b1 (Nat.le_refl _) k1 k2 (fun b hb => (k3 b hb).1) (fun b hb => Nat.le_trans HB.out.size hb)
      rw [HTL.out, ← HT.out] at hS2
      have HS2 := Lib.hid (show Filling valu 33 zeroValue (fun b => w.heap.size ≤ b) (((w1.setCell ⟨w.heap.size, k * 3, none⟩ (.bool z0)).setCell ⟨w.heap.size, k * 3 + 1, none⟩ (.int .i64 z1)).setCell ⟨w.heap.size, k * 3 + 2, none⟩ (.slice D2 x2.length x2.length)) w.heap.size xs.length (xs.take (k + 1)) from hS2)
      have HB2 := Lib.hid ((((HB.out.trans (b1.mono HB.out.size)).setCell (p := ⟨w.heap.size, k * 3, none⟩) (Nat.le_refl _) (.bool z0)).setCell (p := ⟨w.heap.size, k * 3 + 1, none⟩) (Nat.le_refl _) (.int .i64 z1)).setCell (p := ⟨w.heap.size, k * 3 + 2, none⟩) (Nat.le_refl _) (.slice D2 x2.length x2.length))
      have p0' := (b1.cell (p := ⟨w.heap.size, k * 3, none⟩) hz).trans p0
      have y0' := (b1.frozen (p := ⟨w.heap.size, k * 3, none⟩) hz).trans y0
      have p1' := (b1.cell (p := ⟨w.heap.size, k * 3 + 1, none⟩) hz).trans p1
      have y1' := (b1.frozen (p := ⟨w.heap.size, k * 3 + 1, none⟩) hz).trans y1
      have p2' := (b1.cell (p := ⟨w.heap.size, k * 3 + 2, none⟩) hz).trans p2
      have y2' := (b1.frozen (p := ⟨w.heap.size, k * 3 + 2, none⟩) hz).trans y2
      clear hS2 b1 k1 k2 k3 p0 y0 g0 p1 y1 g1 p2 y2 g2
      go_wp2
      go_roundw
      case rel => exact ⟨k + 1, by omega, by go_num, HS2.out, HB2.out⟩
      case measure => simp [intOf]; omega
    · obtain rfl : k = xs.length := by omega
      have hS := HS.out
      rw [List.take_length] at hS
      obtain ⟨A2, c2, fp2, h1, h2, h3, h4⟩ := (hS.done (by unfold maxLen; have := HL.out; omega)).rep (by decide)
      injection h1 with h1 _ h5
      subst h1; subst h5
      have HN := Lib.hid (show New (Rep.slice valu) w xs wr [.slice (some ⟨w.heap.size, 0, none⟩) xs.length xs.length] from ⟨fp2, h2, h3, h4⟩)
      clear hS HS h2 h3 h4
      go_wp2
      go_ret
      exact ⟨_, rfl, OwnR.of_new HN.out, HB.out⟩

def SzValueU (w : World) (xs : List ValueT) (m : Nat) (x i : Value) (wr : World) : Prop :=
  ∃ k l : Nat, k ≤ xs.length ∧ i = .int .i64 k ∧ x = .int .i64 l ∧ l + szs szValueU (xs.take k) + xs.length = m ∧ Below w.heap.size w wr
set_option maxHeartbeats 4000000 in
set_option maxRecDepth 100000 in
theorem sizeValueSU (q : Bool) (fp : List Nat) (A : Option Addr) (c L : Nat) (xs : List ValueT) (w : World) (hA : (Rep.slice valu).rep q w fp [.slice A xs.length c] xs) (hL : L ≤ 1000000000) (hl : xs.length ≤ 9223372036854775807) (hs : ∀ x ∈ xs, WfValueU x) :
    Calls Tryz.prog 25 #[.slice A xs.length c, .int .i64 L] w fun e w' => e = .returned (.int .i64 (IntK.leftOf L (xs.length + szs szValueU xs))) ∧ Below w.heap.size w w' := by
  have HS := Lib.hid hs
  by_cases h0 : xs.length ≤ L
  · have hlt0 : decide ((L : Int) - (xs.length : Int) < 0) = false := decide_eq_false (by omega)
    have hx9 : xs.length ≤ 1000000000 := by omega
    clear hs
    go_enter Tryz.func25, Tryz.ntmps25
    go_wp2
    go_loopw [1, 5] (fun x i wr => SzValueU w xs L x i wr) (fun _ i _ => xs.length - (intOf i).toNat)
    case atStart => exact ⟨0, L - xs.length, Nat.zero_le _, rfl, congrArg (Value.int .i64) (by omega), by simp [szs]; omega, Below.refl _ _⟩
    case round =>
      obtain ⟨k, l, hk, rfl, rfl, hsum, hb⟩ := hrel
      by_cases hlt : k < xs.length
      · obtain ⟨b, o, A2, c2, f2, rfl, hbb, g0, g1, g2, t2⟩ := valus_at (Rep.below hA hb) hlt
        have hxs := HS.out _ (List.getElem_mem hlt)
        have hts := szs_step (sz := szValueU) hlt
        have hle := szs_take (sz := szValueU) xs (k + 1)
        generalize xs[k] = x at *
        obtain ⟨z0, z1, x2⟩ := x
        simp only at g0 g1 g2 t2
        obtain ⟨s0, hs0⟩ : ∃ s0 : Nat, s0 = szValueU (z0, z1, x2) := ⟨_, rfl⟩
        have SZ := Lib.hid (sizeValueU _ f2 z0 z1 A2 c2 x2 l wr t2 (by omega) hxs)
        rw [← hs0] at SZ hts
        have HT := Lib.hid hts
        have HE := Lib.hid hle
        have HM := Lib.hid hsum
        unfold IntK.leftOf at SZ
        clear hts hle hsum hxs hs0
        by_cases hc : s0 ≤ l
        · rw [if_pos hc] at SZ
          obtain ⟨l', rfl⟩ : ∃ l', l = s0 + l' := ⟨l - s0, by omega⟩
          rw [show ((s0 + l' : Nat) : Int) - ((s0 : Nat) : Int) = (l' : Int) by omega] at SZ
          have hl0 : decide ((l' : Int) < 0) = false := decide_eq_false (by omega)
          clear hc
          go_wp2_with fail
          refine (Calls.mono SZ.out) ?_
          rintro e w1 ⟨rfl, b1⟩
          have B1 := Lib.hid (hb.trans (b1.mono hb.size))
          clear b1
          go_wp2
          go_roundw
          case rel => exact ⟨k + 1, l', by omega, by go_num, rfl, by have := HM.out; have := HT.out; omega, B1.out⟩
          case measure => simp [intOf]; omega
        · rw [if_neg hc] at SZ
          have HR := Lib.hid (show IntK.leftOf L (xs.length + szs szValueU xs) = -1 from if_neg (by have := HM.out; have := HT.out; have := HE.out; omega))
          clear hc
          go_wp2_with fail
          refine (Calls.mono SZ.out) ?_
          rintro e w1 ⟨rfl, b1⟩
          have B1 := Lib.hid (hb.trans (b1.mono hb.size))
          clear b1
          go_wp2
          go_ret
          exact ⟨by rw [HR.out]; rfl, B1.out⟩
      · obtain rfl : k = xs.length := by omega
        rw [List.take_length] at hsum
        have HR := Lib.hid (show IntK.leftOf L (xs.length + szs szValueU xs) = (l : Int) by
          unfold IntK.leftOf
          rw [if_pos (by omega)]
          omega)
        clear hsum
        go_wp2
        go_ret
        exact ⟨by rw [HR.out]; rfl, hb⟩
  · have HR := Lib.hid (show IntK.leftOf L (xs.length + szs szValueU xs) = -1 from if_neg (by omega))
    have hlt0 : decide ((L : Int) - (xs.length : Int) < 0) = true := decide_eq_true (by omega)
    clear hs
    go_enter Tryz.func25, Tryz.ntmps25
    go_wp2
    go_ret
    exact ⟨by rw [HR.out]; rfl, Below.refl _ _⟩

set_option maxHeartbeats 4000000 in
set_option maxRecDepth 100000 in
theorem eqValueSU (q q2 : Bool) (fp gp : List Nat) (A B : Option Addr) (c d : Nat) (xs : List ValueT) (w : World) (hA : (Rep.slice valu).rep q w fp [.slice A xs.length c] xs) (hB : (Rep.slice valu).rep q2 w gp [.slice B xs.length d] xs) (hl : xs.length + szs szValueU xs ≤ 100000000) :
    Calls Tryz.prog 30 #[.slice A xs.length c, .slice B xs.length d] w fun e w' => e = .returned (.bool true) ∧ Below w.heap.size w w' := by
  have HL := Lib.hid hl
  clear hl
  have hxl : xs.length ≤ 1000000000 := by have := HL.out; omega
  go_enter Tryz.func30, Tryz.ntmps30
  go_wp2
  go_loopw [5] (fun i wr => ∃ k : Nat, k ≤ xs.length ∧ i = .int .i64 k ∧ Below w.heap.size w wr) (fun i _ => xs.length - (intOf i).toNat)
  case atStart => exact ⟨0, Nat.zero_le _, rfl, Below.refl _ _⟩
  case round =>
    obtain ⟨k, hk, rfl, hb⟩ := hrel
    by_cases hlt : k < xs.length
    · obtain ⟨b, o, A2, c2, f2, rfl, hbb, g0, g1, g2, t2⟩ := valus_at (Rep.below hA hb) hlt
      obtain ⟨b', o', A2', c2', f2', rfl, hbb', g0', g1', g2', t2'⟩ := valus_at (Rep.below hB hb) hlt
      have hs9 : szValueU xs[k] ≤ 100000000 := by
        have := HL.out
        have := szs_mem (sz := szValueU) (List.getElem_mem hlt)
        omega
      generalize xs[k] = x at *
      obtain ⟨z0, z1, x2⟩ := x
      simp only at g0 g0' g1 g1' g2 g2' t2 t2'
      have hd : Below wr.heap.size wr wr.drew := (Below.refl _ _).drew
      have EQ := Lib.hid (eqValueU _ _ f2 f2' z0 z1 A2 c2 x2 A2' c2' wr.drew (Rep.below t2 hd) (Rep.below t2' hd) hs9)
      have hi0 : (0 : Int) ≤ (k : Int) := by omega
      have hi1 : (k : Int) < (xs.length : Int) := by omega
      clear hd
      go_wp2_with fail
      go_region_law (first
        | (go_simp; go_at_call 62; refine (Calls.mono EQ.out) ?_; rintro e w1 ⟨rfl, b1⟩))
      all_goals
        have B1' := Lib.hid (hb.trans (((Below.refl wr.heap.size wr).drew.trans b1).mono hb.size))
        clear b1
        go_wp2
        go_roundw
        case rel => exact ⟨k + 1, by omega, by go_num, B1'.out⟩
        case measure => simp [intOf]; omega
    · go_wp2
      go_ret
      exact ⟨rfl, hb⟩

end Mem
end Go.Proofs.YtgpjgjjadhmkhaaGreat

/-
  The laws' helpers on Outcome: copies, sizes, comparison, marks (made by tools/ukit.py).
-/
namespace Go.Proofs.YtgpjgjjadhmkhaaGreat
open Go.RowKit
namespace Mem
open RowK

abbrev OutcomeT := Int × ValueT × Int × Int
end Mem
end Go.Proofs.YtgpjgjjadhmkhaaGreat

/-
  Values and outcomes: equality is decided (made by tools/s12.py).
-/
namespace Go.Proofs.YtgpjgjjadhmkhaaGreat
namespace Mem
instance decValue : DecidableEq ValueT := fun a b => inferInstanceAs (Decidable ((a : Bool × Int × List Int) = b))
instance decOutcome : DecidableEq OutcomeT := fun a b => inferInstanceAs (Decidable ((a : Int × ValueT × Int × Int) = b))
end Mem
end Go.Proofs.YtgpjgjjadhmkhaaGreat
