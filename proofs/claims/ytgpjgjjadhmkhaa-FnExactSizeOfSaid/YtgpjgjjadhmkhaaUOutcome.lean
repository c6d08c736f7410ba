import Derived.Test.YtgpjgjjadhmkhaaRepUni
import Derived.Test.YtgpjgjjadhmkhaaRepInt
import Derived.Deep.RegionLaw
import Derived.Deep.RegionHeld3
/-
  The laws' helpers on Value: copies, sizes, comparison, marks (made by tools/ukit.py).
-/
namespace Go.Proofs.Ytgpjgjjadhmkhaa
open Go.RowKit
namespace Mem
open RowK

abbrev ValueT := Bool × Int × List Int
def valu : Rep ValueT := Rep.prod Rep.bool (Rep.prod Rep.int (Rep.slice Rep.int))
theorem valu_open {q : Bool} {w : World} {fp : List Nat} {cs : List Value} {p : ValueT} (h : valu.rep q w fp cs p) : ∃ (A2 : Option Addr) (c2 : Nat) (f2 : List Nat), fp = f2 ∧ cs = [.bool p.1, .int .i64 p.2.1, .slice A2 p.2.2.length c2] ∧ (Rep.slice Rep.int).rep q w f2 [.slice A2 p.2.2.length c2] p.2.2 := by
  obtain ⟨g0, g0', d0, d0', rfl, rfl, k0, h'⟩ := h
  obtain ⟨rfl, rfl⟩ := k0
  obtain ⟨g1, g1', d1, d1', rfl, rfl, k1, h''⟩ := h'
  obtain ⟨rfl, rfl⟩ := k1
  have r2 := h''
  obtain ⟨A2, c2, rfl, _⟩ := h''
  exact ⟨A2, c2, _, by simp, rfl, r2⟩
theorem valu_close {q : Bool} {w : World} {A2 : Option Addr} {c2 : Nat} {f2 : List Nat} {x2 : List Int} (z0 : Bool) (z1 : Int) (h2 : (Rep.slice Rep.int).rep q w f2 [.slice A2 x2.length c2] x2) : valu.rep q w (f2) [.bool z0, .int .i64 z1, .slice A2 x2.length c2] (z0, z1, x2) := by
  have e : (f2 : List Nat) = [] ++ ([] ++ (f2)) := by simp
  rw [e]
  exact (show valu.rep q w ([] ++ ([] ++ (f2))) ([.bool z0] ++ ([.int .i64 z1] ++ ([.slice A2 x2.length c2]))) _ from ⟨_, _, _, _, rfl, rfl, ⟨rfl, rfl⟩, ⟨_, _, _, _, rfl, rfl, ⟨rfl, rfl⟩, h2⟩⟩)
theorem valu_parts {q : Bool} {w : World} {fp : List Nat} {A2 : Option Addr} {c2 : Nat} {x2 : List Int} {z0 : Bool} {z1 : Int} (h : valu.rep q w fp [.bool z0, .int .i64 z1, .slice A2 x2.length c2] (z0, z1, x2)) : ∃ f2, fp = f2 ∧ (Rep.slice Rep.int).rep q w f2 [.slice A2 x2.length c2] x2 := by
  obtain ⟨B2, e2, f2, hf, hc, r2⟩ := valu_open h
  injection hc with hc0 hc
  injection hc with hc1 hc
  injection hc with hc2 hc
  injection hc2 with ha2 _ hb2
  subst ha2; subst hb2
  exact ⟨f2, hf, r2⟩
theorem valus_at {q : Bool} {w : World} {fp : List Nat} {A : Option Addr} {n c : Nat} {xs : List ValueT} (h : (Rep.slice valu).rep q w fp [.slice A n c] xs) {k : Nat} (hk : k < xs.length) :
    ∃ b o A2 c2 f2, A = some ⟨b, o, none⟩ ∧ b < w.heap.size ∧ w.cell? ⟨b, o + k * 3, none⟩ = some (.bool xs[k].1) ∧ w.cell? ⟨b, o + k * 3 + 1, none⟩ = some (.int .i64 xs[k].2.1) ∧ w.cell? ⟨b, o + k * 3 + 2, none⟩ = some (.slice A2 xs[k].2.2.length c2) ∧ (Rep.slice Rep.int).rep q w f2 [.slice A2 xs[k].2.2.length c2] xs[k].2.2 := by
  obtain ⟨b, o, f, cs, rfl, hb, hr, hc, _⟩ := slice_at h hk
  obtain ⟨A2, c2, f2, _, rfl, r2⟩ := valu_open hr
  have hn : valu.n = 3 := rfl
  rw [hn] at hc
  exact ⟨b, o, A2, c2, f2, rfl, hb, hc 0 (by omega), hc 1 (by omega), hc 2 (by omega), r2⟩
theorem ArgS.valu_at {w : World} {A : Option Addr} {n c : Nat} {xs : List ValueT} (h : ArgS valu w A n c xs) {k : Nat} (hk : k < xs.length) :
    ∃ b o A2 c2, A = some ⟨b, o, none⟩ ∧ b < w.heap.size ∧ w.cell? ⟨b, o + k * 3, none⟩ = some (.bool xs[k].1) ∧ w.cell? ⟨b, o + k * 3 + 1, none⟩ = some (.int .i64 xs[k].2.1) ∧ w.cell? ⟨b, o + k * 3 + 2, none⟩ = some (.slice A2 xs[k].2.2.length c2) ∧ ArgS Rep.int w A2 xs[k].2.2.length c2 xs[k].2.2 := by
  obtain ⟨q, fp, h⟩ := h
  obtain ⟨b, o, A2, c2, f2, rfl, hb, h0, h1, h2, r2⟩ := valus_at h hk
  exact ⟨b, o, A2, c2, rfl, hb, h0, h1, h2, q, f2, r2⟩
def szValueU (x : ValueT) : Nat := (x.2.2.length + szs szInt x.2.2)
def WfValueU (x : ValueT) : Prop := True ∧ (Lit.int .i64 x.2.1).wf = true ∧ x.2.2.length ≤ 9223372036854775807 ∧ (∀ e ∈ x.2.2, WfInt e)
def mkValueU (k : Nat) (x : ValueT) : ValueT := (mb (k), ((k + 1 : Nat) : Int), mks mkInt nInt (k + 1 + 1) x.2.2)
def nValueU (x : ValueT) : Nat := 2 + szs nInt x.2.2
theorem nValueU_le (x : ValueT) : nValueU x ≤ 8 * (1 + szValueU x) := by
  have h2 := szs_bound nInt_le x.2.2
  unfold nValueU szValueU
  omega
def mvValue (k : Nat) (x : ValueT) : ValueT := (x.1, x.2.1, mks mkInt nInt (k) x.2.2)
def nvValue (x : ValueT) : Nat := szs nInt x.2.2
theorem nvValue_le (x : ValueT) : nvValue x ≤ 8 * szValueU x := by
  have h2 := szs_bound nInt_le x.2.2
  unfold nvValue szValueU
  omega
theorem infoValue : (Try.prog.info? 27).map (fun i => (i.zero, i.size, i.bytes)) = some (some (.agg #[.bool false, .int .i64 0, .slice none 0 0]), 3, 40) := by kernel_rfl
def zeroValue : El ValueT := ([], [.bool false, .int .i64 0, .slice none 0 0], (false, 0, []))
set_option maxHeartbeats 4000000 in
set_option maxRecDepth 100000 in
theorem copyValueU (q2 : Bool) (f2 : List Nat) (z0 : Bool) (z1 : Int) (A2 : Option Addr) (c2 : Nat) (x2 : List Int) (w : World) (h2 : (Rep.slice Rep.int).rep q2 w f2 [.slice A2 x2.length c2] x2) (hl : szValueU (z0, z1, x2) ≤ 100000000) :
    Calls Try.prog 8 #[.agg #[.bool z0, .int .i64 z1, .slice A2 x2.length c2]] w fun e w' => ∃ B2, e = .returned (.agg #[.bool z0, .int .i64 z1, .slice B2 x2.length x2.length]) ∧ OwnR valu w.heap.size w'.heap.size w' [.bool z0, .int .i64 z1, .slice B2 x2.length x2.length] (z0, z1, x2) ∧ Below w.heap.size w w' := by
  simp only [szValueU] at hl
  have CP0 := Lib.hid (fun W (h : Below w.heap.size w W) => copyIntSU q2 f2 A2 c2 x2 W (Rep.below h2 h) (by omega))
  clear hl h2
  go_enter Try.func8, Try.ntmps8
  go_wp2_with fail
  refine (Calls.mono (CP0.out _ (by repeat (first | with_reducible exact Below.refl _ _ | with_reducible exact Below.refl _ _ | refine Below.setCell ?_ (by first | omega | (simp; done) | (simp; omega)) _ | refine Below.alloc ?_ (by first | omega | (simp; done) | (simp; omega)) _)))) ?_
  rintro e w0 ⟨D2, rfl, o0, b0⟩
  have B0 : Below w.heap.size w w0 := below_step (by repeat (first | with_reducible exact Below.refl _ _ | with_reducible exact Below.refl _ _ | refine Below.setCell ?_ (by first | omega | (simp; done) | (simp; omega)) _ | refine Below.alloc ?_ (by first | omega | (simp; done) | (simp; omega)) _)) b0
  have hz0 := b0.size
  simp only [World.size_alloc] at hz0 o0
  have VA0 := (((Lvar.new w #[Value.bool z0, Value.int .i64 z1, Value.slice A2 x2.length c2] 24).alloc (Obj.cells #[Value.bool false, Value.int .i64 0, Value.slice none 0 0] 27)).alloc (Obj.cells #[Value.bool z0, Value.int .i64 z1, Value.slice none 0 0] 27)).below b0
  have VB0 := ((Lvar.new (w.alloc (Obj.cells #[Value.bool z0, Value.int .i64 z1, Value.slice A2 x2.length c2] 24)) #[Value.bool false, Value.int .i64 0, Value.slice none 0 0] 27).alloc (Obj.cells #[Value.bool z0, Value.int .i64 z1, Value.slice none 0 0] 27)).below b0
  have VC0 := (Lvar.new ((w.alloc (Obj.cells #[Value.bool z0, Value.int .i64 z1, Value.slice A2 x2.length c2] 24)).alloc (Obj.cells #[Value.bool false, Value.int .i64 0, Value.slice none 0 0] 27)) #[Value.bool z0, Value.int .i64 z1, Value.slice none 0 0] 27).below b0
  simp only [World.size_alloc] at VB0 VC0
  have cA0_0 := VA0.cell 0 _ rfl
  have cA0_1 := VA0.cell 1 _ rfl
  have cA0_2 := VA0.cell 2 _ rfl
  have cB0_0 := VB0.cell 0 _ rfl
  have cB0_1 := VB0.cell 1 _ rfl
  have cB0_2 := VB0.cell 2 _ rfl
  have yB0_0 := VB0.frozen 0
  have yB0_1 := VB0.frozen 1
  have yB0_2 := VB0.frozen 2
  have cC0_0 := VC0.cell 0 _ rfl
  have cC0_1 := VC0.cell 1 _ rfl
  have cC0_2 := VC0.cell 2 _ rfl
  have yC0_0 := VC0.frozen 0
  have yC0_1 := VC0.frozen 1
  have yC0_2 := VC0.frozen 2
  have VA0 := Lib.hid VA0
  have VB0 := Lib.hid VB0
  have VC0 := Lib.hid VC0
  clear b0
  go_wp2_with fail
  obtain ⟨T9, hT9⟩ := (show Lvar _ (w.heap.size + 1) #[Value.bool z0, Value.int .i64 z1, Value.slice D2 x2.length x2.length] from ((((VB0.out.other (p := ⟨w.heap.size + 1 + 1, 2, none⟩) (by first | omega | (simp; done) | (simp; omega)) (Value.slice D2 x2.length x2.length)).set 0 (Value.bool z0)).set 1 (Value.int .i64 z1)).set 2 (Value.slice D2 x2.length x2.length)))
  obtain ⟨i9, hi9, _, hs9, _⟩ := info_parts infoValue
  refine bodyPost_ret (results_cell_row rfl _ _ (w.heap.size + 1) T9 #[.bool z0, .int .i64 z1, .slice D2 x2.length x2.length] _ _ rfl hT9 Try.underlying27 rfl (by rw [hi9, Option.map_some, hs9]; rfl)) rfl ?_
  have key : ∀ {u : World}, Mod w.heap.size (w.heap.size + 3) w0 u → OwnR valu w.heap.size u.heap.size u [.bool z0, .int .i64 z1, .slice D2 x2.length x2.length] (z0, z1, x2) ∧ Below w.heap.size w u := fun {u} hm => by
    have hs := hm.size
    have o0 := OwnR.keep o0 hm (Or.inr (by omega))
    exact ⟨(OwnR.prod (mid := w.heap.size) (OwnR.bool (by omega) z0) (OwnR.prod (mid := w.heap.size) (OwnR.int (by omega) z1) (o0.wider (by omega) (by omega) (Nat.le_refl _)) (by omega) (by omega)) (by omega) (by omega)), below_mod B0 hm (Nat.le_refl _) B0.size⟩
  refine ⟨D2, rfl, key ?_⟩
  repeat (first | with_reducible exact Mod.refl _ _ _ | refine Mod.trans ?_ (Mod.set _ (by first | omega | (simp; done) | (simp; omega)) (by first | omega | (simp; done) | (simp; omega)) _))
set_option maxHeartbeats 4000000 in
set_option maxRecDepth 100000 in
theorem sizeValueU (q2 : Bool) (f2 : List Nat) (z0 : Bool) (z1 : Int) (A2 : Option Addr) (c2 : Nat) (x2 : List Int) (L : Nat) (w : World) (h2 : (Rep.slice Rep.int).rep q2 w f2 [.slice A2 x2.length c2] x2) (hL : L ≤ 1000000000) (hs : WfValueU (z0, z1, x2)) :
    Calls Try.prog 6 #[.agg #[.bool z0, .int .i64 z1, .slice A2 x2.length c2], .int .i64 L] w fun e w' => e = .returned (.int .i64 (IntK.leftOf L (szValueU (z0, z1, x2)))) ∧ Below w.heap.size w w' := by
  simp only [WfValueU] at hs
  obtain ⟨hs0, hs1, hs2a, hs2b⟩ := hs
  have B0 := Lib.hid ((Below.refl w.heap.size w).alloc (Nat.le_refl _) (Obj.cells #[Value.bool z0, Value.int .i64 z1, Value.slice A2 x2.length c2] 24))
  have V0 := Lib.hid (Lvar.new w #[Value.bool z0, Value.int .i64 z1, Value.slice A2 x2.length c2] 24)
  have SZ0 := fun W (h : Below w.heap.size w W) => sizeIntSU q2 f2 A2 c2 L x2 W (Rep.below h2 h) (by omega) hs2a hs2b
  unfold IntK.leftOf at SZ0
  by_cases g0 : (x2.length + szs szInt x2) ≤ L
  · obtain ⟨m0, hm0⟩ : ∃ m : Nat, m = L - (x2.length + szs szInt x2) := ⟨_, rfl⟩
    simp only [if_pos g0, show ((L : Nat) : Int) - (((x2.length + szs szInt x2) : Nat) : Int) = (m0 : Int) by omega] at SZ0
    have hd0 : decide ((m0 : Int) < 0) = false := decide_eq_false (by omega)
    have HM0 := Lib.hid (show m0 + (x2.length + szs szInt x2) = L by omega)
    have SZ0 := Lib.hid SZ0
    have hL0 : m0 ≤ 1000000000 := by omega
    clear g0 hm0
    have HR := Lib.hid (show IntK.leftOf L (szValueU (z0, z1, x2)) = (m0 : Int) by simp only [szValueU]; unfold IntK.leftOf; have := HM0.out; rw [if_pos (by omega)]; omega)
    clear hs0 hs1 hs2a hs2b h2
    go_enter Try.func6, Try.ntmps6
    go_wp2_with fail
    refine (Calls.mono (SZ0.out _ B0.out)) ?_
    rintro e w1 ⟨rfl, b1⟩
    have B1 := Lib.hid (below_step B0.out b1)
    have V1 := Lib.hid (V0.out.below b1)
    clear b1
    have v1_0 := V1.out.cell 0 _ rfl
    have v1_1 := V1.out.cell 1 _ rfl
    have v1_2 := V1.out.cell 2 _ rfl
    go_wp2
    go_ret
    exact ⟨by rw [HR.out]; rfl, B1.out⟩
  · have HM := Lib.hid g0
    simp only [if_neg g0] at SZ0
    have SZ0 := Lib.hid SZ0
    clear g0
    have HR := Lib.hid (show IntK.leftOf L (szValueU (z0, z1, x2)) = -1 by simp only [szValueU]; unfold IntK.leftOf; have := HM.out; rw [if_neg (by omega)])
    clear hs0 hs1 hs2a hs2b h2
    go_enter Try.func6, Try.ntmps6
    go_wp2_with fail
    refine (Calls.mono (SZ0.out _ B0.out)) ?_
    rintro e w1 ⟨rfl, b1⟩
    have B1 := Lib.hid (below_step B0.out b1)
    have V1 := Lib.hid (V0.out.below b1)
    clear b1
    have v1_0 := V1.out.cell 0 _ rfl
    have v1_1 := V1.out.cell 1 _ rfl
    have v1_2 := V1.out.cell 2 _ rfl
    go_wp2
    go_ret
    exact ⟨by rw [HR.out]; rfl, B1.out⟩
set_option maxHeartbeats 4000000 in
set_option maxRecDepth 100000 in
theorem eqValueU (q2 p2 : Bool) (f2 g2 : List Nat) (z0 : Bool) (z1 : Int) (A2 : Option Addr) (c2 : Nat) (x2 : List Int) (B2 : Option Addr) (d2 : Nat) (w : World) (h2 : (Rep.slice Rep.int).rep q2 w f2 [.slice A2 x2.length c2] x2) (k2 : (Rep.slice Rep.int).rep p2 w g2 [.slice B2 x2.length d2] x2) (hl : szValueU (z0, z1, x2) ≤ 100000000) :
    Calls Try.prog 10 #[.agg #[.bool z0, .int .i64 z1, .slice A2 x2.length c2], .agg #[.bool z0, .int .i64 z1, .slice B2 x2.length d2]] w fun e w' => e = .returned (.bool true) ∧ Below w.heap.size w w' := by
  simp only [szValueU] at hl
  have EQ0 := Lib.hid (fun W (h : Below w.heap.size w W) => eqIntSU q2 p2 f2 g2 A2 B2 c2 d2 x2 W (Rep.below h2 h) (Rep.below k2 h) (by omega))
  have BB0 := Lib.hid (((Below.refl w.heap.size w).alloc (Nat.le_refl _) (Obj.cells #[Value.bool z0, Value.int .i64 z1, Value.slice A2 x2.length c2] 27)).alloc (by simp) (Obj.cells #[Value.bool z0, Value.int .i64 z1, Value.slice B2 x2.length d2] 27))
  have V0 := Lib.hid ((Lvar.new w #[Value.bool z0, Value.int .i64 z1, Value.slice A2 x2.length c2] 27).alloc (Obj.cells #[Value.bool z0, Value.int .i64 z1, Value.slice B2 x2.length d2] 27))
  have U0 := Lib.hid (Lvar.new (w.alloc (Obj.cells #[Value.bool z0, Value.int .i64 z1, Value.slice A2 x2.length c2] 27)) #[Value.bool z0, Value.int .i64 z1, Value.slice B2 x2.length d2] 27)
  simp only [World.size_alloc] at U0
  clear hl h2 k2
  go_enter Try.func10, Try.ntmps10
  go_wp2_with fail
  refine (Calls.mono (EQ0.out _ ?_)) ?_
  · first | exact BB0.out | exact BB0.out.drew | exact below_drewN BB0.out _
  rintro e w1 ⟨rfl, b1⟩
  have BB1 := Lib.hid (show Below w.heap.size w w1 from by first | exact BB0.out.trans (b1.mono BB0.out.size) | exact BB0.out.drew.trans (b1.mono BB0.out.size) | exact (below_drewN BB0.out _).trans (b1.mono BB0.out.size))
  have V1 := Lib.hid (show Lvar w1 _ _ from by first | exact V0.out.below b1 | exact (V0.out.below (Below.refl _ _).drew).below b1)
  have v1_0 := V1.out.cell 0 _ rfl
  have v1_1 := V1.out.cell 1 _ rfl
  have v1_2 := V1.out.cell 2 _ rfl
  have U1 := Lib.hid (show Lvar w1 _ _ from by first | exact U0.out.below b1 | exact (U0.out.below (Below.refl _ _).drew).below b1)
  have u1_0 := U1.out.cell 0 _ rfl
  have u1_1 := U1.out.cell 1 _ rfl
  have u1_2 := U1.out.cell 2 _ rfl
  clear b1
  go_wp2
  go_ret
  exact ⟨rfl, BB1.out⟩
theorem copyValueA (z0 : Bool) (z1 : Int) (A2 : Option Addr) (c2 : Nat) (x2 : List Int) (w : World) (h : ArgR valu w [.bool z0, .int .i64 z1, .slice A2 x2.length c2] (z0, z1, x2)) (hl : szValueU (z0, z1, x2) ≤ 100000000) :
    Calls Try.prog 8 #[.agg #[.bool z0, .int .i64 z1, .slice A2 x2.length c2]] w fun e w' => ∃ B2, e = .returned (.agg #[.bool z0, .int .i64 z1, .slice B2 x2.length x2.length]) ∧ OwnR valu w.heap.size w'.heap.size w' [.bool z0, .int .i64 z1, .slice B2 x2.length x2.length] (z0, z1, x2) ∧ Below w.heap.size w w' := by
  obtain ⟨q, fp, h⟩ := h
  obtain ⟨f2, _, h2⟩ := valu_parts h
  exact copyValueU q f2 z0 z1 A2 c2 x2 w h2 hl
theorem sizeValueA (z0 : Bool) (z1 : Int) (A2 : Option Addr) (c2 : Nat) (x2 : List Int) (L : Nat) (w : World) (h : ArgR valu w [.bool z0, .int .i64 z1, .slice A2 x2.length c2] (z0, z1, x2)) (hL : L ≤ 1000000000) (hs : WfValueU (z0, z1, x2)) :
    Calls Try.prog 6 #[.agg #[.bool z0, .int .i64 z1, .slice A2 x2.length c2], .int .i64 L] w fun e w' => e = .returned (.int .i64 (IntK.leftOf L (szValueU (z0, z1, x2)))) ∧ Below w.heap.size w w' := by
  obtain ⟨q, fp, h⟩ := h
  obtain ⟨f2, _, h2⟩ := valu_parts h
  exact sizeValueU q f2 z0 z1 A2 c2 x2 L w h2 hL hs
theorem eqValueA (z0 : Bool) (z1 : Int) (A2 : Option Addr) (c2 : Nat) (x2 : List Int) (B2 : Option Addr) (d2 : Nat) (w : World) (h : ArgR valu w [.bool z0, .int .i64 z1, .slice A2 x2.length c2] (z0, z1, x2)) (k : ArgR valu w [.bool z0, .int .i64 z1, .slice B2 x2.length d2] (z0, z1, x2)) (hl : szValueU (z0, z1, x2) ≤ 100000000) :
    Calls Try.prog 10 #[.agg #[.bool z0, .int .i64 z1, .slice A2 x2.length c2], .agg #[.bool z0, .int .i64 z1, .slice B2 x2.length d2]] w fun e w' => e = .returned (.bool true) ∧ Below w.heap.size w w' := by
  obtain ⟨q, fp, h⟩ := h
  obtain ⟨f2, _, h2⟩ := valu_parts h
  obtain ⟨p, gp, k⟩ := k
  obtain ⟨g2, _, k2⟩ := valu_parts k
  exact eqValueU q p f2 g2 z0 z1 A2 c2 x2 B2 d2 w h2 k2 hl
theorem run_mkValueU (n : Nat) (hn : n ≤ 100000000000) (u : World) : (Instr.makeSlice 47 (.int .i64 (n : Int)) (.int .i64 (n : Int))).run Try.prog u =
    .ok (.slice (some ⟨u.heap.size, 0, none⟩) n n) (u.alloc (.cells (madeCells #[.bool false, .int .i64 0, .slice none 0 0] (n * 3)) 27)) := by
  obtain ⟨i0, hi, hz0, hz1, hz2⟩ := info_parts infoValue
  have h := run_make (P := Try.prog) u 47 27 i0 (.agg #[.bool false, .int .i64 0, .slice none 0 0]) Try.underlying47 hi hz0 .i64 .i64 (n : Int) (n : Int) (by omega) (Int.le_refl _) (by rw [hz2]; omega) (by omega)
  simpa [hz1, Value.cells] using h
def SzValueU (w : World) (xs : List ValueT) (m : Nat) (x i : Value) (wr : World) : Prop :=
  ∃ k l : Nat, k ≤ xs.length ∧ i = .int .i64 k ∧ x = .int .i64 l ∧ l + szs szValueU (xs.take k) + xs.length = m ∧ Below w.heap.size w wr
def HeldValueU (w : World) (xs : List ValueT) (k0 : Nat) (x i : Value) (wr : World) : Prop :=
  ∃ k l : Nat, k ≤ xs.length ∧ i = .int .i64 k ∧ x = .int .i64 l ∧ l = k0 + szs nValueU (xs.take k) ∧ Below w.heap.size w wr
end Mem
end Go.Proofs.Ytgpjgjjadhmkhaa

/-
  The laws' helpers on Outcome: copies, sizes, comparison, marks (made by tools/ukit.py).
-/
namespace Go.Proofs.Ytgpjgjjadhmkhaa
open Go.RowKit
namespace Mem
open RowK

abbrev OutcomeT := Int × ValueT × Int × Int
def outc : Rep OutcomeT := Rep.prod Rep.int (Rep.prod valu (Rep.prod Rep.int Rep.int))
theorem outc_open {q : Bool} {w : World} {fp : List Nat} {cs : List Value} {p : OutcomeT} (h : outc.rep q w fp cs p) : ∃ (A3 : Option Addr) (c3 : Nat) (f3 : List Nat), fp = f3 ∧ cs = [.int .i64 p.1, .bool p.2.1.1, .int .i64 p.2.1.2.1, .slice A3 p.2.1.2.2.length c3, .int .i64 p.2.2.1, .int .i64 p.2.2.2] ∧ (Rep.slice Rep.int).rep q w f3 [.slice A3 p.2.1.2.2.length c3] p.2.1.2.2 := by
  obtain ⟨g0, g0', d0, d0', rfl, rfl, k0, h'⟩ := h
  obtain ⟨rfl, rfl⟩ := k0
  obtain ⟨g1, g1', d1, d1', rfl, rfl, k1, h''⟩ := h'
  obtain ⟨g2, g2', d2, d2', rfl, rfl, k2, k1'⟩ := k1
  obtain ⟨rfl, rfl⟩ := k2
  obtain ⟨g3, g3', d3, d3', rfl, rfl, k3, k1''⟩ := k1'
  obtain ⟨rfl, rfl⟩ := k3
  have r3 := k1''
  obtain ⟨A3, c3, rfl, _⟩ := k1''
  obtain ⟨g4, g4', d4, d4', rfl, rfl, k4, h'''⟩ := h''
  obtain ⟨rfl, rfl⟩ := k4
  obtain ⟨rfl, rfl⟩ := h'''
  exact ⟨A3, c3, _, by simp, rfl, r3⟩
theorem outc_close {q : Bool} {w : World} {A3 : Option Addr} {c3 : Nat} {f3 : List Nat} {x3 : List Int} (z0 : Int) (z1 : Bool) (z2 : Int) (z4 : Int) (z5 : Int) (h3 : (Rep.slice Rep.int).rep q w f3 [.slice A3 x3.length c3] x3) : outc.rep q w (f3) [.int .i64 z0, .bool z1, .int .i64 z2, .slice A3 x3.length c3, .int .i64 z4, .int .i64 z5] (z0, (z1, z2, x3), z4, z5) := by
  have e : (f3 : List Nat) = [] ++ (([] ++ ([] ++ (f3))) ++ ([] ++ ([]))) := by simp
  rw [e]
  exact (show outc.rep q w ([] ++ (([] ++ ([] ++ (f3))) ++ ([] ++ ([])))) ([.int .i64 z0] ++ (([.bool z1] ++ ([.int .i64 z2] ++ ([.slice A3 x3.length c3]))) ++ ([.int .i64 z4] ++ ([.int .i64 z5])))) _ from ⟨_, _, _, _, rfl, rfl, ⟨rfl, rfl⟩, ⟨_, _, _, _, rfl, rfl, ⟨_, _, _, _, rfl, rfl, ⟨rfl, rfl⟩, ⟨_, _, _, _, rfl, rfl, ⟨rfl, rfl⟩, h3⟩⟩, ⟨_, _, _, _, rfl, rfl, ⟨rfl, rfl⟩, ⟨rfl, rfl⟩⟩⟩⟩)
theorem outc_parts {q : Bool} {w : World} {fp : List Nat} {A3 : Option Addr} {c3 : Nat} {x3 : List Int} {z0 : Int} {z1 : Bool} {z2 : Int} {z4 : Int} {z5 : Int} (h : outc.rep q w fp [.int .i64 z0, .bool z1, .int .i64 z2, .slice A3 x3.length c3, .int .i64 z4, .int .i64 z5] (z0, (z1, z2, x3), z4, z5)) : ∃ f3, fp = f3 ∧ (Rep.slice Rep.int).rep q w f3 [.slice A3 x3.length c3] x3 := by
  obtain ⟨B3, e3, f3, hf, hc, r3⟩ := outc_open h
  injection hc with hc0 hc
  injection hc with hc1 hc
  injection hc with hc2 hc
  injection hc with hc3 hc
  injection hc with hc4 hc
  injection hc with hc5 hc
  injection hc3 with ha3 _ hb3
  subst ha3; subst hb3
  exact ⟨f3, hf, r3⟩
theorem outcs_at {q : Bool} {w : World} {fp : List Nat} {A : Option Addr} {n c : Nat} {xs : List OutcomeT} (h : (Rep.slice outc).rep q w fp [.slice A n c] xs) {k : Nat} (hk : k < xs.length) :
    ∃ b o A3 c3 f3, A = some ⟨b, o, none⟩ ∧ b < w.heap.size ∧ w.cell? ⟨b, o + k * 6, none⟩ = some (.int .i64 xs[k].1) ∧ w.cell? ⟨b, o + k * 6 + 1, none⟩ = some (.bool xs[k].2.1.1) ∧ w.cell? ⟨b, o + k * 6 + 2, none⟩ = some (.int .i64 xs[k].2.1.2.1) ∧ w.cell? ⟨b, o + k * 6 + 3, none⟩ = some (.slice A3 xs[k].2.1.2.2.length c3) ∧ w.cell? ⟨b, o + k * 6 + 4, none⟩ = some (.int .i64 xs[k].2.2.1) ∧ w.cell? ⟨b, o + k * 6 + 5, none⟩ = some (.int .i64 xs[k].2.2.2) ∧ (Rep.slice Rep.int).rep q w f3 [.slice A3 xs[k].2.1.2.2.length c3] xs[k].2.1.2.2 := by
  obtain ⟨b, o, f, cs, rfl, hb, hr, hc, _⟩ := slice_at h hk
  obtain ⟨A3, c3, f3, _, rfl, r3⟩ := outc_open hr
  have hn : outc.n = 6 := rfl
  rw [hn] at hc
  exact ⟨b, o, A3, c3, f3, rfl, hb, hc 0 (by omega), hc 1 (by omega), hc 2 (by omega), hc 3 (by omega), hc 4 (by omega), hc 5 (by omega), r3⟩
theorem ArgS.outc_at {w : World} {A : Option Addr} {n c : Nat} {xs : List OutcomeT} (h : ArgS outc w A n c xs) {k : Nat} (hk : k < xs.length) :
    ∃ b o A3 c3, A = some ⟨b, o, none⟩ ∧ b < w.heap.size ∧ w.cell? ⟨b, o + k * 6, none⟩ = some (.int .i64 xs[k].1) ∧ w.cell? ⟨b, o + k * 6 + 1, none⟩ = some (.bool xs[k].2.1.1) ∧ w.cell? ⟨b, o + k * 6 + 2, none⟩ = some (.int .i64 xs[k].2.1.2.1) ∧ w.cell? ⟨b, o + k * 6 + 3, none⟩ = some (.slice A3 xs[k].2.1.2.2.length c3) ∧ w.cell? ⟨b, o + k * 6 + 4, none⟩ = some (.int .i64 xs[k].2.2.1) ∧ w.cell? ⟨b, o + k * 6 + 5, none⟩ = some (.int .i64 xs[k].2.2.2) ∧ ArgS Rep.int w A3 xs[k].2.1.2.2.length c3 xs[k].2.1.2.2 := by
  obtain ⟨q, fp, h⟩ := h
  obtain ⟨b, o, A3, c3, f3, rfl, hb, h0, h1, h2, h3, h4, h5, r3⟩ := outcs_at h hk
  exact ⟨b, o, A3, c3, rfl, hb, h0, h1, h2, h3, h4, h5, q, f3, r3⟩
def szOutcomeU (x : OutcomeT) : Nat := szValueU x.2.1
def WfOutcomeU (x : OutcomeT) : Prop := (Lit.int .i64 x.1).wf = true ∧ WfValueU x.2.1 ∧ (Lit.int .i64 x.2.2.1).wf = true ∧ (Lit.int .i64 x.2.2.2).wf = true
def mkOutcomeU (k : Nat) (x : OutcomeT) : OutcomeT := (((k : Nat) : Int), (mb (k + 1), ((k + 1 + 1 : Nat) : Int), mks mkInt nInt (k + 1 + 1 + 1) x.2.1.2.2), ((k + 1 + 1 + 1 + szs nInt x.2.1.2.2 : Nat) : Int), ((k + 1 + 1 + 1 + szs nInt x.2.1.2.2 + 1 : Nat) : Int))
def nOutcomeU (x : OutcomeT) : Nat := 5 + szs nInt x.2.1.2.2
theorem nOutcomeU_le (x : OutcomeT) : nOutcomeU x ≤ 8 * (1 + szOutcomeU x) := by
  have h3 := szs_bound nInt_le x.2.1.2.2
  unfold nOutcomeU szOutcomeU szValueU
  omega
def mvOutcome (k : Nat) (x : OutcomeT) : OutcomeT := (x.1, (x.2.1.1, x.2.1.2.1, mks mkInt nInt (k) x.2.1.2.2), x.2.2.1, x.2.2.2)
def nvOutcome (x : OutcomeT) : Nat := szs nInt x.2.1.2.2
theorem nvOutcome_le (x : OutcomeT) : nvOutcome x ≤ 8 * szOutcomeU x := by
  have h3 := szs_bound nInt_le x.2.1.2.2
  unfold nvOutcome szOutcomeU szValueU
  omega
theorem infoOutcome : (Try.prog.info? 37).map (fun i => (i.zero, i.size, i.bytes)) = some (some (.agg #[.int .i64 0, .bool false, .int .i64 0, .slice none 0 0, .int .i64 0, .int .i64 0]), 6, 64) := by kernel_rfl
def zeroOutcome : El OutcomeT := ([], [.int .i64 0, .bool false, .int .i64 0, .slice none 0 0, .int .i64 0, .int .i64 0], (0, (false, 0, []), 0, 0))
set_option maxHeartbeats 4000000 in
set_option maxRecDepth 100000 in
theorem copyOutcomeU (q3 : Bool) (f3 : List Nat) (z0 : Int) (z1 : Bool) (z2 : Int) (A3 : Option Addr) (c3 : Nat) (x3 : List Int) (z4 : Int) (z5 : Int) (w : World) (h3 : (Rep.slice Rep.int).rep q3 w f3 [.slice A3 x3.length c3] x3) (hl : szOutcomeU (z0, (z1, z2, x3), z4, z5) ≤ 100000000) :
    Calls Try.prog 15 #[.agg #[.int .i64 z0, .bool z1, .int .i64 z2, .slice A3 x3.length c3, .int .i64 z4, .int .i64 z5]] w fun e w' => ∃ B3, e = .returned (.agg #[.int .i64 z0, .bool z1, .int .i64 z2, .slice B3 x3.length x3.length, .int .i64 z4, .int .i64 z5]) ∧ OwnR outc w.heap.size w'.heap.size w' [.int .i64 z0, .bool z1, .int .i64 z2, .slice B3 x3.length x3.length, .int .i64 z4, .int .i64 z5] (z0, (z1, z2, x3), z4, z5) ∧ Below w.heap.size w w' := by
  simp only [szOutcomeU] at hl
  have CP0 := Lib.hid (fun W (h : Below w.heap.size w W) => copyValueU q3 f3 z1 z2 A3 c3 x3 W (Rep.below h3 h) (by simp only [szValueU] at hl ⊢; omega))
  clear hl h3
  go_enter Try.func15, Try.ntmps15
  go_wp2_with fail
  refine (Calls.mono (CP0.out _ (by repeat (first | with_reducible exact Below.refl _ _ | with_reducible exact Below.refl _ _ | refine Below.setCell ?_ (by first | omega | (simp; done) | (simp; omega)) _ | refine Below.alloc ?_ (by first | omega | (simp; done) | (simp; omega)) _)))) ?_
  rintro e w0 ⟨D3, rfl, o0, b0⟩
  have B0 : Below w.heap.size w w0 := below_step (by repeat (first | with_reducible exact Below.refl _ _ | with_reducible exact Below.refl _ _ | refine Below.setCell ?_ (by first | omega | (simp; done) | (simp; omega)) _ | refine Below.alloc ?_ (by first | omega | (simp; done) | (simp; omega)) _)) b0
  have hz0 := b0.size
  simp only [World.size_alloc] at hz0 o0
  have VA0 := (((Lvar.new w #[Value.int .i64 z0, Value.bool z1, Value.int .i64 z2, Value.slice A3 x3.length c3, Value.int .i64 z4, Value.int .i64 z5] 33).alloc (Obj.cells #[Value.int .i64 0, Value.bool false, Value.int .i64 0, Value.slice none 0 0, Value.int .i64 0, Value.int .i64 0] 37)).alloc (Obj.cells #[Value.int .i64 z0, Value.bool false, Value.int .i64 0, Value.slice none 0 0, Value.int .i64 0, Value.int .i64 0] 37)).below b0
  have VB0 := ((Lvar.new (w.alloc (Obj.cells #[Value.int .i64 z0, Value.bool z1, Value.int .i64 z2, Value.slice A3 x3.length c3, Value.int .i64 z4, Value.int .i64 z5] 33)) #[Value.int .i64 0, Value.bool false, Value.int .i64 0, Value.slice none 0 0, Value.int .i64 0, Value.int .i64 0] 37).alloc (Obj.cells #[Value.int .i64 z0, Value.bool false, Value.int .i64 0, Value.slice none 0 0, Value.int .i64 0, Value.int .i64 0] 37)).below b0
  have VC0 := (Lvar.new ((w.alloc (Obj.cells #[Value.int .i64 z0, Value.bool z1, Value.int .i64 z2, Value.slice A3 x3.length c3, Value.int .i64 z4, Value.int .i64 z5] 33)).alloc (Obj.cells #[Value.int .i64 0, Value.bool false, Value.int .i64 0, Value.slice none 0 0, Value.int .i64 0, Value.int .i64 0] 37)) #[Value.int .i64 z0, Value.bool false, Value.int .i64 0, Value.slice none 0 0, Value.int .i64 0, Value.int .i64 0] 37).below b0
  simp only [World.size_alloc] at VB0 VC0
  have cA0_0 := VA0.cell 0 _ rfl
  have cA0_1 := VA0.cell 1 _ rfl
  have cA0_2 := VA0.cell 2 _ rfl
  have cA0_3 := VA0.cell 3 _ rfl
  have cA0_4 := VA0.cell 4 _ rfl
  have cA0_5 := VA0.cell 5 _ rfl
  have cB0_0 := VB0.cell 0 _ rfl
  have cB0_1 := VB0.cell 1 _ rfl
  have cB0_2 := VB0.cell 2 _ rfl
  have cB0_3 := VB0.cell 3 _ rfl
  have cB0_4 := VB0.cell 4 _ rfl
  have cB0_5 := VB0.cell 5 _ rfl
  have yB0_0 := VB0.frozen 0
  have yB0_1 := VB0.frozen 1
  have yB0_2 := VB0.frozen 2
  have yB0_3 := VB0.frozen 3
  have yB0_4 := VB0.frozen 4
  have yB0_5 := VB0.frozen 5
  have cC0_0 := VC0.cell 0 _ rfl
  have cC0_1 := VC0.cell 1 _ rfl
  have cC0_2 := VC0.cell 2 _ rfl
  have cC0_3 := VC0.cell 3 _ rfl
  have cC0_4 := VC0.cell 4 _ rfl
  have cC0_5 := VC0.cell 5 _ rfl
  have yC0_0 := VC0.frozen 0
  have yC0_1 := VC0.frozen 1
  have yC0_2 := VC0.frozen 2
  have yC0_3 := VC0.frozen 3
  have yC0_4 := VC0.frozen 4
  have yC0_5 := VC0.frozen 5
  have VA0 := Lib.hid VA0
  have VB0 := Lib.hid VB0
  have VC0 := Lib.hid VC0
  clear b0
  go_wp2_with fail
  obtain ⟨T9, hT9⟩ := (show Lvar _ (w.heap.size + 1) #[Value.int .i64 z0, Value.bool z1, Value.int .i64 z2, Value.slice D3 x3.length x3.length, Value.int .i64 z4, Value.int .i64 z5] from (((((((((((VB0.out.other (p := ⟨w.heap.size + 1 + 1, 1, none⟩) (by first | omega | (simp; done) | (simp; omega)) (Value.bool z1)).other (p := ⟨w.heap.size + 1 + 1, 2, none⟩) (by first | omega | (simp; done) | (simp; omega)) (Value.int .i64 z2)).other (p := ⟨w.heap.size + 1 + 1, 3, none⟩) (by first | omega | (simp; done) | (simp; omega)) (Value.slice D3 x3.length x3.length)).other (p := ⟨w.heap.size + 1 + 1, 4, none⟩) (by first | omega | (simp; done) | (simp; omega)) (Value.int .i64 z4)).other (p := ⟨w.heap.size + 1 + 1, 5, none⟩) (by first | omega | (simp; done) | (simp; omega)) (Value.int .i64 z5)).set 0 (Value.int .i64 z0)).set 1 (Value.bool z1)).set 2 (Value.int .i64 z2)).set 3 (Value.slice D3 x3.length x3.length)).set 4 (Value.int .i64 z4)).set 5 (Value.int .i64 z5)))
  obtain ⟨i9, hi9, _, hs9, _⟩ := info_parts infoOutcome
  refine bodyPost_ret (results_cell_row rfl _ _ (w.heap.size + 1) T9 #[.int .i64 z0, .bool z1, .int .i64 z2, .slice D3 x3.length x3.length, .int .i64 z4, .int .i64 z5] _ _ rfl hT9 Try.underlying37 rfl (by rw [hi9, Option.map_some, hs9]; rfl)) rfl ?_
  have key : ∀ {u : World}, Mod w.heap.size (w.heap.size + 3) w0 u → OwnR outc w.heap.size u.heap.size u [.int .i64 z0, .bool z1, .int .i64 z2, .slice D3 x3.length x3.length, .int .i64 z4, .int .i64 z5] (z0, (z1, z2, x3), z4, z5) ∧ Below w.heap.size w u := fun {u} hm => by
    have hs := hm.size
    have o0 := OwnR.keep o0 hm (Or.inr (by omega))
    exact ⟨(OwnR.prod (mid := w.heap.size) (OwnR.int (by omega) z0) (OwnR.prod (mid := w0.heap.size) (o0.wider (lo' := w.heap.size) (hi' := w0.heap.size) (by omega) (by omega) (by omega)) (OwnR.prod (mid := w0.heap.size) (OwnR.int (by omega) z4) (OwnR.int (by omega) z5) (by omega) (by omega)) (by omega) (by omega)) (by omega) (by omega)), below_mod B0 hm (Nat.le_refl _) B0.size⟩
  refine ⟨D3, rfl, key ?_⟩
  repeat (first | with_reducible exact Mod.refl _ _ _ | refine Mod.trans ?_ (Mod.set _ (by first | omega | (simp; done) | (simp; omega)) (by first | omega | (simp; done) | (simp; omega)) _))
set_option maxHeartbeats 4000000 in
set_option maxRecDepth 100000 in
theorem sizeOutcomeU (q3 : Bool) (f3 : List Nat) (z0 : Int) (z1 : Bool) (z2 : Int) (A3 : Option Addr) (c3 : Nat) (x3 : List Int) (z4 : Int) (z5 : Int) (L : Nat) (w : World) (h3 : (Rep.slice Rep.int).rep q3 w f3 [.slice A3 x3.length c3] x3) (hL : L ≤ 1000000000) (hs : WfOutcomeU (z0, (z1, z2, x3), z4, z5)) :
    Calls Try.prog 13 #[.agg #[.int .i64 z0, .bool z1, .int .i64 z2, .slice A3 x3.length c3, .int .i64 z4, .int .i64 z5], .int .i64 L] w fun e w' => e = .returned (.int .i64 (IntK.leftOf L (szOutcomeU (z0, (z1, z2, x3), z4, z5)))) ∧ Below w.heap.size w w' := by
  simp only [WfOutcomeU] at hs
  obtain ⟨hs0, hs1, hs2, hs3⟩ := hs
  have B0 := Lib.hid ((Below.refl w.heap.size w).alloc (Nat.le_refl _) (Obj.cells #[Value.int .i64 z0, Value.bool z1, Value.int .i64 z2, Value.slice A3 x3.length c3, Value.int .i64 z4, Value.int .i64 z5] 33))
  have V0 := Lib.hid (Lvar.new w #[Value.int .i64 z0, Value.bool z1, Value.int .i64 z2, Value.slice A3 x3.length c3, Value.int .i64 z4, Value.int .i64 z5] 33)
  have SZ0 := fun W (h : Below w.heap.size w W) => sizeValueU q3 f3 z1 z2 A3 c3 x3 L W (Rep.below h3 h) (by omega) hs1
  unfold IntK.leftOf at SZ0
  by_cases g0 : (szValueU (z1, z2, x3)) ≤ L
  · obtain ⟨m0, hm0⟩ : ∃ m : Nat, m = L - (szValueU (z1, z2, x3)) := ⟨_, rfl⟩
    simp only [if_pos g0, show ((L : Nat) : Int) - (((szValueU (z1, z2, x3)) : Nat) : Int) = (m0 : Int) by omega] at SZ0
    have hd0 : decide ((m0 : Int) < 0) = false := decide_eq_false (by omega)
    have HM0 := Lib.hid (show m0 + (szValueU (z1, z2, x3)) = L by omega)
    have SZ0 := Lib.hid SZ0
    have hL0 : m0 ≤ 1000000000 := by omega
    clear g0 hm0
    have HR := Lib.hid (show IntK.leftOf L (szOutcomeU (z0, (z1, z2, x3), z4, z5)) = (m0 : Int) by simp only [szOutcomeU]; unfold IntK.leftOf; have := HM0.out; rw [if_pos (by omega)]; omega)
    clear hs0 hs1 hs2 hs3 h3
    go_enter Try.func13, Try.ntmps13
    go_wp2_with fail
    refine (Calls.mono (SZ0.out _ B0.out)) ?_
    rintro e w1 ⟨rfl, b1⟩
    have B1 := Lib.hid (below_step B0.out b1)
    have V1 := Lib.hid (V0.out.below b1)
    clear b1
    have v1_0 := V1.out.cell 0 _ rfl
    have v1_1 := V1.out.cell 1 _ rfl
    have v1_2 := V1.out.cell 2 _ rfl
    have v1_3 := V1.out.cell 3 _ rfl
    have v1_4 := V1.out.cell 4 _ rfl
    have v1_5 := V1.out.cell 5 _ rfl
    go_wp2
    go_ret
    exact ⟨by rw [HR.out]; rfl, B1.out⟩
  · have HM := Lib.hid g0
    simp only [if_neg g0] at SZ0
    have SZ0 := Lib.hid SZ0
    clear g0
    have HR := Lib.hid (show IntK.leftOf L (szOutcomeU (z0, (z1, z2, x3), z4, z5)) = -1 by simp only [szOutcomeU]; unfold IntK.leftOf; have := HM.out; rw [if_neg (by omega)])
    clear hs0 hs1 hs2 hs3 h3
    go_enter Try.func13, Try.ntmps13
    go_wp2_with fail
    refine (Calls.mono (SZ0.out _ B0.out)) ?_
    rintro e w1 ⟨rfl, b1⟩
    have B1 := Lib.hid (below_step B0.out b1)
    have V1 := Lib.hid (V0.out.below b1)
    clear b1
    have v1_0 := V1.out.cell 0 _ rfl
    have v1_1 := V1.out.cell 1 _ rfl
    have v1_2 := V1.out.cell 2 _ rfl
    have v1_3 := V1.out.cell 3 _ rfl
    have v1_4 := V1.out.cell 4 _ rfl
    have v1_5 := V1.out.cell 5 _ rfl
    go_wp2
    go_ret
    exact ⟨by rw [HR.out]; rfl, B1.out⟩
set_option maxHeartbeats 4000000 in
set_option maxRecDepth 100000 in
theorem eqOutcomeU (q3 p3 : Bool) (f3 g3 : List Nat) (z0 : Int) (z1 : Bool) (z2 : Int) (A3 : Option Addr) (c3 : Nat) (x3 : List Int) (z4 : Int) (z5 : Int) (B3 : Option Addr) (d3 : Nat) (w : World) (h3 : (Rep.slice Rep.int).rep q3 w f3 [.slice A3 x3.length c3] x3) (k3 : (Rep.slice Rep.int).rep p3 w g3 [.slice B3 x3.length d3] x3) (hl : szOutcomeU (z0, (z1, z2, x3), z4, z5) ≤ 100000000) :
    Calls Try.prog 17 #[.agg #[.int .i64 z0, .bool z1, .int .i64 z2, .slice A3 x3.length c3, .int .i64 z4, .int .i64 z5], .agg #[.int .i64 z0, .bool z1, .int .i64 z2, .slice B3 x3.length d3, .int .i64 z4, .int .i64 z5]] w fun e w' => e = .returned (.bool true) ∧ Below w.heap.size w w' := by
  simp only [szOutcomeU] at hl
  have EQ0 := Lib.hid (fun W (h : Below w.heap.size w W) => eqValueU q3 p3 f3 g3 z1 z2 A3 c3 x3 B3 d3 W (Rep.below h3 h) (Rep.below k3 h) (by simp only [szValueU] at hl ⊢; omega))
  have BB0 := Lib.hid (((Below.refl w.heap.size w).alloc (Nat.le_refl _) (Obj.cells #[Value.int .i64 z0, Value.bool z1, Value.int .i64 z2, Value.slice A3 x3.length c3, Value.int .i64 z4, Value.int .i64 z5] 37)).alloc (by simp) (Obj.cells #[Value.int .i64 z0, Value.bool z1, Value.int .i64 z2, Value.slice B3 x3.length d3, Value.int .i64 z4, Value.int .i64 z5] 37))
  have V0 := Lib.hid ((Lvar.new w #[Value.int .i64 z0, Value.bool z1, Value.int .i64 z2, Value.slice A3 x3.length c3, Value.int .i64 z4, Value.int .i64 z5] 37).alloc (Obj.cells #[Value.int .i64 z0, Value.bool z1, Value.int .i64 z2, Value.slice B3 x3.length d3, Value.int .i64 z4, Value.int .i64 z5] 37))
  have U0 := Lib.hid (Lvar.new (w.alloc (Obj.cells #[Value.int .i64 z0, Value.bool z1, Value.int .i64 z2, Value.slice A3 x3.length c3, Value.int .i64 z4, Value.int .i64 z5] 37)) #[Value.int .i64 z0, Value.bool z1, Value.int .i64 z2, Value.slice B3 x3.length d3, Value.int .i64 z4, Value.int .i64 z5] 37)
  simp only [World.size_alloc] at U0
  clear hl h3 k3
  go_enter Try.func17, Try.ntmps17
  go_wp2_with fail
  refine (Calls.mono (EQ0.out _ ?_)) ?_
  · first | exact BB0.out | exact BB0.out.drew | exact below_drewN BB0.out _
  rintro e w1 ⟨rfl, b1⟩
  have BB1 := Lib.hid (show Below w.heap.size w w1 from by first | exact BB0.out.trans (b1.mono BB0.out.size) | exact BB0.out.drew.trans (b1.mono BB0.out.size) | exact (below_drewN BB0.out _).trans (b1.mono BB0.out.size))
  have V1 := Lib.hid (show Lvar w1 _ _ from by first | exact V0.out.below b1 | exact (V0.out.below (Below.refl _ _).drew).below b1)
  have v1_0 := V1.out.cell 0 _ rfl
  have v1_1 := V1.out.cell 1 _ rfl
  have v1_2 := V1.out.cell 2 _ rfl
  have v1_3 := V1.out.cell 3 _ rfl
  have v1_4 := V1.out.cell 4 _ rfl
  have v1_5 := V1.out.cell 5 _ rfl
  have U1 := Lib.hid (show Lvar w1 _ _ from by first | exact U0.out.below b1 | exact (U0.out.below (Below.refl _ _).drew).below b1)
  have u1_0 := U1.out.cell 0 _ rfl
  have u1_1 := U1.out.cell 1 _ rfl
  have u1_2 := U1.out.cell 2 _ rfl
  have u1_3 := U1.out.cell 3 _ rfl
  have u1_4 := U1.out.cell 4 _ rfl
  have u1_5 := U1.out.cell 5 _ rfl
  clear b1
  go_wp2
  go_ret
  exact ⟨rfl, BB1.out⟩
theorem copyOutcomeA (z0 : Int) (z1 : Bool) (z2 : Int) (A3 : Option Addr) (c3 : Nat) (x3 : List Int) (z4 : Int) (z5 : Int) (w : World) (h : ArgR outc w [.int .i64 z0, .bool z1, .int .i64 z2, .slice A3 x3.length c3, .int .i64 z4, .int .i64 z5] (z0, (z1, z2, x3), z4, z5)) (hl : szOutcomeU (z0, (z1, z2, x3), z4, z5) ≤ 100000000) :
    Calls Try.prog 15 #[.agg #[.int .i64 z0, .bool z1, .int .i64 z2, .slice A3 x3.length c3, .int .i64 z4, .int .i64 z5]] w fun e w' => ∃ B3, e = .returned (.agg #[.int .i64 z0, .bool z1, .int .i64 z2, .slice B3 x3.length x3.length, .int .i64 z4, .int .i64 z5]) ∧ OwnR outc w.heap.size w'.heap.size w' [.int .i64 z0, .bool z1, .int .i64 z2, .slice B3 x3.length x3.length, .int .i64 z4, .int .i64 z5] (z0, (z1, z2, x3), z4, z5) ∧ Below w.heap.size w w' := by
  obtain ⟨q, fp, h⟩ := h
  obtain ⟨f3, _, h3⟩ := outc_parts h
  exact copyOutcomeU q f3 z0 z1 z2 A3 c3 x3 z4 z5 w h3 hl
theorem sizeOutcomeA (z0 : Int) (z1 : Bool) (z2 : Int) (A3 : Option Addr) (c3 : Nat) (x3 : List Int) (z4 : Int) (z5 : Int) (L : Nat) (w : World) (h : ArgR outc w [.int .i64 z0, .bool z1, .int .i64 z2, .slice A3 x3.length c3, .int .i64 z4, .int .i64 z5] (z0, (z1, z2, x3), z4, z5)) (hL : L ≤ 1000000000) (hs : WfOutcomeU (z0, (z1, z2, x3), z4, z5)) :
    Calls Try.prog 13 #[.agg #[.int .i64 z0, .bool z1, .int .i64 z2, .slice A3 x3.length c3, .int .i64 z4, .int .i64 z5], .int .i64 L] w fun e w' => e = .returned (.int .i64 (IntK.leftOf L (szOutcomeU (z0, (z1, z2, x3), z4, z5)))) ∧ Below w.heap.size w w' := by
  obtain ⟨q, fp, h⟩ := h
  obtain ⟨f3, _, h3⟩ := outc_parts h
  exact sizeOutcomeU q f3 z0 z1 z2 A3 c3 x3 z4 z5 L w h3 hL hs
theorem eqOutcomeA (z0 : Int) (z1 : Bool) (z2 : Int) (A3 : Option Addr) (c3 : Nat) (x3 : List Int) (z4 : Int) (z5 : Int) (B3 : Option Addr) (d3 : Nat) (w : World) (h : ArgR outc w [.int .i64 z0, .bool z1, .int .i64 z2, .slice A3 x3.length c3, .int .i64 z4, .int .i64 z5] (z0, (z1, z2, x3), z4, z5)) (k : ArgR outc w [.int .i64 z0, .bool z1, .int .i64 z2, .slice B3 x3.length d3, .int .i64 z4, .int .i64 z5] (z0, (z1, z2, x3), z4, z5)) (hl : szOutcomeU (z0, (z1, z2, x3), z4, z5) ≤ 100000000) :
    Calls Try.prog 17 #[.agg #[.int .i64 z0, .bool z1, .int .i64 z2, .slice A3 x3.length c3, .int .i64 z4, .int .i64 z5], .agg #[.int .i64 z0, .bool z1, .int .i64 z2, .slice B3 x3.length d3, .int .i64 z4, .int .i64 z5]] w fun e w' => e = .returned (.bool true) ∧ Below w.heap.size w w' := by
  obtain ⟨q, fp, h⟩ := h
  obtain ⟨f3, _, h3⟩ := outc_parts h
  obtain ⟨p, gp, k⟩ := k
  obtain ⟨g3, _, k3⟩ := outc_parts k
  exact eqOutcomeU q p f3 g3 z0 z1 z2 A3 c3 x3 z4 z5 B3 d3 w h3 k3 hl
end Mem
end Go.Proofs.Ytgpjgjjadhmkhaa
