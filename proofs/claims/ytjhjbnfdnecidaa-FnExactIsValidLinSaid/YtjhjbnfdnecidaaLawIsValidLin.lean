/- At every linear expression and every integer, impl.IsValidLin answers as its model and writes nothing into its argument: the law FnExactIsValidLin returns true. There is no condition. -/
import Derived.Test.YtjhjbnfdnecidaaRows
import Derived.Test.YtjhjbnfdnecidaaFrame
import Derived.Test.YtjhjbnfdnecidaaFrameLin
import Derived.Test.YtjhjbnfdnecidaaLinK
import Derived.Test.YtjhjbnfdnecidaaLinImpl
import Derived.Test.YtjhjbnfdnecidaaLinImpl2
import Derived.Test.YtjhjbnfdnecidaaLinImpl3
import Derived.Test.YtjhjbnfdnecidaaLinImpl4
import Derived.Test.YtjhjbnfdnecidaaLinSpec
import Derived.Test.YtjhjbnfdnecidaaLinSpec2
import Derived.Test.YtjhjbnfdnecidaaLinSpec3
import Derived.SliceStrings
namespace Go.Proofs.Ytjhjbnfdnecidaa
open Go.ChangeShapes Go.WideShapes Go.ChangeAt Go.RowKit
open Go.ChangeMaps (open_string shut_string)
namespace LawIsValidLin
open RowK LinM
set_option maxHeartbeats 2000000 in
set_option maxRecDepth 100000 in
theorem walk (zl : Int) (Al : Option Addr) (cl : Nat) (l : List Int) (n : Int) (w0 : World) (hl : Row 0 w0.heap.size w0 Al (IntK.iv l)) (hlen : l.length ≤ 9223372036854775807) :
    Calls Try.prog 6 #[.agg #[.int .i64 zl, .slice Al l.length cl], .int .i64 n] w0 fun e w' => e = .returned (.bool true) ∧ Below w0.heap.size w0 w' := by
  have SZ := fun W => LinK.size zl Al cl 1048576 l.length W (by omega) hlen
  unfold IntK.leftOf at SZ
  by_cases ht : l.length ≤ 1048576
  · simp only [if_pos ht] at SZ
    have HS := Lib.hid SZ
    have hnl : l.length ≤ 1000000000 := by omega
    clear SZ hlen
    have B0 := Lib.hid (Below.refl w0.heap.size w0)
    go_enter Try.func6, Try.ntmps6
    go_wp2_with fail
    refine (Calls.mono (HS.out _)) ?_
    rintro e w1 ⟨rfl, b1⟩
    have hs1 : (w0.alloc (Obj.cells #[Value.int .i64 zl, Value.slice Al l.length cl] 43)).heap.size ≤ w1.heap.size := b1.size
    simp only [World.size_alloc] at hs1
    have d1 : Below w0.heap.size w0 w1 := ((Below.refl w0.heap.size w0).alloc (by first | (simp; done) | (simp; omega)) (Obj.cells #[Value.int .i64 zl, Value.slice Al l.length cl] 43)).trans (b1.mono (show w0.heap.size ≤ (w0.alloc (Obj.cells #[Value.int .i64 zl, Value.slice Al l.length cl] 43)).heap.size by first | exact Nat.le_refl _ | (simp; done) | (simp; omega)))
    have B1 := Lib.hid (B0.out.trans (d1.mono B0.out.size))
    have Va_1 := Lib.hid ((Lvar.new w0 #[Value.int .i64 zl, Value.slice Al l.length cl] 43).below b1)
    clear b1 d1
    have c_Va_0 := Va_1.out.cell 0 _ rfl
    have c_Va_1 := Va_1.out.cell 1 _ rfl
    have lt_Va := Va_1.out.lt
    go_wp2_with fail
    refine (Calls.mono (LinK.copy 0 w0.heap.size zl Al cl l _ (hl.below B1.out) hnl)) ?_
    rintro e w2 ⟨A1, rfl, r1, f1, b2⟩
    have hs2 : w1.heap.size ≤ w2.heap.size := b2.size
    have d2 : Below w1.heap.size w1 w2 := (Below.refl w1.heap.size w1).trans (b2.mono (show w1.heap.size ≤ w1.heap.size by first | exact Nat.le_refl _ | (simp; done) | (simp; omega)))
    have B2 := Lib.hid (B1.out.trans (d2.mono B1.out.size))
    have Va_2 := Lib.hid (Va_1.out.below d2)
    clear Va_1 c_Va_0 c_Va_1 lt_Va b2 d2
    have c_Va_0 := Va_2.out.cell 0 _ rfl
    have c_Va_1 := Va_2.out.cell 1 _ rfl
    have lt_Va := Va_2.out.lt
    go_wp2_with fail
    refine (Calls.mono (LinS.valid _ _ zl A1 l.length l n _ r1 hnl)) ?_
    rintro e w3 ⟨rfl, b3⟩
    have hs3 : w2.heap.size ≤ w3.heap.size := b3.size
    have d3 : Below w2.heap.size w2 w3 := (Below.refl w2.heap.size w2).trans (b3.mono (show w2.heap.size ≤ w2.heap.size by first | exact Nat.le_refl _ | (simp; done) | (simp; omega)))
    have B3 := Lib.hid (B2.out.trans (d3.mono B2.out.size))
    have Va_3 := Lib.hid (Va_2.out.below d3)
    clear Va_2 c_Va_0 c_Va_1 lt_Va b3 d3
    have c_Va_0 := Va_3.out.cell 0 _ rfl
    have c_Va_1 := Va_3.out.cell 1 _ rfl
    have lt_Va := Va_3.out.lt
    go_wp2_with fail
    refine (Calls.mono (LinK.copy 0 w0.heap.size zl Al cl l _ (hl.below B3.out) hnl)) ?_
    rintro e w4 ⟨X1, rfl, rx, fx, b4⟩
    have hs4 : w3.heap.size ≤ w4.heap.size := b4.size
    have d4 : Below w3.heap.size w3 w4 := (Below.refl w3.heap.size w3).trans (b4.mono (show w3.heap.size ≤ w3.heap.size by first | exact Nat.le_refl _ | (simp; done) | (simp; omega)))
    have B4 := Lib.hid (B3.out.trans (d4.mono B3.out.size))
    have Va_4 := Lib.hid (Va_3.out.below d4)
    clear Va_3 c_Va_0 c_Va_1 lt_Va b4 d4
    have O1_4 := Lib.hid (show IntK.Own _ _ _ X1 l from ⟨rx, fx⟩)
    have c_Va_0 := Va_4.out.cell 0 _ rfl
    have c_Va_1 := Va_4.out.cell 1 _ rfl
    have lt_Va := Va_4.out.lt
    go_wp2_with fail
    refine (Calls.mono (LinI.valid _ _ zl X1 l.length l n _ (O1_4.out.below ((Below.refl w4.heap.size w4).alloc (by first | (simp; done) | (simp; omega)) (Obj.cells #[Value.int .i64 zl, Value.slice X1 l.length l.length] 26))).1 hnl)) ?_
    rintro e w5 ⟨rfl, b5⟩
    have hs5 : (w4.alloc (Obj.cells #[Value.int .i64 zl, Value.slice X1 l.length l.length] 26)).heap.size ≤ w5.heap.size := b5.size
    simp only [World.size_alloc] at hs5
    have d5 : Below w4.heap.size w4 w5 := ((Below.refl w4.heap.size w4).alloc (by first | (simp; done) | (simp; omega)) (Obj.cells #[Value.int .i64 zl, Value.slice X1 l.length l.length] 26)).trans (b5.mono (show w4.heap.size ≤ (w4.alloc (Obj.cells #[Value.int .i64 zl, Value.slice X1 l.length l.length] 26)).heap.size by first | exact Nat.le_refl _ | (simp; done) | (simp; omega)))
    have B5 := Lib.hid (B4.out.trans (d5.mono B4.out.size))
    have Va_5 := Lib.hid (Va_4.out.below d5)
    have O1_5 := Lib.hid (O1_4.out.below d5)
    have Vx_5 := Lib.hid ((Lvar.new w4 #[Value.int .i64 zl, Value.slice X1 l.length l.length] 26).below b5)
    clear Va_4 O1_4 c_Va_0 c_Va_1 lt_Va b5 d5
    have c_Va_0 := Va_5.out.cell 0 _ rfl
    have c_Va_1 := Va_5.out.cell 1 _ rfl
    have lt_Va := Va_5.out.lt
    have c_Vx_0 := Vx_5.out.cell 0 _ rfl
    have c_Vx_1 := Vx_5.out.cell 1 _ rfl
    have lt_Vx := Vx_5.out.lt
    go_wp2_with fail
    go_region_held3 (fun w' => w'.cell? ⟨w4.heap.size, 0, none⟩ = some (Value.int .i64 zl) ∧ w'.cell? ⟨w4.heap.size, 1, none⟩ = some (Value.slice X1 l.length l.length) ∧ w'.cell? ⟨w0.heap.size, 0, none⟩ = some (Value.int .i64 zl) ∧ w'.cell? ⟨w0.heap.size, 1, none⟩ = some (Value.slice Al l.length cl))
      (first | exact ⟨(((Vx_5.out.below (Below.refl _ _).drew).below b6).below b7).cell 0 _ rfl, (((Vx_5.out.below (Below.refl _ _).drew).below b6).below b7).cell 1 _ rfl, (((Va_5.out.below (Below.refl _ _).drew).below b6).below b7).cell 0 _ rfl, (((Va_5.out.below (Below.refl _ _).drew).below b6).below b7).cell 1 _ rfl⟩ | exact ⟨((Vx_5.out.below (Below.refl _ _).drew).below b6).cell 0 _ rfl, ((Vx_5.out.below (Below.refl _ _).drew).below b6).cell 1 _ rfl, ((Va_5.out.below (Below.refl _ _).drew).below b6).cell 0 _ rfl, ((Va_5.out.below (Below.refl _ _).drew).below b6).cell 1 _ rfl⟩ | go_keep)
      (first
        | (go_at_call 35; refine (Calls.mono (LinK.copy 0 w0.heap.size zl Al cl l _ (hl.below B5.out.drew) hnl)) ?_; rintro e w6 ⟨C5, rfl, rc5, fc5, b6⟩)
        | (go_at_call 36; refine (Calls.mono (LinK.eq_same _ _ _ _ zl X1 C5 l.length l.length l _ ((O1_5.out.1.below (Below.refl _ _).drew).below b6) rc5 (by omega))) ?_; rintro e w7 ⟨rfl, b7⟩))
    have h6 : w5.heap.size ≤ w6.heap.size := b6.size
    have h7 : w6.heap.size ≤ w7.heap.size := b7.size
    have d7 : Below w5.heap.size w5 w7 := (((Below.refl w5.heap.size w5).drew.trans (b6.mono (show w5.heap.size ≤ w5.heap.size by omega))).trans (b7.mono (show w5.heap.size ≤ w6.heap.size by omega)))
    have hs7 := d7.size
    have B7 := Lib.hid (B5.out.trans (d7.mono B5.out.size))
    have Va_7 := Lib.hid (Va_5.out.below d7)
    have O1_7 := Lib.hid (O1_5.out.below d7)
    have Vx_7 := Lib.hid (Vx_5.out.below d7)
    clear Va_5 O1_5 Vx_5 c_Va_0 c_Va_1 lt_Va c_Vx_0 c_Vx_1 lt_Vx b6 h6 b7 h7 d7
    have c_Va_0 := Va_7.out.cell 0 _ rfl
    have c_Va_1 := Va_7.out.cell 1 _ rfl
    have lt_Va := Va_7.out.lt
    have c_Vx_0 := Vx_7.out.cell 0 _ rfl
    have c_Vx_1 := Vx_7.out.cell 1 _ rfl
    have lt_Vx := Vx_7.out.lt
    go_wp2
    go_ret
    exact ⟨rfl, B7.out⟩
  · simp only [if_neg ht] at SZ
    have HS := Lib.hid SZ
    clear SZ hlen
    go_enter Try.func6, Try.ntmps6
    go_wp2_with fail
    refine (HS.out _).mono ?_
    rintro e w1 ⟨rfl, b1⟩
    go_wp2
    go_ret
    exact ⟨rfl, ((Below.refl _ _).alloc (Nat.le_refl _) _).trans (b1.mono (by simp))⟩

set_option maxRecDepth 100000 in
theorem lifted (os : Os) (started : os.Started) (H : Type) (enc : TypeId × Value → H) :
    ReturnsInHanded {} Try.checked os 6 .any (Rows.fnExactIsValidLinSpec.pre6 enc Try.prog Try.f6 Rows.fnExactIsValidLinRow.domain false) (Rows.fnExactIsValidLinSpec.post enc Try.prog Try.f6 false true false false) := by
  refine returnsInHanded_of_change (C := Try.checked) Frame.own started (by kernel_rfl) Try.func6
    (ChangeSpec.witness6 (enc := enc) (C := Try.checked) false ⟨#[], #[.agg #[.int .i64 0, .slice none 0 0], .int .i64 0], []⟩ 8 (by kernel_rfl) (by kernel_rfl) (by kernel_rfl) (by kernel_rfl)) ?_
  intro W base args ds gs before hval0 hW _ _
  have hW' := hW
  have hval : ∀ (j : Nat) t v, Try.f6.params[j]? = some t → args[j]? = some v → Value.okWide Try.prog W .any base t v := hval0
  obtain ⟨p, q, hA0, hV, rfl, hfz, hnd⟩ := hW
  have hA : DataW.TrodAll enc Try.prog W 0 (fun _ => true) true Try.f6.params.toList args.toList ds p := hA0
  rw [Try.params6] at hA hval
  obtain ⟨v0, v1, d0, d1, p0, p1, rfl, rfl, rfl, h0, h1⟩ := trodAll_two hA
  have hlt := fun x hx => hW'.lt x hx
  obtain ⟨rfl, rfl⟩ := trodVars_none hV
  obtain ⟨zl, al, cl, l, rfl, wl, hrl, hll, hsl, hcl⟩ := Frame.open_lin (W := W) Try.underlying43 (by kernel_rfl) (by kernel_rfl) rfl rfl Try.underlying3 Try.underlying24 (by kernel_rfl) (hval 0 43 v0 rfl rfl) h0 (fun x hx => hlt x (by simp [hx]))
  obtain ⟨n, rfl, rfl, rfl, wn⟩ := open_int Try.underlying3 (hval 1 3 v1 rfl rfl) h1
  refine (walk zl al cl l n W hrl hll).mono fun e W' ⟨he, hb⟩ => ?_
  subst he
  exact ⟨_, rfl, Frame.law_post (tb := 4) Frame.laidOut (by kernel_rfl) (by kernel_rfl) (by kernel_rfl) Try.underlying4 hW' rfl hb⟩

theorem proved : Rows.FnExactIsValidLinSaid :=
  OpenClaim.holds_of_wide 6 Try.f6 rfl rfl rfl rfl rfl rfl rfl ⟨rfl, rfl, rfl, rfl, rfl⟩ rfl rfl rfl rfl rfl (by kernel_rfl) Try.func6 (by kernel_rfl)
    (of_decide_eq_true (by kernel_rfl)) (by unfold Func.isWrapper; first | (rw [if_pos (by decide +kernel)]; kernel_rfl) | (rw [if_neg (by decide +kernel)]; exact ⟨rfl, rfl⟩))
    (fun os started H enc _ => lifted os started H enc)
end LawIsValidLin
end Go.Proofs.Ytjhjbnfdnecidaa
