/- At every code, the constraint that is drawn from it and the tightened one have the same solutions: the law FnTightened returns true. There is no condition. -/
import Derived.Test.YtjhjbnfdnecidaaRows
import Derived.Test.YtjhjbnfdnecidaaFrame
import Derived.Test.YtjhjbnfdnecidaaFrameLin
import Derived.Test.YtjhjbnfdnecidaaLinK
import Derived.Test.YtjhjbnfdnecidaaLinImpl
import Derived.Test.YtjhjbnfdnecidaaLinImpl2
import Derived.Test.YtjhjbnfdnecidaaLinImpl3
import Derived.Test.YtjhjbnfdnecidaaLinImpl4
import Derived.Test.YtjhjbnfdnecidaaLinSpec
import Derived.Test.YtjhjbnfdnecidaaLinSpec2
import Derived.Test.YtjhjbnfdnecidaaLinSpec3
import Derived.Test.YtjhjbnfdnecidaaFrameCode
import Derived.Test.YtjhjbnfdnecidaaDraw4d
import Derived.Test.YtjhjbnfdnecidaaLawKit4
import Derived.Test.YtjhjbnfdnecidaaTightMath
import Derived.OwnWalk
import Derived.Deep.RegionHeld3
import Derived.SliceStrings
namespace Go.Proofs.Ytjhjbnfdnecidaa
open Go.ChangeShapes Go.WideShapes Go.ChangeAt Go.RowKit
open Go.ChangeMaps (open_string shut_string)
namespace LawTightened
open RowK LinM
/-- Both answers are the same expression. -/
theorem same (P : Prop) {W : World} {lo hi lo2 hi2 : Nat} {A A2 : Option Addr} (T : Int × List Int) (c c2 : Nat) (hl : T.2.length ≤ 9) (h : Row lo hi W A (IntK.iv T.2)) (h2 : Row lo2 hi2 W A2 (IntK.iv T.2)) :
    Calls Try.prog 24 #[.agg #[.int .i64 T.1, .slice A T.2.length c], .agg #[.int .i64 T.1, .slice A2 T.2.length c2]] W fun e w' => e = .returned (.bool true) ∧ Below W.heap.size W w' := by
  have := LinS.equal lo hi lo2 hi2 T.1 T.1 A A2 c c2 T.2 T.2 W h h2 (by omega) (by omega)
  rwa [eqB_true rfl rfl] at this
theorem again {W : World} {lo hi : Nat} {A : Option Addr} (z : Int) (zs : List Int) (T : Int × List Int) (hT : T = tightL z zs) (hz : -9223372036854775808 ≤ z ∧ z ≤ 9223372036854775807) (c : Nat) (hl : T.2.length ≤ 9) (h : Row lo hi W A (IntK.iv T.2)) :
    Calls Try.prog 23 #[.agg #[.int .i64 T.1, .slice A T.2.length c]] W (LinI.Gave W T.1 T.2) := by
  have hr := tight_range (zs := zs) hz.1 hz.2
  rw [← hT] at hr
  have := LinI.tighten lo hi T.1 A c T.2 W hr.1 hr.2 h (by omega)
  rwa [show tightL T.1 T.2 = T by rw [hT]; exact tight_idem z zs] at this
theorem own_empty {w w' : World} (hb : Below (w.heap.size + 1) (w.alloc (.cells #[] 3)) w') (hs : (w.alloc (.cells #[] 3)).heap.size ≤ w'.heap.size) : w'.ownsRow w.heap.size 3 1 (.slice (some ⟨w.heap.size, 0, none⟩) 0 0) 0 [] :=
  ⟨by simp, Or.inr ⟨_, 0, #[], rfl, Nat.le_refl _, by rw [hb.block _ (Nat.lt_succ_self _)]; exact heap_alloc_new _ _, by simp, by simp, by simp, by simp⟩⟩

set_option maxHeartbeats 4000000 in
set_option maxRecDepth 100000 in
theorem walk (A : Option Addr) (n c : Nat) (w0 : World) (hc : Draw.Code w0 A n) :
    Calls Try.prog 4 #[.slice A n c] w0 fun e w' => e = .returned (.bool true) ∧ Below w0.heap.size w0 w' := by
  by_cases hn : n ≤ 1048576
  · go_enter Try.func4, Try.ntmps4
    go_wp2_with fail
    refine (Draw.small A n c hn _).mono ?_
    rintro e w' ⟨rfl, rfl⟩
    go_wp2_with fail
    refine (Calls.mono (Draw.drawTighten A n c hn _ hc)) ?_
    rintro e w1 ⟨z, zs, B, d, lo, hi, rfl, hP, hd, rB, b1⟩
    have hz := hP.1
    unfold Draw.I64 at hz
    have hl9 := hP.2.1
    have s1 : Below w1.heap.size w1 (w1.alloc (Obj.cells #[Value.int .i64 z, Value.slice B zs.length d] 26)) := (Below.refl _ _).alloc (Nat.le_refl _) _
    have B1 := Lib.hid b1
    have R1 := Lib.hid (rB.below s1)
    have V1 := Lib.hid (Lvar.new w1 #[Value.int .i64 z, Value.slice B zs.length d] 26)
    have HC := Lib.hid (hc.keep b1)
    have SP := Lib.hid (fun W (h : Row lo hi W B (IntK.iv zs)) => LinS.tighten lo hi z B d zs W hz.1 hz.2 h (by omega))
    have IM := Lib.hid (fun W (h : Row lo hi W B (IntK.iv zs)) => LinI.tighten lo hi z B d zs W hz.1 hz.2 h (by omega))
    have HE := Lib.hid (fun vs h h1 h2 => tight_eval (z := z) (zs := zs) (vs := vs) h h1 h2)
    have hTl := LinI.tight_len z zs
    have HN := Lib.hid (fun (h : vldB z zs zs.length = false) => show tightL z zs = (z, zs) from LinI.tight_eq z zs (by rw [h]; simp))
    obtain ⟨T, hT⟩ : ∃ T, T = tightL z zs := ⟨_, rfl⟩
    rw [← hT] at SP IM HE HN hTl
    have hT9 : T.2.length ≤ 9 := by omega
    have HT := Lib.hid hT
    have HLen := Lib.hid hTl
    clear hP rB s1 b1 hc hT hTl
    go_wp2_with fail
    refine (Calls.mono (IM.out _ R1.out)) ?_
    rintro e w2 ⟨G, cg, rfl, rG, fG, b2⟩
    have hs2 := b2.size
    simp only [World.size_alloc] at hs2 rG
    have s2 : Below w1.heap.size w1 w2 := ((Below.refl w1.heap.size w1).alloc (Nat.le_refl _) (Obj.cells #[Value.int .i64 z, Value.slice B zs.length d] 26)).trans (b2.mono (by simp))
    have t2 : Below w2.heap.size w2 (w2.alloc (Obj.cells #[Value.int .i64 T.1, Value.slice G T.2.length cg] 26)) := (Below.refl _ _).alloc (Nat.le_refl _) _
    have B2 := Lib.hid ((B1.out.trans (s2.mono B1.out.size)).trans (t2.mono (Nat.le_trans B1.out.size s2.size)))
    have R2 := Lib.hid ((R1.out.below b2).below t2)
    have G2 := Lib.hid (rG.below t2)
    have V2 := Lib.hid ((V1.out.below b2).below t2)
    have U2 := Lib.hid (Lvar.new w2 #[Value.int .i64 T.1, Value.slice G T.2.length cg] 26)
    have C2 := Lib.hid ((HC.out.keep s2).keep t2)
    have hp2 : w2.heap.size < (w2.alloc (Obj.cells #[Value.int .i64 T.1, Value.slice G T.2.length cg] 26)).heap.size := by simp
    clear b2 s2 t2 R1 V1 HC rG fG B1
    go_wp2_with fail
    generalize (w2.alloc (Obj.cells #[Value.int .i64 T.1, Value.slice G T.2.length cg] 26)) = w3 at *
    have v0 := V2.out.cell 0 (.int .i64 z) rfl
    have v1 := V2.out.cell 1 (.slice B zs.length d) rfl
    have u0 := U2.out.cell 0 (.int .i64 T.1) rfl
    have u1 := U2.out.cell 1 (.slice G T.2.length cg) rfl
    have p3 := U2.out.below (Below.refl _ _).drew
    have q3 := V2.out.below (Below.refl _ _).drew
    have p30 := p3.cell 0 (.int .i64 T.1) rfl
    have p31 := p3.cell 1 (.slice G T.2.length cg) rfl
    have q30 := q3.cell 0 (.int .i64 z) rfl
    have q31 := q3.cell 1 (.slice B zs.length d) rfl
    go_region_held3 (fun w' => w'.cell? ⟨w2.heap.size, 0, none⟩ = some (Value.int .i64 T.1) ∧ w'.cell? ⟨w2.heap.size, 1, none⟩ = some (Value.slice G T.2.length cg) ∧ w'.cell? ⟨w1.heap.size, 0, none⟩ = some (Value.int .i64 z) ∧ w'.cell? ⟨w1.heap.size, 1, none⟩ = some (Value.slice B zs.length d))
      (first | with_reducible exact ⟨p30, p31, q30, q31⟩ | with_reducible exact ⟨p40, p41, q40, q41⟩ | with_reducible exact ⟨p50, p51, q50, q51⟩ | with_reducible exact ⟨p60, p61, q60, q61⟩ | with_reducible exact ⟨p70, p71, q70, q71⟩)
      (first
        | (go_at_call 25; refine (Calls.mono (SP.out _ (R2.out.below (Below.refl _ _).drew))) ?_; rintro e w4 ⟨D, cd, rfl, rD, fD, b4⟩; (have p4 := ((U2.out.below (Below.refl _ _).drew).below b4)); (have q4 := ((V2.out.below (Below.refl _ _).drew).below b4)); (have p40 := p4.cell 0 (.int .i64 T.1) rfl); (have p41 := p4.cell 1 (.slice G T.2.length cg) rfl); (have q40 := q4.cell 0 (.int .i64 z) rfl); (have q41 := q4.cell 1 (.slice B zs.length d) rfl))
        | (go_at_call_of 24 (Value.agg #[.int .i64 T.1, .slice H T.2.length ch]); refine (Calls.mono (same True (A := H) (A2 := G) T ch cg hT9 rH ((((G2.out.below (Below.refl _ _).drew).below b4).below b5).below b6))) ?_; rintro e w7 ⟨rfl, b7⟩; (have p7 := (((((U2.out.below (Below.refl _ _).drew).below b4).below b5).below b6).below b7)); (have q7 := (((((V2.out.below (Below.refl _ _).drew).below b4).below b5).below b6).below b7)); (have p70 := p7.cell 0 (.int .i64 T.1) rfl); (have p71 := p7.cell 1 (.slice G T.2.length cg) rfl); (have q70 := q7.cell 0 (.int .i64 z) rfl); (have q71 := q7.cell 1 (.slice B zs.length d) rfl))
        | (go_at_call 23; refine (Calls.mono (again z zs T HT.out hz cg hT9 (((G2.out.below (Below.refl _ _).drew).below b4).below b5))) ?_; rintro e w6 ⟨H, ch, rfl, rH, fH, b6⟩; (have p6 := ((((U2.out.below (Below.refl _ _).drew).below b4).below b5).below b6)); (have q6 := ((((V2.out.below (Below.refl _ _).drew).below b4).below b5).below b6)); (have p60 := p6.cell 0 (.int .i64 T.1) rfl); (have p61 := p6.cell 1 (.slice G T.2.length cg) rfl); (have q60 := q6.cell 0 (.int .i64 z) rfl); (have q61 := q6.cell 1 (.slice B zs.length d) rfl))
        | (go_at_call_of 24 (Value.agg #[.int .i64 T.1, .slice G T.2.length cg]); refine (Calls.mono (same True (A := G) (A2 := D) T cg cd hT9 ((G2.out.below (Below.refl _ _).drew).below b4) rD)) ?_; rintro e w5 ⟨rfl, b5⟩; (have p5 := (((U2.out.below (Below.refl _ _).drew).below b4).below b5)); (have q5 := (((V2.out.below (Below.refl _ _).drew).below b4).below b5)); (have p50 := p5.cell 0 (.int .i64 T.1) rfl); (have p51 := p5.cell 1 (.slice G T.2.length cg) rfl); (have q50 := q5.cell 0 (.int .i64 z) rfl); (have q51 := q5.cell 1 (.slice B zs.length d) rfl)))
    have h4 : w3.heap.size ≤ w4.heap.size := b4.size
    have h5 : w4.heap.size ≤ w5.heap.size := b5.size
    have h6 : w5.heap.size ≤ w6.heap.size := b6.size
    have h7 : w6.heap.size ≤ w7.heap.size := b7.size
    have d7 : Below w3.heap.size w3 w7 := (((((Below.refl w3.heap.size w3).drew).trans (b4.mono (show w3.heap.size ≤ w3.heap.size by omega))).trans (b5.mono (show w3.heap.size ≤ w4.heap.size by omega))).trans (b6.mono (show w3.heap.size ≤ w5.heap.size by omega))).trans (b7.mono (show w3.heap.size ≤ w6.heap.size by omega))
    have B7 := Lib.hid (B2.out.trans (d7.mono B2.out.size))
    have R7 := Lib.hid (R2.out.below d7)
    have G7 := Lib.hid (G2.out.below d7)
    have V7 := Lib.hid (V2.out.below d7)
    have U7 := Lib.hid (U2.out.below d7)
    have C7 := Lib.hid (C2.out.keep d7)
    clear p3 q3 p30 p31 q30 q31 p4 q4 p40 p41 q40 q41 p5 q5 p50 p51 q50 q51 p6 q6 p60 p61 q60 q61 p7 q7 p70 p71 q70 q71 v0 v1 u0 u1 B2 R2 G2 V2 U2 C2 b4 b5 b6 b7 d7 rD fD rH fH SP IM
    have v0 := V7.out.cell 0 (.int .i64 z) rfl
    have v1 := V7.out.cell 1 (.slice B zs.length d) rfl
    have u0 := U7.out.cell 0 (.int .i64 T.1) rfl
    have u1 := U7.out.cell 1 (.slice G T.2.length cg) rfl
    go_wp2_with fail
    refine (Calls.mono (LinS.valid lo hi z B d zs zs.length _ R7.out (by omega))) ?_
    rintro e w8 ⟨rfl, b8⟩
    have B8 := Lib.hid (B7.out.trans (b8.mono B7.out.size))
    have R8 := Lib.hid (R7.out.below b8)
    have G8 := Lib.hid (G7.out.below b8)
    have V8 := Lib.hid (V7.out.below b8)
    have U8 := Lib.hid (U7.out.below b8)
    have C8 := Lib.hid (C7.out.keep b8)
    have hs8 := b8.size
    clear v0 v1 u0 u1 B7 R7 G7 V7 U7 C7 b8
    by_cases hv : vldB z zs zs.length = true
    · have v0 := V8.out.cell 0 (.int .i64 z) rfl
      have v1 := V8.out.cell 1 (.slice B zs.length d) rfl
      have HV := Lib.hid hv
      obtain ⟨i0, hi0, hz0, hz1, hz2⟩ := info_parts IntK.intInfo
      have s9 : Below w8.heap.size w8 (w8.alloc (.cells #[] 3)) := (Below.refl _ _).alloc (Nat.le_refl _) _
      have O9 := Lib.hid (own_empty (w := w8) (Below.refl _ _) (Nat.le_refl _))
      go_wp2
      have hs9 : w8.heap.size ≤ (w8.alloc (.cells #[] 3)).heap.size := s9.size
      clear hv v0 v1
      generalize w8.alloc (.cells #[] 3) = w9 at *
      go_loopw [5, 6] (fun v i wr => ∃ (k : Nat) (vs : List Int), k ≤ zs.length ∧ i = .int .i64 k ∧ vs.length = k ∧ Draw.vals (-10) 9 vs ∧ wr.ownsRow w8.heap.size 3 1 v vs.length (IntK.iv vs) ∧ Below w8.heap.size w8 wr) (fun _ i _ => zs.length - (intOf i).toNat)
      case atStart => exact ⟨0, [], Nat.zero_le _, rfl, rfl, (fun x hx => by cases hx), O9.out, s9⟩
      case round =>
        obtain ⟨k, vs, hk, rfl, hlen, hvs, hown, hb⟩ := hrel
        have HS := Lib.hid hvs
        have HO := Lib.hid hown
        have HL := Lib.hid hlen
        have hbase := hb.size
        have VR := Lib.hid (V8.out.below hb)
        have v0 := VR.out.cell 0 (.int .i64 z) rfl
        have v1 := VR.out.cell 1 (.slice B zs.length d) rfl
        have HB := Lib.hid hb
        clear hvs hown s9 hb
        by_cases hlt : k < zs.length
        · have hk9 : vs.length ≤ 9 := by omega
          have hk0 : (0 : Int) ≤ (k : Int) := by omega
          have hk1 : (k : Int) < (zs.length : Int) := by omega
          have AT := Lib.hid (Draw.at0 A n c k hn (by omega) wr (C8.out.keep HB.out))
          clear hlen
          go_wp2_with fail
          refine (Calls.mono AT.out) ?_
          rintro e w' ⟨x, hx, rfl, rfl⟩
          have hm0 : x.tmod 20 = x % 20 := Int.tmod_eq_emod_of_nonneg hx.1
          have hy : -10 ≤ x % 20 - 10 ∧ x % 20 - 10 ≤ 9 := by omega
          have hw : IntKind.i64.wrap (x % 20 - 10) = x % 20 - 10 := IntWalk.i64_in _ (by omega)
          go_wp2_with (at_builtin; go_loud (refine wpList_append_own _ rfl (.tmp 46) (.tmp 52) 24 rfl w8.heap.size 3 i0 (.int .i64 0) 1 8 Try.underlying24 hi0 hz0 hz1 hz2 rfl (by decide) _ _ _ rfl (HO.out.alloc _) ⟨wr.heap.size, 0, none⟩ 1 1 [.int .i64 (x % 20 - 10)] rfl rfl (cell_one_new _ _ _) (by simp [Value.oneCell']) (by unfold maxLen; omega) (by omega) (by simp <;> omega) ?_); intro v4 w4' hown4 hgrow _)
          have hb4 : Below w8.heap.size w8 w4' := (HB.out.alloc HB.out.size _).grown hgrow (by simp <;> omega) (fun j hj => (HO.out.lt j hj).1)
          have hown5 : w4'.ownsRow w8.heap.size 3 1 v4 (vs ++ [x % 20 - 10]).length (IntK.iv (vs ++ [x % 20 - 10])) := by simpa [IntK.iv] using hown4
          have hvs5 := Draw.vals_snoc HS.out hy
          have hl5 : (vs ++ [x % 20 - 10]).length = k + 1 := by have := HL.out; simp; omega
          have V4' := V8.out.below hb4
          have x0 := V4'.cell 0 _ rfl
          have x1 := V4'.cell 1 _ rfl
          clear hown4 hgrow hm0 hw hy V4'
          generalize vs ++ [x % 20 - 10] = vs2 at *
          have HN5 := Lib.hid hl5
          clear hl5
          go_wp2
          go_roundw
          case rel => exact ⟨k + 1, vs2, by omega, by go_num, HN5.out, hvs5, hown5, hb4⟩
          case measure => simp [intOf]; omega
        · have hk' : vs.length = zs.length := by omega
          obtain ⟨A5, c5, e5, r5, f5, _, _⟩ := of_own HO.out
          subst e5
          obtain ⟨x, y, ex, ey, hxy⟩ := HE.out vs HV.out hk' (Draw.vals_fit HS.out (by omega) (by omega))
          have hlz : decide ((k : Int) < (zs.length : Int)) = false := by simp; omega
          have E1 := LinS.eval lo hi _ _ z B A5 d c5 zs vs wr (R8.out.below HB.out) r5 (by omega) (by omega)
          rw [ex] at E1
          simp only [Option.getD_some, Option.isSome_some] at E1
          have E1 := Lib.hid E1
          have E2 := Lib.hid (fun W (h : Below wr.heap.size wr W) => LinS.eval _ _ _ _ T.1 G A5 cg c5 T.2 vs W ((G8.out.below HB.out).below h) (r5.below h) (by omega) (by omega))
          rw [ey] at E2
          simp only [Option.getD_some, Option.isSome_some] at E2
          have UR := Lib.hid (U8.out.below HB.out)
          have BR := Lib.hid (B8.out.trans (HB.out.mono B8.out.size))
          have hd : decide (0 ≤ x) = decide (0 ≤ y) := by simp [hxy]
          have hd2 : decide (x < 0) = decide (y < 0) := by simp; omega
          clear hk' r5 f5 ex ey hlen HE
          go_wp2_with fail
          refine (Calls.mono E1.out) ?_
          rintro e w10 ⟨rfl, b10⟩
          have u0 := (UR.out.below b10).cell 0 _ rfl
          have u1 := (UR.out.below b10).cell 1 _ rfl
          go_wp2_with fail
          refine (Calls.mono (E2.out _ b10)) ?_
          rintro e w11 ⟨rfl, b11⟩
          have B11 := Lib.hid ((BR.out.trans (b10.mono BR.out.size)).trans (b11.mono (Nat.le_trans BR.out.size b10.size)))
          go_wp2
          go_ret
          exact ⟨by simp [hd, hxy], B11.out⟩
    · have hv' : vldB z zs zs.length = false := by simpa using hv
      have hN := HN.out hv'
      have v0 := V8.out.cell 0 (.int .i64 z) rfl
      have v1 := V8.out.cell 1 (.slice B zs.length d) rfl
      have u0 := U8.out.cell 0 (.int .i64 T.1) rfl
      have u1 := U8.out.cell 1 (.slice G T.2.length cg) rfl
      subst hN
      go_wp2_with fail
      refine (Calls.mono (same True (z, zs) cg d hT9 G8.out R8.out)) ?_
      rintro e w9 ⟨rfl, b9⟩
      go_wp2
      go_ret
      exact ⟨rfl, B8.out.trans (b9.mono B8.out.size)⟩
  · go_enter Try.func4, Try.ntmps4
    go_wp2_with fail
    refine (Draw.great A n c hn _).mono ?_
    rintro e w' ⟨rfl, rfl⟩
    go_wp2
    go_ret
    exact ⟨rfl, Below.refl _ _⟩

set_option maxRecDepth 100000 in
theorem lifted (os : Os) (started : os.Started) (H : Type) (enc : TypeId × Value → H) :
    ReturnsInHanded {} Try.checked os 4 .any (Rows.fnTightenedSpec.pre6 enc Try.prog Try.f4 Rows.fnTightenedRow.domain false) (Rows.fnTightenedSpec.post enc Try.prog Try.f4 false true false false) := by
  refine returnsInHanded_of_change (C := Try.checked) Frame.own started (by kernel_rfl) Try.func4
    (ChangeSpec.witness6 (enc := enc) (C := Try.checked) false ⟨#[], #[.slice none 0 0], []⟩ 8 (by kernel_rfl) (by kernel_rfl) (by kernel_rfl) (by kernel_rfl)) ?_
  intro W base args ds gs before hval0 hW _ _
  have hW' := hW
  have hval : ∀ (j : Nat) t v, Try.f4.params[j]? = some t → args[j]? = some v → Value.okWide Try.prog W .any base t v := hval0
  obtain ⟨p, q, hA0, hV, rfl, hfz, hnd⟩ := hW
  have hA : DataW.TrodAll enc Try.prog W 0 (fun _ => true) true Try.f4.params.toList args.toList ds p := hA0
  rw [Try.params4] at hA hval
  obtain ⟨v0, d0, rfl, rfl, h0⟩ := trodAll_one hA
  have hlt := fun x hx => hW'.lt x hx
  obtain ⟨rfl, rfl⟩ := trodVars_none hV
  obtain ⟨ab, nb, cb, rfl⟩ := okWide_slice Try.underlying22 (hval 0 22 v0 rfl rfl)
  obtain ⟨hb, hlb⟩ := Frame.open_code (W := W) (by kernel_rfl) Try.underlying22 Try.underlying5 h0 (fun x hx => hlt x (by simp [hx]))
  refine (walk ab nb cb W hb).mono fun e W' ⟨he, hb⟩ => ?_
  subst he
  exact ⟨_, rfl, Frame.law_post (tb := 4) Frame.laidOut (by kernel_rfl) (by kernel_rfl) (by kernel_rfl) Try.underlying4 hW' rfl hb⟩

theorem proved : Rows.FnTightenedSaid :=
  OpenClaim.holds_of_wide 4 Try.f4 rfl rfl rfl rfl rfl rfl rfl ⟨rfl, rfl, rfl, rfl, rfl⟩ rfl rfl rfl rfl rfl (by kernel_rfl) Try.func4 (by kernel_rfl)
    (of_decide_eq_true (by kernel_rfl)) (by unfold Func.isWrapper; first | (rw [if_pos (by decide +kernel)]; kernel_rfl) | (rw [if_neg (by decide +kernel)]; exact ⟨rfl, rfl⟩))
    (fun os started H enc _ => lifted os started H enc)
end LawTightened
end Go.Proofs.Ytjhjbnfdnecidaa
