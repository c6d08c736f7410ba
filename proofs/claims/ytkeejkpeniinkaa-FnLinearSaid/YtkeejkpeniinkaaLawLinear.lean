/- At every code, the value of the scaled sum that is drawn from it is the scaled sum of the values: the law FnLinear returns true. There is no condition. -/
import Derived.Test.YtkeejkpeniinkaaRows
import Derived.Test.YtkeejkpeniinkaaFrame
import Derived.Test.YtkeejkpeniinkaaFrameLin
import Derived.Test.YtkeejkpeniinkaaLinK
import Derived.Test.YtkeejkpeniinkaaLinImpl
import Derived.Test.YtkeejkpeniinkaaLinImpl2
import Derived.Test.YtkeejkpeniinkaaLinImpl3
import Derived.Test.YtkeejkpeniinkaaLinImpl4
import Derived.Test.YtkeejkpeniinkaaLinSpec
import Derived.Test.YtkeejkpeniinkaaLinSpec2
import Derived.Test.YtkeejkpeniinkaaLinSpec3
import Derived.Test.YtkeejkpeniinkaaFrameCode
import Derived.Test.YtkeejkpeniinkaaDraw4c
import Derived.Test.YtkeejkpeniinkaaLawKit4
import Derived.OwnWalk
import Derived.Deep.RegionHeld3
import Derived.SliceStrings
namespace Go.Proofs.Ytkeejkpeniinkaa
open Go.ChangeShapes Go.WideShapes Go.ChangeAt Go.RowKit
open Go.ChangeMaps (open_string shut_string)
namespace LawLinear
open RowK LinM
theorem sameI {W : World} {lo hi lo2 hi2 : Nat} {A A2 : Option Addr} (T : Int × List Int) (c c2 : Nat) (hl : T.2.length ≤ 9) (h1 : T.2.length ≤ c) (h2 : T.2.length ≤ c2) (h : Row lo hi W A (IntK.iv T.2)) (h' : Row lo2 hi2 W A2 (IntK.iv T.2)) :
    Calls Try.prog 9 #[.agg #[.int .i64 T.1, .slice A T.2.length c], .agg #[.int .i64 T.1, .slice A2 T.2.length c2]] W fun e w' => e = .returned (.bool true) ∧ Below W.heap.size W w' := by
  have := LinI.equal lo hi lo2 hi2 T.1 T.1 A A2 c c2 T.2 T.2 W h h' (by omega) (by omega) h1 h2
  rwa [eqB_true rfl rfl] at this
theorem own_empty {w w' : World} (hb : Below (w.heap.size + 1) (w.alloc (.cells #[] 3)) w') (hs : (w.alloc (.cells #[] 3)).heap.size ≤ w'.heap.size) : w'.ownsRow w.heap.size 3 1 (.slice (some ⟨w.heap.size, 0, none⟩) 0 0) 0 [] :=
  ⟨by simp, Or.inr ⟨_, 0, #[], rfl, Nat.le_refl _, by rw [hb.block _ (Nat.lt_succ_self _)]; exact heap_alloc_new _ _, by simp, by simp, by simp, by simp⟩⟩

set_option maxHeartbeats 4000000 in
set_option maxRecDepth 100000 in
theorem walk (A : Option Addr) (n c : Nat) (w0 : World) (hc : Draw.Code w0 A n) :
    Calls Try.prog 3 #[.slice A n c] w0 fun e w' => e = .returned (.bool true) ∧ Below w0.heap.size w0 w' := by
  by_cases hn : n ≤ 1048576
  · skip
    have B0 := Lib.hid (Below.refl w0.heap.size w0)
    go_enter Try.func3, Try.ntmps3
    go_wp2_with fail
    refine (Draw.small A n c hn _).mono ?_
    rintro e w' ⟨rfl, rfl⟩
    go_wp2_with fail
    refine (Calls.mono (Draw.drawAddScaled A n c hn _ hc)) ?_
    rintro e w1 ⟨z, zs, B, d, k, u, us, C, f, lo, hi, lo2, hi2, rfl, hP, hk, hQ, hd, hf, rB, rC, b1⟩
    have HC_1 := Lib.hid (hc.keep b1)
    have hs1 : w0.heap.size ≤ w1.heap.size := b1.size
    have d1 : Below w0.heap.size w0 w1 := (Below.refl w0.heap.size w0).trans (b1.mono (show w0.heap.size ≤ w0.heap.size by first | exact Nat.le_refl _ | (simp; done) | (simp; omega)))
    have B1 := Lib.hid (B0.out.trans (d1.mono B0.out.size))
    clear b1 d1
    have RB_1 := Lib.hid rB
    have RC_1 := Lib.hid rC
    clear rB rC
    have HZ := Lib.hid hP
    have HU := Lib.hid hQ
    have hzl : zs.length ≤ 9 := hP.2.1
    have hul : us.length ≤ 9 := hQ.2.1
    clear hP hQ hk hf
    have IM := Lib.hid (fun lo hi lo' hi' A B c d W (h : Row lo hi W A (IntK.iv zs)) (h' : Row lo' hi' W B (IntK.iv us)) => LinI.addScaledC lo hi lo' hi' z k u A B c d zs us W h h' (by omega) (by omega))
    have SP := Lib.hid (fun lo hi lo' hi' A B c d W (h : Row lo hi W A (IntK.iv zs)) (h' : Row lo' hi' W B (IntK.iv us)) => LinS.addScaledC lo hi lo' hi' z k u A B c d zs us W h h' (by omega) (by omega))
    have hTl := LinI.addS_len z zs k u us
    have HE := Lib.hid (fun zc cs vs h => LinM.addS_eval (z := z) (k := k) (u := u) (zc := zc) (zs := zs) (us := us) (cs := cs) (vs := vs) h)
    unfold LinI.GaveOC at IM SP
    generalize hR : addS z zs k u us = R at *
    clear hR
    obtain ⟨T, hT⟩ : ∃ T, T = R.getD (0, []) := ⟨_, rfl⟩
    rw [← hT] at IM SP hTl
    obtain ⟨q, hq⟩ : ∃ q, q = R.isSome := ⟨_, rfl⟩
    rw [← hq] at IM SP
    have HR : Hid (q = true → R = some T) := Lib.hid (by intro h; rw [hq] at h; rw [hT]; cases R with | none => cases h | some p => rfl)
    clear hT hq
    go_wp2_with fail
    refine (Calls.mono (IM.out _ _ _ _ B C d f _ (RB_1.out.below (((Below.refl w1.heap.size w1).alloc (by first | (simp; done) | (simp; omega)) (Obj.cells #[Value.int .i64 z, Value.slice B zs.length d] 26)).alloc (by first | (simp; done) | (simp; omega)) (Obj.cells #[Value.int .i64 u, Value.slice C us.length f] 26))) (RC_1.out.below (((Below.refl w1.heap.size w1).alloc (by first | (simp; done) | (simp; omega)) (Obj.cells #[Value.int .i64 z, Value.slice B zs.length d] 26)).alloc (by first | (simp; done) | (simp; omega)) (Obj.cells #[Value.int .i64 u, Value.slice C us.length f] 26))))) ?_
    rintro e w2 ⟨G, cc1, rfl, rc1, fc1, b2, pc1⟩
    simp only [World.size_alloc] at rc1
    have Oc1 := Lib.hid (show IntK.Own (w1.heap.size + 1 + 1) w2.heap.size w2 G T.2 from ⟨rc1, fc1⟩)
    have hs2 : ((w1.alloc (Obj.cells #[Value.int .i64 z, Value.slice B zs.length d] 26)).alloc (Obj.cells #[Value.int .i64 u, Value.slice C us.length f] 26)).heap.size ≤ w2.heap.size := b2.size
    simp only [World.size_alloc] at hs2
    have d2 : Below w1.heap.size w1 w2 := (((Below.refl w1.heap.size w1).alloc (by first | (simp; done) | (simp; omega)) (Obj.cells #[Value.int .i64 z, Value.slice B zs.length d] 26)).alloc (by first | (simp; done) | (simp; omega)) (Obj.cells #[Value.int .i64 u, Value.slice C us.length f] 26)).trans (b2.mono (show w1.heap.size ≤ ((w1.alloc (Obj.cells #[Value.int .i64 z, Value.slice B zs.length d] 26)).alloc (Obj.cells #[Value.int .i64 u, Value.slice C us.length f] 26)).heap.size by first | exact Nat.le_refl _ | (simp; done) | (simp; omega)))
    have d2h := Lib.hid d2
    have B2 := Lib.hid (B1.out.trans (d2.mono B1.out.size))
    have RB_2 := Lib.hid (RB_1.out.below d2)
    have RC_2 := Lib.hid (RC_1.out.below d2)
    have Va_2 := Lib.hid (((Lvar.new w1 #[Value.int .i64 z, Value.slice B zs.length d] 26).alloc (Obj.cells #[Value.int .i64 u, Value.slice C us.length f] 26)).below b2)
    have Vb_2 := Lib.hid ((Lvar.new (w1.alloc (Obj.cells #[Value.int .i64 z, Value.slice B zs.length d] 26)) #[Value.int .i64 u, Value.slice C us.length f] 26).below b2)
    simp only [World.size_alloc] at Vb_2
    clear RB_1 RC_1 b2 d2
    have c_Va_0 := Va_2.out.cell 0 _ rfl
    have c_Va_1 := Va_2.out.cell 1 _ rfl
    have lt_Va := Va_2.out.lt
    have c_Vb_0 := Vb_2.out.cell 0 _ rfl
    have c_Vb_1 := Vb_2.out.cell 1 _ rfl
    have lt_Vb := Vb_2.out.lt
    go_wp2_with fail
    refine (Calls.mono (SP.out _ _ _ _ B C d f _ (RB_2.out.below ((Below.refl w2.heap.size w2).alloc (by first | (simp; done) | (simp; omega)) (Obj.cells #[Value.int .i64 T.1, Value.slice G T.2.length cc1] 26))) (RC_2.out.below ((Below.refl w2.heap.size w2).alloc (by first | (simp; done) | (simp; omega)) (Obj.cells #[Value.int .i64 T.1, Value.slice G T.2.length cc1] 26))))) ?_
    rintro e w3 ⟨D, cc2, rfl, rc2, fc2, b3, pc2⟩
    simp only [World.size_alloc] at rc2
    have Oc2 := Lib.hid (show IntK.Own (w2.heap.size + 1) w3.heap.size w3 D T.2 from ⟨rc2, fc2⟩)
    have hs3 : (w2.alloc (Obj.cells #[Value.int .i64 T.1, Value.slice G T.2.length cc1] 26)).heap.size ≤ w3.heap.size := b3.size
    simp only [World.size_alloc] at hs3
    have d3 : Below w2.heap.size w2 w3 := ((Below.refl w2.heap.size w2).alloc (by first | (simp; done) | (simp; omega)) (Obj.cells #[Value.int .i64 T.1, Value.slice G T.2.length cc1] 26)).trans (b3.mono (show w2.heap.size ≤ (w2.alloc (Obj.cells #[Value.int .i64 T.1, Value.slice G T.2.length cc1] 26)).heap.size by first | exact Nat.le_refl _ | (simp; done) | (simp; omega)))
    have d3h := Lib.hid d3
    have B3 := Lib.hid (B2.out.trans (d3.mono B2.out.size))
    have RB_3 := Lib.hid (RB_2.out.below d3)
    have RC_3 := Lib.hid (RC_2.out.below d3)
    have Va_3 := Lib.hid (Va_2.out.below d3)
    have Vb_3 := Lib.hid (Vb_2.out.below d3)
    have Oc1_3 := Lib.hid (Oc1.out.below d3)
    have Vc1_3 := Lib.hid ((Lvar.new w2 #[Value.int .i64 T.1, Value.slice G T.2.length cc1] 26).below b3)
    clear RB_2 RC_2 Va_2 Vb_2 Oc1 c_Va_0 c_Va_1 lt_Va c_Vb_0 c_Vb_1 lt_Vb b3 d3
    have t3 : Below w3.heap.size w3 (w3.alloc (Obj.cells #[Value.int .i64 T.1, Value.slice D T.2.length cc2] 26)) := (Below.refl _ _).alloc (Nat.le_refl _) _
    have B4 := Lib.hid (B3.out.trans (t3.mono B3.out.size))
    have RB4 := Lib.hid (RB_3.out.below t3)
    have RC4 := Lib.hid (RC_3.out.below t3)
    have La4 := Lib.hid (Va_3.out.below t3)
    have Lb4 := Lib.hid (Vb_3.out.below t3)
    have O14 := Lib.hid (Oc1_3.out.below t3)
    have O24 := Lib.hid (Oc2.out.below t3)
    have Lu4 := Lib.hid (Vc1_3.out.below t3)
    have Lv4 := Lib.hid (Lvar.new w3 #[Value.int .i64 T.1, Value.slice D T.2.length cc2] 26)
    have HC4 := Lib.hid (((HC_1.out.keep d2h.out).keep d3h.out).keep t3)
    have hp3 : w3.heap.size < (w3.alloc (Obj.cells #[Value.int .i64 T.1, Value.slice D T.2.length cc2] 26)).heap.size := by simp
    have PC1 := Lib.hid pc1
    have PC2 := Lib.hid pc2
    have hT9 : T.2.length ≤ 9 := by omega
    have VI := Lib.hid (fun W (h : Row lo hi W B (IntK.iv zs)) => LinI.valid lo hi z B d zs zs.length W h (by omega))
    have VS := Lib.hid (fun W (h : Row lo hi W B (IntK.iv zs)) => LinS.valid lo hi z B d zs zs.length W h (by omega))
    generalize vldB z zs zs.length = V at VI VS
    clear t3 B3 RB_3 RC_3 Va_3 Vb_3 Oc1_3 Oc2 Vc1_3 HC_1 pc1 pc2 IM SP d2h d3h B1
    go_wp2_with fail
    generalize (w3.alloc (Obj.cells #[Value.int .i64 T.1, Value.slice D T.2.length cc2] 26)) = w4 at *
    have lu := Lu4.out.lt
    have lv := Lv4.out.lt
    have la := La4.out.lt
    have p4u := Lu4.out.below (Below.refl _ _).drew
    have p4v := Lv4.out.below (Below.refl _ _).drew
    have p4a := La4.out.below (Below.refl _ _).drew
    have p4u0 := p4u.cell 0 (.int .i64 T.1) rfl
    have p4u1 := p4u.cell 1 (.slice G T.2.length cc1) rfl
    have p4v0 := p4v.cell 0 (.int .i64 T.1) rfl
    have p4v1 := p4v.cell 1 (.slice D T.2.length cc2) rfl
    have p4a0 := p4a.cell 0 (.int .i64 z) rfl
    have p4a1 := p4a.cell 1 (.slice B zs.length d) rfl
    go_region_held3 (fun w' => w'.cell? ⟨w2.heap.size, 0, none⟩ = some (Value.int .i64 T.1) ∧ w'.cell? ⟨w2.heap.size, 1, none⟩ = some (Value.slice G T.2.length cc1) ∧ w'.cell? ⟨w3.heap.size, 0, none⟩ = some (Value.int .i64 T.1) ∧ w'.cell? ⟨w3.heap.size, 1, none⟩ = some (Value.slice D T.2.length cc2) ∧ w'.cell? ⟨w1.heap.size, 0, none⟩ = some (Value.int .i64 z) ∧ w'.cell? ⟨w1.heap.size, 1, none⟩ = some (Value.slice B zs.length d))
      (first | with_reducible exact ⟨p7u0, p7u1, p7v0, p7v1, p7a0, p7a1⟩ | with_reducible exact ⟨p6u0, p6u1, p6v0, p6v1, p6a0, p6a1⟩ | with_reducible exact ⟨p5u0, p5u1, p5v0, p5v1, p5a0, p5a1⟩ | with_reducible exact ⟨p4u0, p4u1, p4v0, p4v1, p4a0, p4a1⟩ | go_keep)
      (first
        | (go_at_call 9; refine (Calls.mono (sameI T (A := G) (A2 := D) cc1 cc2 hT9 PC1.out PC2.out (O14.out.1.below (Below.refl _ _).drew) (O24.out.1.below (Below.refl _ _).drew))) ?_; rintro e w5 ⟨rfl, b5⟩; (have p5u := ((Lu4.out.below (Below.refl _ _).drew).below b5)); (have p5v := ((Lv4.out.below (Below.refl _ _).drew).below b5)); (have p5a := ((La4.out.below (Below.refl _ _).drew).below b5)); (have p5u0 := p5u.cell 0 (.int .i64 T.1) rfl); (have p5u1 := p5u.cell 1 (.slice G T.2.length cc1) rfl); (have p5v0 := p5v.cell 0 (.int .i64 T.1) rfl); (have p5v1 := p5v.cell 1 (.slice D T.2.length cc2) rfl); (have p5a0 := p5a.cell 0 (.int .i64 z) rfl); (have p5a1 := p5a.cell 1 (.slice B zs.length d) rfl))
        | (go_at_call 10; refine (Calls.mono (VI.out _ ((RB4.out.below (Below.refl _ _).drew).below b5))) ?_; rintro e w6 ⟨rfl, b6⟩; (have p6u := (((Lu4.out.below (Below.refl _ _).drew).below b5).below b6)); (have p6v := (((Lv4.out.below (Below.refl _ _).drew).below b5).below b6)); (have p6a := (((La4.out.below (Below.refl _ _).drew).below b5).below b6)); (have p6u0 := p6u.cell 0 (.int .i64 T.1) rfl); (have p6u1 := p6u.cell 1 (.slice G T.2.length cc1) rfl); (have p6v0 := p6v.cell 0 (.int .i64 T.1) rfl); (have p6v1 := p6v.cell 1 (.slice D T.2.length cc2) rfl); (have p6a0 := p6a.cell 0 (.int .i64 z) rfl); (have p6a1 := p6a.cell 1 (.slice B zs.length d) rfl))
        | (go_at_call 11; refine (Calls.mono (VS.out _ (((RB4.out.below (Below.refl _ _).drew).below b5).below b6))) ?_; rintro e w7 ⟨rfl, b7⟩; (have p7u := ((((Lu4.out.below (Below.refl _ _).drew).below b5).below b6).below b7)); (have p7v := ((((Lv4.out.below (Below.refl _ _).drew).below b5).below b6).below b7)); (have p7a := ((((La4.out.below (Below.refl _ _).drew).below b5).below b6).below b7)); (have p7u0 := p7u.cell 0 (.int .i64 T.1) rfl); (have p7u1 := p7u.cell 1 (.slice G T.2.length cc1) rfl); (have p7v0 := p7v.cell 0 (.int .i64 T.1) rfl); (have p7v1 := p7v.cell 1 (.slice D T.2.length cc2) rfl); (have p7a0 := p7a.cell 0 (.int .i64 z) rfl); (have p7a1 := p7a.cell 1 (.slice B zs.length d) rfl)))
    have h5 : w4.heap.size ≤ w5.heap.size := b5.size
    have h6 : w5.heap.size ≤ w6.heap.size := b6.size
    have h7 : w6.heap.size ≤ w7.heap.size := b7.size
    have d7 : Below w4.heap.size w4 w7 := (((Below.refl w4.heap.size w4).drew.trans (b5.mono (show w4.heap.size ≤ w4.heap.size by omega))).trans (b6.mono (show w4.heap.size ≤ w5.heap.size by omega))).trans (b7.mono (show w4.heap.size ≤ w6.heap.size by omega))
    have B8 := Lib.hid (B4.out.trans (d7.mono B4.out.size))
    have RB8 := Lib.hid (RB4.out.below d7)
    have RC8 := Lib.hid (RC4.out.below d7)
    have La8 := Lib.hid (La4.out.below d7)
    have Lb8 := Lib.hid (Lb4.out.below d7)
    have O18 := Lib.hid (O14.out.below d7)
    have Lu8 := Lib.hid (Lu4.out.below d7)
    have HC8 := Lib.hid (HC4.out.keep d7)
    have hs7 : w1.heap.size < w7.heap.size := by omega
    clear p4u p4u0 p4u1 p4v p4v0 p4v1 p4a p4a0 p4a1 p5u p5u0 p5u1 p5v p5v0 p5v1 p5a p5a0 p5a1 p6u p6u0 p6u1 p6v p6v0 p6v1 p6a p6a0 p6a1 p7u p7u0 p7u1 p7v p7v0 p7v1 p7a p7a0 p7a1 b5 b6 b7 d7 B4 RB4 RC4 La4 Lb4 O14 O24 Lu4 Lv4 HC4 lu lv la PC1 PC2 VI VS
    have v0 := La8.out.cell 0 (.int .i64 z) rfl
    have v1 := La8.out.cell 1 (.slice B zs.length d) rfl
    obtain ⟨i0, hi0, hz0, hz1, hz2⟩ := info_parts IntK.intInfo
    have s9 : Below w7.heap.size w7 (w7.alloc (.cells #[] 3)) := (Below.refl _ _).alloc (Nat.le_refl _) _
    have O9 := Lib.hid (own_empty (w := w7) (Below.refl _ _) (Nat.le_refl _))
    go_wp2
    have hs9 : w7.heap.size ≤ (w7.alloc (.cells #[] 3)).heap.size := s9.size
    clear v0 v1
    generalize w7.alloc (.cells #[] 3) = w9 at *
    go_loopw [10, 11] (fun v i wr => ∃ (j : Nat) (vs : List Int), j ≤ zs.length ∧ i = .int .i64 j ∧ vs.length = j ∧ Draw.vals (-5) 14 vs ∧ wr.ownsRow w7.heap.size 3 1 v vs.length (IntK.iv vs) ∧ Below w7.heap.size w7 wr) (fun _ i _ => zs.length - (intOf i).toNat)
    case atStart => exact ⟨0, [], Nat.zero_le _, rfl, rfl, (fun x hx => by cases hx), O9.out, s9⟩
    case round =>
      obtain ⟨j, vs, hj, rfl, hlen, hvs, hown, hb⟩ := hrel
      have HS := Lib.hid hvs
      have HO := Lib.hid hown
      have HL := Lib.hid hlen
      have hbase := hb.size
      have VR := Lib.hid (La8.out.below hb)
      have v0 := VR.out.cell 0 (.int .i64 z) rfl
      have v1 := VR.out.cell 1 (.slice B zs.length d) rfl
      have HB := Lib.hid hb
      clear hvs hown s9 hb
      by_cases hlt : j < zs.length
      · have hk9 : vs.length ≤ 9 := by omega
        have hk0 : (0 : Int) ≤ (j : Int) := by omega
        have hk1 : (j : Int) < (zs.length : Int) := by omega
        have AT := Lib.hid (Draw.at0 A n c j hn (by omega) wr (HC8.out.keep HB.out))
        clear hlen
        go_wp2_with fail
        refine (Calls.mono AT.out) ?_
        rintro e w' ⟨x, hx, rfl, rfl⟩
        have hm0 : x.tmod 20 = x % 20 := Int.tmod_eq_emod_of_nonneg hx.1
        have hy : -5 ≤ x % 20 - 5 ∧ x % 20 - 5 ≤ 14 := by omega
        have hw : IntKind.i64.wrap (x % 20 - 5) = x % 20 - 5 := IntWalk.i64_in _ (by omega)
        go_wp2_with (at_builtin; go_loud (refine wpList_append_own _ rfl (.tmp 70) (.tmp 76) 24 rfl w7.heap.size 3 i0 (.int .i64 0) 1 8 Try.underlying24 hi0 hz0 hz1 hz2 rfl (by decide) _ _ _ rfl (HO.out.alloc _) ⟨wr.heap.size, 0, none⟩ 1 1 [.int .i64 (x % 20 - 5)] rfl rfl (cell_one_new _ _ _) (by simp [Value.oneCell']) (by unfold maxLen; omega) (by omega) (by simp <;> omega) ?_); intro v4 w4' hown4 hgrow _)
        have hb4 : Below w7.heap.size w7 w4' := (HB.out.alloc HB.out.size _).grown hgrow (by simp <;> omega) (fun j hj => (HO.out.lt j hj).1)
        have hown5 : w4'.ownsRow w7.heap.size 3 1 v4 (vs ++ [x % 20 - 5]).length (IntK.iv (vs ++ [x % 20 - 5])) := by simpa [IntK.iv] using hown4
        have hvs5 := Draw.vals_snoc HS.out hy
        have hl5 : (vs ++ [x % 20 - 5]).length = j + 1 := by have := HL.out; simp; omega
        have V4' := La8.out.below hb4
        have x0 := V4'.cell 0 _ rfl
        have x1 := V4'.cell 1 _ rfl
        clear hown4 hgrow hm0 hw hy V4'
        generalize vs ++ [x % 20 - 5] = vs2 at *
        have HN5 := Lib.hid hl5
        clear hl5
        go_wp2
        go_roundw
        case rel => exact ⟨j + 1, vs2, by omega, by go_num, HN5.out, hvs5, hown5, hb4⟩
        case measure => simp [intOf]; omega
      · have hk' : vs.length = zs.length := by omega
        obtain ⟨A5, c5, e5, r5, f5, _, _⟩ := of_own HO.out
        subst e5
        have hlz : decide ((j : Int) < (zs.length : Int)) = false := by simp; omega
        have BR := Lib.hid (B8.out.trans (HB.out.mono B8.out.size))
        cases q with
        | false =>
          clear r5 f5 hlen hk'
          go_wp2
          go_ret
          exact ⟨rfl, BR.out⟩
        | true =>
          obtain ⟨x, y, t, ex, ey, et, hxy, hx, ht⟩ := HE.out T.1 T.2 vs (by rw [HR.out rfl]) hk' (Draw.vals_fit HS.out (by omega) (by omega))
          have E1 := LinI.eval lo hi _ _ z B A5 d c5 zs vs wr (RB8.out.below HB.out) r5 (by omega) (by omega)
          rw [ex] at E1
          simp only [Option.getD_some, Option.isSome_some] at E1
          have E1 := Lib.hid E1
          have E2 := Lib.hid (fun W (h : Below wr.heap.size wr W) => LinI.eval lo2 hi2 _ _ u C A5 f c5 us vs W ((RC8.out.below HB.out).below h) (r5.below h) (by omega) (by omega))
          rw [ey] at E2
          simp only [Option.getD_some, Option.isSome_some] at E2
          have E3 := Lib.hid (fun W (h : Below wr.heap.size wr W) => LinI.eval _ _ _ _ T.1 G A5 cc1 c5 T.2 vs W ((O18.out.1.below HB.out).below h) (r5.below h) (by omega) (by omega))
          rw [et] at E3
          simp only [Option.getD_some, Option.isSome_some] at E3
          have LbR := Lib.hid (Lb8.out.below HB.out)
          have LuR := Lib.hid (Lu8.out.below HB.out)
          subst hxy
          have hw1 : wrap64 (k * y) = k * y := by generalize k * y = m at *; unfold wrap64; omega
          have hw2 : wrap64 (x + k * y) = x + k * y := by generalize k * y = m at *; unfold wrap64; omega
          have hx1 : -9223372036854775808 ≤ x + k * y := by omega
          have hx2 : x + k * y ≤ 9223372036854775807 := by omega
          clear hk' r5 f5 ex ey et hlen HE
          go_wp2_with fail
          refine (Calls.mono E1.out) ?_
          rintro e w10 ⟨rfl, b10⟩
          have u0 := (LbR.out.below b10).cell 0 _ rfl
          have u1 := (LbR.out.below b10).cell 1 _ rfl
          go_wp2_with fail
          refine (Calls.mono (E2.out _ b10)) ?_
          rintro e w11 ⟨rfl, b11⟩
          have b12 : Below wr.heap.size wr w11 := b10.trans (b11.mono b10.size)
          have s0 := (LuR.out.below b12).cell 0 _ rfl
          have s1 := (LuR.out.below b12).cell 1 _ rfl
          have B12 := Lib.hid (BR.out.trans (b12.mono BR.out.size))
          clear u0 u1 b11 b10
          go_wp2_with fail
          refine (Calls.mono (E3.out _ b12)) ?_
          rintro e w13 ⟨rfl, b13⟩
          have B13 := Lib.hid (B12.out.trans (b13.mono B12.out.size))
          clear s0 s1 b12 b13
          go_wp2
          go_ret
          exact ⟨by simp [hw1, hw2], B13.out⟩

  · go_enter Try.func3, Try.ntmps3
    go_wp2_with fail
    refine (Draw.great A n c hn _).mono ?_
    rintro e w' ⟨rfl, rfl⟩
    go_wp2
    go_ret
    exact ⟨rfl, Below.refl _ _⟩

set_option maxRecDepth 100000 in
theorem lifted (os : Os) (started : os.Started) (H : Type) (enc : TypeId × Value → H) :
    ReturnsInHanded {} Try.checked os 3 .any (Rows.fnLinearSpec.pre6 enc Try.prog Try.f3 Rows.fnLinearRow.domain false) (Rows.fnLinearSpec.post enc Try.prog Try.f3 false true false false) := by
  refine returnsInHanded_of_change (C := Try.checked) Frame.own started (by kernel_rfl) Try.func3
    (ChangeSpec.witness6 (enc := enc) (C := Try.checked) false ⟨#[], #[.slice none 0 0], []⟩ 8 (by kernel_rfl) (by kernel_rfl) (by kernel_rfl) (by kernel_rfl)) ?_
  intro W base args ds gs before hval0 hW _ _
  have hW' := hW
  have hval : ∀ (j : Nat) t v, Try.f3.params[j]? = some t → args[j]? = some v → Value.okWide Try.prog W .any base t v := hval0
  obtain ⟨p, q, hA0, hV, rfl, hfz, hnd⟩ := hW
  have hA : DataW.TrodAll enc Try.prog W 0 (fun _ => true) true Try.f3.params.toList args.toList ds p := hA0
  rw [Try.params3] at hA hval
  obtain ⟨v0, d0, rfl, rfl, h0⟩ := trodAll_one hA
  have hlt := fun x hx => hW'.lt x hx
  obtain ⟨rfl, rfl⟩ := trodVars_none hV
  obtain ⟨ab, nb, cb, rfl⟩ := okWide_slice Try.underlying22 (hval 0 22 v0 rfl rfl)
  obtain ⟨hb, hlb⟩ := Frame.open_code (W := W) (by kernel_rfl) Try.underlying22 Try.underlying5 h0 (fun x hx => hlt x (by simp [hx]))
  refine (walk ab nb cb W hb).mono fun e W' ⟨he, hb⟩ => ?_
  subst he
  exact ⟨_, rfl, Frame.law_post (tb := 4) Frame.laidOut (by kernel_rfl) (by kernel_rfl) (by kernel_rfl) Try.underlying4 hW' rfl hb⟩

theorem proved : Rows.FnLinearSaid :=
  OpenClaim.holds_of_wide 3 Try.f3 rfl rfl rfl rfl rfl rfl rfl ⟨rfl, rfl, rfl, rfl, rfl⟩ rfl rfl rfl rfl rfl (by kernel_rfl) Try.func3 (by kernel_rfl)
    (of_decide_eq_true (by kernel_rfl)) (by unfold Func.isWrapper; first | (rw [if_pos (by decide +kernel)]; kernel_rfl) | (rw [if_neg (by decide +kernel)]; exact ⟨rfl, rfl⟩))
    (fun os started H enc _ => lifted os started H enc)
end LawLinear
end Go.Proofs.Ytkeejkpeniinkaa
