import Derived.Test.YtbbllkhmenpnlaaGreatCompI
import Derived.Test.YtbbllkhmenpnlaaGreatPgmScope3
import Derived.Test.YtbbllkhmenpnlaaGreatNameOps
import Derived.Test.YtbbllkhmenpnlaaGreatGSStringS
import Derived.Test.YtbbllkhmenpnlaaGreatRepGen
/-
  nextComponent of the program (made by tools/s13n.py).
-/
namespace Go.Proofs.YtbbllkhmenpnlaaGreat
open Go.RowKit
namespace GraphM
open RowK Mem ProgM
theorem ok_step {fs : List FunctionT} {G : Arrows} {done : Nm} {f : ByteArray → Bool} {x : ByteArray} (hf : ∀ y, f y = true ↔ y ∈ names fs ∧ y ∉ done) (_hx : x ∈ names fs) (h : f x = true) :
  okC (names fs) G done x = decide (((NameM.wo (rchL (names fs) G x) ((names fs).filter (fun y => !f y) ++ compL (names fs) G x)).length : Int) = 0) := by
 rw [Bool.eq_iff_iff, okC_iff, decide_eq_true_iff]
 have h1 : ((NameM.wo (rchL (names fs) G x) ((names fs).filter (fun y => !f y) ++ compL (names fs) G x)).length : Int) = 0 ↔ (NameM.wo (rchL (names fs) G x) ((names fs).filter (fun y => !f y) ++ compL (names fs) G x)).length = 0 := by omega
 rw [h1, wo_nil]
 constructor
 ·rintro ⟨_, h3⟩ y hy
  rcases h3 y hy with h4 | h4
  ·exact List.mem_append_right _ h4
  ·refine List.mem_append_left _ (List.mem_filter.2 ⟨(mem_rchL.1 hy).2.1, ?_⟩)
   rw [Bool.not_eq_true']
   cases hq : f y with
   | false => rfl
   | true => exact absurd h4 ((hf y).1 hq).2
 ·intro h3
  refine ⟨((hf x).1 h).2, fun y hy => ?_⟩
  rcases List.mem_append.1 (h3 y hy) with h4 | h4
  ·refine Or.inr ?_
   have h5 := (List.mem_filter.1 h4).2
   rw [Bool.not_eq_true'] at h5
   exact Classical.byContradiction fun h6 => by
    rw [(hf y).2 ⟨(mem_rchL.1 hy).2.1, h6⟩] at h5
    cases h5
  ·exact Or.inl h4
theorem ok_closed {fs : List FunctionT} {G : Arrows} {done : Nm} {f : ByteArray → Bool} {x : ByteArray} (hf : ∀ y, f y = true ↔ y ∈ names fs ∧ y ∉ done) (hx : x ∈ names fs) (h : f x = false) : okC (names fs) G done x = false := by
 cases hq : okC (names fs) G done x with
 | false => rfl
 | true =>
  rw [(hf x).2 ⟨hx, (okC_iff.1 hq).1⟩] at h
  cases h
theorem next_hit {ns : Nm} {G : Arrows} {done : Nm} {k : Nat} (hk : k < ns.length) (h : ∀ x ∈ ns.take k, okC ns G done x = false) (h2 : okC ns G done ns[k] = true) : nextC ns G done = some (compL ns G ns[k]) := by
 have h3 : ns.find? (okC ns G done) = some ns[k] := by
  rw [List.find?_eq_some_iff_getElem]
  refine ⟨h2, k, hk, rfl, fun j hj => ?_⟩
  have h4 := h (ns[j]'(by omega)) (List.mem_take_iff_getElem.2 ⟨j, by omega, rfl⟩)
  rw [h4]; rfl
 unfold nextC
 rw [h3]
 rfl
theorem next_none {ns : Nm} {G : Arrows} {done : Nm} (h : ∀ x ∈ ns, okC ns G done x = false) : nextC ns G done = none := by
 have h3 : ns.find? (okC ns G done) = none := List.find?_eq_none.2 fun x hx => by rw [h x hx]; simp
 unfold nextC
 rw [h3]
 rfl
end GraphM
namespace GraphI
open RowK Mem GraphM ProgM MapK
set_option maxHeartbeats 4000000 in
set_option maxRecDepth 100000 in
theorem nextComponent (b : Nat) (A B : Option Addr) (c d : Nat) (f : ByteArray → Bool) (sz : Nat) (fs : List FunctionT) (rs : List RuleT) (done : Nm) (w : World) (M : MapO w b f sz) (hf : ∀ y, f y = true ↔ y ∈ names fs ∧ y ∉ done)
  (hA : ArgS Mem.fn w A fs.length c fs) (hB : ArgS rule w B rs.length d rs) (hl : szProgramU (fs, rs) ≤ 9000000) (hv : progV fs rs = true) :
  Calls Tryz.prog 48 #[.map (some b), .agg #[.slice A fs.length c, .slice B rs.length d]] w (ProgI.GaveS w ((nextC (names fs) (arrows rs) done).getD [])) := by
 obtain ⟨i0, hi, hz0, hz1, hz2⟩ := info_parts strInfoU
 have b0 : Below w.heap.size w (w.alloc (Obj.cells #[Value.slice A fs.length c, Value.slice B rs.length d] 27)) := (Below.refl _ _).alloc (Nat.le_refl _) _
 have V0 := Lvar.new w #[Value.slice A fs.length c, Value.slice B rs.length d] 27
 have B0 := Lib.hid b0
 have HV := Lib.hid V0
 have HM := Lib.hid M
 have HA := Lib.hid hA
 have hfl : fs.length ≤ 9000000 := by simp only [szProgramU] at hl; omega
 have HL := Lib.hid (show fs.length + szs szFunctionU fs ≤ 9000000 by simp only [szProgramU] at hl; omega)
 have CO := Lib.hid (fun x (hx : x.size ≤ maxLen) W (h : Below w.heap.size w W) => componentOf A B c d fs rs x W (hA.below h) (hB.below h) hl hv hx)
 have RE := Lib.hid (fun x (hx : x.size ≤ maxLen) W (h : Below w.heap.size w W) => reachable A B c d fs rs x W (hA.below h) (hB.below h) hl hv hx)
 have CL := Lib.hid (fun W (h : Below w.heap.size w W) => closedO b A (.slice B rs.length d) c f sz fs W (M.below h) (hA.below h) HL.out)
 have HFF := Lib.hid hf
 have HN3 := Lib.hid (valid_len hv)
 clear hA hB hl hv M b0 V0 hf
 obtain ⟨Z, hZ⟩ : ∃ Z, Z = (nextC (names fs) (arrows rs) done).getD [] := ⟨_, rfl⟩
 rw [← hZ]
 have HZ := Lib.hid hZ
 clear hZ
 go_enter Tryz.func48, Tryz.ntmps48
 go_wp2
 go_loopw [12] (fun i wr => ∃ k : Nat, k ≤ fs.length ∧ i = .int .i64 k ∧ Hid (∀ x ∈ (fs.take k).map (·.1), okC (names fs) (arrows rs) done x = false) ∧ Below w.heap.size w wr ∧ Lvar wr w.heap.size #[Value.slice A fs.length c, Value.slice B rs.length d]) (fun i _ => fs.length - (intOf i).toNat)
 case atStart => exact ⟨0, Nat.zero_le _, rfl, Lib.hid (fun x hx => by simp at hx), B0.out, HV.out⟩
 case round =>
  obtain ⟨k, hk, rfl, hpre, hb, hV⟩ := hrel
  have HPRE := Lib.hid hpre.out
  have HB := Lib.hid hb
  have HVV := Lib.hid hV
  clear hpre hb hV HV
  by_cases hlt : k < fs.length
  ·obtain ⟨bA, oA, A1, c1, A3, c3, rfl, hbb, g0, g1, g2, g3, _, _⟩ := (HA.out.below HB.out).fn_at hlt
   have hzs : fs[k].1.size ≤ 9000000 := by
    have h1 := HL.out
    have h2 := szs_mem (sz := szFunctionU) (List.getElem_mem hlt)
    simp only [szFunctionU] at h2
    omega
   have HST := Lib.hid (names_take fs hlt)
   have hnk : k < (names fs).length := by unfold names; rw [List.length_map]; exact hlt
   have HNK := Lib.hid (show (names fs)[k]'hnk = fs[k].1 by simp [names])
   have HMEM := Lib.hid (show fs[k].1 ∈ names fs from List.mem_map.2 ⟨_, List.getElem_mem hlt, rfl⟩)
   have HTK := Lib.hid (show (names fs).take k = (fs.take k).map (·.1) by unfold names; rw [List.map_take])
   have hml : maxLen = 9223372036854775807 := rfl
   have hcl3 : ((names fs).filter (fun y => !f y)).length ≤ 9000000 := by
    have h1 := List.length_filter_le (fun y => !f y) (names fs)
    unfold names at h1 ⊢
    rw [List.length_map] at h1
    omega
   have hcm3 : (compL (names fs) (arrows rs) fs[k].1).length ≤ 9000000 := by
    have h1 := compL_len (ns := names fs) (G := arrows rs) (a := fs[k].1)
    unfold names at h1 ⊢
    rw [List.length_map] at h1
    omega
   have hrc3 : (rchL (names fs) (arrows rs) fs[k].1).length ≤ 9000000 := by
    have h1 := rchL_len (ns := names fs) (G := arrows rs) (a := fs[k].1)
    unfold names at h1 ⊢
    rw [List.length_map] at h1
    omega
   have HHIT := Lib.hid (fun (h : okC (names fs) (arrows rs) done fs[k].1 = true) => next_hit hnk (fun x hx => HPRE.out x (by rw [← HTK.out]; exact hx)) (by rw [HNK.out]; exact h))
   rw [HNK.out] at HHIT
   have HOK := Lib.hid (fun (h : f fs[k].1 = true) => ok_step (G := arrows rs) HFF.out HMEM.out h)
   have HNO := Lib.hid (fun (h : f fs[k].1 = false) => ok_closed (G := arrows rs) HFF.out HMEM.out h)
   generalize fs[k] = y at *
   obtain ⟨z0, x1, z2, x3⟩ := y
   simp only at g0 g1 g2 g3 hzs HST hcm3 hrc3 HHIT HOK HNO
   clear HNK HMEM HTK hnk
   generalize hgp : compL (names fs) (arrows rs) z0 = CP at *
   generalize hgr : rchL (names fs) (arrows rs) z0 = RC at *
   generalize hgc : (names fs).filter (fun y => !f y) = CS at *
   have hi0 : (0 : Int) ≤ (k : Int) := by omega
   have hi1 : (k : Int) < (fs.length : Int) := by omega
   have hzm : z0.size ≤ maxLen := by omega
   have hd : Below wr.heap.size wr (wr.alloc (Obj.cells #[Value.string z0, Value.slice A1 x1.length c1, Value.bool z2, Value.slice A3 x3.length c3] 98)) := (Below.refl _ _).alloc (Nat.le_refl _) _
   have VF := Lib.hid (Lvar.new wr #[Value.string z0, Value.slice A1 x1.length c1, Value.bool z2, Value.slice A3 x3.length c3] 98)
   have HP1 := Lib.hid (HVV.out.below hd)
   have BD := Lib.hid (below_step HB.out hd)
   have CO1 := Lib.hid (CO.out z0 hzm _ BD.out)
   rw [hgp] at CO1
   have p0 : wr.cell? ⟨w.heap.size, 0, none⟩ = some (.slice (some ⟨bA, oA, none⟩) fs.length c) := HVV.out.cell 0 _ rfl
   have p1 : wr.cell? ⟨w.heap.size, 1, none⟩ = some (.slice B rs.length d) := HVV.out.cell 1 _ rfl
   have hpl := HVV.out.lt
   clear hd
   go_wp2_with fail
   refine (Calls.mono CO1.out) ?_
   rintro e w1 ⟨Rc, cc, rfl, oC, b1⟩
   have B1 := Lib.hid (below_step BD.out b1)
   have VF1 := Lib.hid (VF.out.below b1)
   have HP2 := Lib.hid (HP1.out.below b1)
   have OC := Lib.hid oC
   have CL1 := Lib.hid (CL.out w1 B1.out)
   have m0 : w1.cell? ⟨w.heap.size, 0, none⟩ = some (.slice (some ⟨bA, oA, none⟩) fs.length c) := HP2.out.cell 0 _ rfl
   have m1 : w1.cell? ⟨w.heap.size, 1, none⟩ = some (.slice B rs.length d) := HP2.out.cell 1 _ rfl
   clear b1 oC p0 p1 hpl VF HP1 BD CO1
   go_wp2_with fail
   refine (Calls.mono CL1.out) ?_
   rintro e w2 ⟨v, rfl, hO, b2⟩
   have OC2 := Lib.hid (OwnS.below OC.out b2)
   have RN := Lib.hid (ProgS.str_row OC2.out.arg)
   have HO2 := Lib.hid hO
   have B12 := Lib.hid b2
   have hs12 := b2.size
   clear b2 hO m0 m1 CL1
   go_upto_region 6 with (at_builtin; go_loud (refine wpList_append_rowW rfl _ _ _ rfl 9 i0 (.string ByteArray.empty) 1 16 w1.heap.size Tryz.underlying31 hi hz0 hz1 hz2 rfl (by decide) _ CS.length (CS.map Value.string) rfl HO2.out _ CP.length _ (CP.map Value.string) rfl (by simp) RN.out (fun u hu => by obtain ⟨s, _, rfl⟩ := List.mem_map.1 hu; rfl) (by unfold maxLen; omega) (by omega) (by omega) ?_); intro v5 w5 hown5 hgrow hwh)
   have b15 : Below w1.heap.size w1 w5 := B12.out.grown hgrow B12.out.size (fun g e => (HO2.out.lt g e).1)
   have hown6 : w5.ownsRow w1.heap.size 9 1 v5 (CS ++ CP).length ((CS ++ CP).map Value.string) := by rw [List.map_append, List.length_append]; exact hown5
   obtain ⟨A5, c5, ev5, hr5, _⟩ := StrK.of_own hown6
   subst ev5
   rw [List.length_append] at *
   have HR5 := Lib.hid hr5
   have B5 := Lib.hid (below_step B1.out b15)
   have VF5 := VF1.out.below b15
   have HP5 := Lib.hid (HP2.out.below b15)
   have OC5 := Lib.hid (OwnS.below OC.out b15)
   have f0 : w5.cell? ⟨wr.heap.size, 0, none⟩ = some (.string z0) := VF5.cell 0 _ rfl
   have q0 : w5.cell? ⟨w.heap.size, 0, none⟩ = some (.slice (some ⟨bA, oA, none⟩) fs.length c) := HP5.out.cell 0 _ rfl
   have q1 : w5.cell? ⟨w.heap.size, 1, none⟩ = some (.slice B rs.length d) := HP5.out.cell 1 _ rfl
   have hlk := (HM.out.below B5.out).look z0 hzm
   have RE5 := Lib.hid (RE.out z0 hzm w5 B5.out)
   rw [hgr] at RE5
   clear hown5 hown6 hgrow hwh b15 hr5 VF5 VF1 HP2 B1 OC B12 OC2 HO2 RN hs12
   cases hq : f z0 with
   | false =>
    rw [hq] at hlk
    have HF := Lib.hid (show ∀ x ∈ (fs.take (k + 1)).map (·.1), okC (names fs) (arrows rs) done x = false from fun x hx => by
     rw [HST.out] at hx
     rcases List.mem_append.1 hx with hx | hx
     ·exact HPRE.out x hx
     ·rw [List.mem_singleton.1 hx]; exact HNO.out hq)
    clear hq
    go_wp2
    go_roundw
    case rel => exact ⟨k + 1, by omega, by go_num, HF, B5.out, HP5.out⟩
    case measure => simp [intOf]; omega
   | true =>
    rw [hq] at hlk
    have HOK1 := Lib.hid (HOK.out hq)
    clear hq HOK HNO
    go_wp2_with fail
    refine (Calls.mono RE5.out) ?_
    rintro e w6 ⟨Rr, cr, rfl, oR, b6⟩
    have B6 := Lib.hid (below_step B5.out b6)
    have OC6 := Lib.hid (OwnS.below OC5.out b6)
    have HP6 := Lib.hid (HP5.out.below b6)
    obtain ⟨qr, fpr, hr9⟩ := oR.arg
    have WO := Lib.hid (NameS.implWithout Rr A5 cr c5 RC (CS ++ CP) w6 (strs_open hr9).1 (HR5.out.below b6) (by omega) (by rw [List.length_append]; omega))
    rw [List.length_append] at WO
    clear b6 oR hr9 RE5 hlk f0 q0 q1
    go_wp2_with fail
    refine (Calls.mono WO.out) ?_
    rintro e w7 ⟨A7, c7, rfl, _, _, b7, _, _⟩
    have B7 := Lib.hid (below_step B6.out b7)
    have OC7 := Lib.hid (OwnS.below OC6.out b7)
    have HP7 := Lib.hid (HP6.out.below b7)
    clear b7
    generalize (NameM.wo RC (CS ++ CP)).length = n9 at *
    by_cases h9 : (n9 : Int) = 0
    ·have e9 : ((n9 : Int) == 0) = true := by simpa using h9
     have HFZ := Lib.hid (show Z = CP by rw [HZ.out, HHIT.out (by rw [HOK1.out, decide_eq_true h9])]; rfl)
     clear h9
     go_wp2
     go_ret
     rw [HFZ.out]
     exact ⟨Rc, cc, rfl, OC7.out.wider (by have := HB.out.size; simp only [World.size_alloc]; omega) (by have := OC7.out.1; omega) (Nat.le_refl _), B7.out⟩
    ·have e9 : ((n9 : Int) == 0) = false := by simpa using h9
     have HF := Lib.hid (show ∀ x ∈ (fs.take (k + 1)).map (·.1), okC (names fs) (arrows rs) done x = false from fun x hx => by
      rw [HST.out] at hx
      rcases List.mem_append.1 hx with hx | hx
      ·exact HPRE.out x hx
      ·rw [List.mem_singleton.1 hx, HOK1.out]; exact decide_eq_false h9)
     clear h9
     go_wp2
     go_roundw
     case rel => exact ⟨k + 1, by omega, by go_num, HF, B7.out, HP7.out⟩
     case measure => simp [intOf]; omega
  ·obtain rfl : k = fs.length := by omega
   have HFN := Lib.hid (show Z = [] by
    rw [HZ.out, next_none (fun x hx => HPRE.out x (by rw [List.take_length]; exact hx))]; rfl)
   go_wp2
   go_ret
   rw [HFN.out]
   exact ⟨none, 0, rfl, OwnS.nil _ _ _ _ (Nat.le_refl _), HB.out⟩
end GraphI
end Go.Proofs.YtbbllkhmenpnlaaGreat

/-
  ComponentsOf of the program (made by tools/s13p.py).
-/
namespace Go.Proofs.YtbbllkhmenpnlaaGreat
open Go.RowKit
namespace GraphM
open RowK Mem
def GaveSS (w : World) (xs : List (List ByteArray)) (e : Ending) (w' : World) : Prop := ∃ A c, e = .returned (.slice A xs.length c) ∧ OwnS rowString w.heap.size w'.heap.size w' A xs.length c xs ∧ Below w.heap.size w w'
theorem gaveSS_nil {w w' : World} (h : Below w.heap.size w w') : GaveSS w [] (.returned (.slice none 0 0)) w' := ⟨none, 0, rfl, OwnS.nil _ _ _ _ (Nat.le_refl _), h⟩
theorem owned_gave {w w1 w' : World} {v : Value} {xs : List (List ByteArray)} (h : Owned rowString 31 (fun g => w1.heap.size ≤ g) w' v xs) (h1 : w.heap.size ≤ w1.heap.size) (hb : Below w.heap.size w w') : GaveSS w xs (.returned v) w' := by
 obtain ⟨A, c, rfl, hS⟩ := h.ownS (by decide) (fun b h => h)
 exact ⟨A, c, rfl, hS.wider h1 (Nat.le_refl _) (Nat.le_refl _), hb⟩
theorem ssInfo : (Tryz.prog.info? 31).map (fun i => (i.zero, i.size, i.bytes)) = some (some (.slice none 0 0), 1, 24) := by kernel_rfl
end GraphM
namespace GraphI
open RowK Mem GraphM ProgM MapK
def outer (w w1 : World) (b : Nat) (fs : List FunctionT) (G : Arrows) (PV : Array Value) (Z : List (List ByteArray)) (v : Value) (wr : World) : Prop :=
 ∃ (f : ByteArray → Bool) (sz : Nat) (done : Nm) (out : List (List ByteArray)), MapO wr b f sz ∧ (∀ y, f y = true ↔ y ∈ names fs ∧ y ∉ done) ∧ out.length + sz ≤ 1000000000 ∧ Z = out ++ compsL (names fs) G (names fs).length done ∧ Owned rowString 31 (fun g => w1.heap.size ≤ g) wr v out ∧ Lvar wr w.heap.size PV ∧ Below w.heap.size w wr ∧ w1.heap.size ≤ wr.heap.size
set_option maxHeartbeats 4000000 in
set_option maxRecDepth 100000 in
theorem componentsOf (A B : Option Addr) (c d : Nat) (fs : List FunctionT) (rs : List RuleT) (w : World) (hA : ArgS Mem.fn w A fs.length c fs) (hB : ArgS rule w B rs.length d rs) (hl : szProgramU (fs, rs) ≤ 9000000) :
  Calls Tryz.prog 12 #[.agg #[.slice A fs.length c, .slice B rs.length d]] w (GaveSS w (@ite _ (progV fs rs = true) _ (compsA (names fs) (arrows rs)) [])) := by
 obtain ⟨i0, hi, hz0, hz1, hz2⟩ := info_parts ssInfo
 have b0 : Below w.heap.size w (w.alloc (Obj.cells #[Value.slice A fs.length c, Value.slice B rs.length d] 27)) := (Below.refl _ _).alloc (Nat.le_refl _) _
 have V0 := Lvar.new w #[Value.slice A fs.length c, Value.slice B rs.length d] 27
 have hfl : fs.length + szs szFunctionU fs ≤ 9000000 := by simp only [szProgramU] at hl; omega
 have VP := Lib.hid (ProgI.validProg A B c d fs rs _ (hA.below b0) (hB.below b0) hl)
 have AO := Lib.hid (fun W (h : Below w.heap.size w W) => allOpen A (.slice B rs.length d) c fs W (hA.below h) hfl)
 have NX := Lib.hid (fun (hv : progV fs rs = true) b f sz done W (M : MapO W b f sz) (hf : ∀ y, f y = true ↔ y ∈ names fs ∧ y ∉ done) (h : Below w.heap.size w W) => nextComponent b A B c d f sz fs rs done W M hf (hA.below h) (hB.below h) hl hv)
 have HSM := Lib.hid (fun ss (h : List.Sublist ss (names fs)) => sub_small h hfl)
 have B0 := Lib.hid b0
 have HV := Lib.hid V0
 obtain ⟨Z, hZ⟩ : ∃ Z, Z = @ite _ (progV fs rs = true) _ (compsA (names fs) (arrows rs)) [] := ⟨_, rfl⟩
 rw [← hZ]
 have HZ := Lib.hid hZ
 clear hA hB b0 V0 hl hfl hZ
 cases hv : progV fs rs with
 | false =>
  rw [hv] at VP
  have HF := Lib.hid (show Z = [] by rw [HZ.out, hv]; rfl)
  clear hv NX HZ
  go_enter Tryz.func12, Tryz.ntmps12
  go_wp2_with fail
  refine (Calls.mono VP.out) ?_
  rintro e w1 ⟨rfl, b1⟩
  have B1 := Lib.hid (below_step B0.out b1)
  clear b1
  go_wp2
  go_ret
  rw [HF.out]
  exact gaveSS_nil B1.out
 | true =>
  rw [hv] at VP
  have HF := Lib.hid (show Z = compsA (names fs) (arrows rs) by rw [HZ.out, hv]; rfl)
  have NX := Lib.hid (NX.out hv)
  have HN3 := Lib.hid (valid_len hv)
  clear hv HZ
  go_enter Tryz.func12, Tryz.ntmps12
  go_wp2_with fail
  refine (Calls.mono VP.out) ?_
  rintro e w0 ⟨rfl, b1⟩
  have B1 := Lib.hid (below_step B0.out b1)
  have V1 := Lib.hid (HV.out.below b1)
  have l0 : w0.cell? ⟨w.heap.size, 0, none⟩ = some (.slice A fs.length c) := V1.out.cell 0 _ rfl
  have l1 : w0.cell? ⟨w.heap.size, 1, none⟩ = some (.slice B rs.length d) := V1.out.cell 1 _ rfl
  have AO1 := Lib.hid (AO.out w0 B1.out)
  clear b1 VP HV AO
  go_wp2_with fail
  refine (Calls.mono AO1.out) ?_
  rintro e w1 ⟨b, f0, sz0, rfl, hbb, M, hf, b2⟩
  have hbl := M.lt
  have hpb : w.heap.size < b := Nat.lt_of_lt_of_le V1.out.lt hbb
  have O0 := Lib.hid (show outer w w1 b fs (arrows rs) #[Value.slice A fs.length c, Value.slice B rs.length d] Z (.slice none 0 0) w1 from ⟨f0, sz0, [], [], M, (fun y => by rw [hf y]; simp), (by have := map_size M; simpa using this), HF.out, Owned.nil _ _ _ _, V1.out.below b2, below_step B1.out b2, Nat.le_refl _⟩)
  have hw1 : Hid (w.heap.size ≤ w1.heap.size) := Lib.hid (below_step B1.out b2).size
  clear M hf b2 hbb B1 V1 l0 l1 AO1 B0 HF
  generalize arrows rs = G at *
  go_wp2
  go_loopw [3] (fun v wr => outer w w1 b fs G #[Value.slice A fs.length c, Value.slice B rs.length d] Z v wr) (fun _ wr => mapSize wr b)
  case atStart => exact O0.out
  case round =>
   obtain ⟨wo, rfl⟩ : ∃ wo : World, wo = wr := ⟨_, rfl⟩
   obtain ⟨vo, rfl⟩ : ∃ vo : Value, vo = u3 := ⟨_, rfl⟩
   obtain ⟨f, sz, done, out, hM, hf, hol, hZ, hO, hV, hB, hs⟩ := hrel
   have HM := Lib.hid hM
   have HFF := Lib.hid hf
   have HZ := Lib.hid hZ
   have HO := Lib.hid hO
   have HVV := Lib.hid hV
   have HB := Lib.hid hB
   have hszn := map_size hM
   have p0 : wo.cell? ⟨w.heap.size, 0, none⟩ = some (.slice A fs.length c) := hV.cell 0 _ rfl
   have p1 : wo.cell? ⟨w.heap.size, 1, none⟩ = some (.slice B rs.length d) := hV.cell 1 _ rfl
   clear hf hZ hO hV hB O0
   by_cases hsz : 0 < sz
   ·obtain ⟨s0, hs0⟩ := HM.out.someone hsz
    obtain ⟨x, hxn, hok, hnx⟩ := nextC_some (G := G) ⟨s0, (HFF.out s0).1 hs0⟩
    have hxd := (okC_iff.1 hok).1
    have hfx : f x = true := (HFF.out x).2 ⟨hxn, hxd⟩
    have HFX := Lib.hid hfx
    have NX1 := Lib.hid (NX.out b f sz done wo HM.out HFF.out HB.out)
    rw [hnx] at NX1
    simp only [Option.getD_some] at NX1
    have HST := Lib.hid (compsL_step (n := (names fs).length) (leftN_le (names fs) done) hxn hxd hnx)
    have HXC := Lib.hid (compL_self (G := G) hxn)
    have HSC := Lib.hid (HSM.out _ (compL_sub (ns := names fs) (G := G) (a := x)))
    have HCO := Lib.hid (fun y (h : y ∈ compL (names fs) G x) => (mem_compL.1 h).2.1)
    generalize compL (names fs) G x = CP at *
    have hd0 : decide ((sz : Int) > 0) = true := decide_eq_true (by omega)
    clear hs0 hxn hok hnx hxd hfx
    go_wp2_with (at_len; refine at_len_ rfl _ rfl rfl hM ?_)
    refine (Calls.mono NX1.out) ?_
    rintro e w3 ⟨N, cn, rfl, oN, b3⟩
    have M3 := Lib.hid (HM.out.below b3)
    have B3 := Lib.hid b3
    have ON := Lib.hid oN
    have hcl : CP.length ≤ 9000000 := by have := HSC.out; omega
    have hs3 := b3.size
    clear b3 oN p0 p1 NX1 hM hd0
    go_wp2
    go_loopw [21] (fun i wq => ∃ (j : Nat) (f' : ByteArray → Bool) (sz' : Nat), j ≤ CP.length ∧ i = .int .i64 j ∧ MapO wq b f' sz' ∧ Hid (∀ y, f' y = true ↔ f y = true ∧ y ∉ CP.take j) ∧ sz' ≤ sz ∧ Hid (x ∈ CP.take j → sz' < sz) ∧ w3.grownBy wq (some b)) (fun i _ => CP.length - (intOf i).toNat)
    case atStart => exact ⟨0, f, sz, Nat.zero_le _, rfl, M3.out, Lib.hid (fun y => by simp), Nat.le_refl _, Lib.hid (fun h => by simp at h), ⟨rfl, rfl, rfl, Nat.le_refl _, fun _ _ _ => rfl⟩⟩
    case round =>
     obtain ⟨j, f', sz', hj, rfl, hM2, hf2, hsz2, hlt2, hg2⟩ := hrel
     have HF2 := Lib.hid hf2.out
     have HL2 := Lib.hid hlt2.out
     have HG2 := Lib.hid hg2
     have HM2 := Lib.hid hM2
     have ON2 := Lib.hid (GraphS.ownS_grown ON.out hg2 (fun g e => by injection e with e; omega))
     clear hf2 hlt2 hg2 hM2
     by_cases hltj : j < CP.length
     ·obtain ⟨qn, fpn, hn9⟩ := ON2.out.arg
      obtain ⟨bn, on, rfl, hbn, hcn⟩ := (strs_open hn9).1.at_ hltj
      have hys : CP[j].size ≤ maxLen := by
       have h1 := HSC.out
       have h2 := szs_mem (sz := szStr) (List.getElem_mem hltj)
       unfold szStr at h1 h2
       unfold maxLen
       omega
      have HTK := Lib.hid (take_snoc hltj)
      generalize CP[j] = y at *
      have hi0 : (0 : Int) ≤ (j : Int) := by omega
      have hi1 : (j : Int) < (CP.length : Int) := by omega
      have M9 := HM2.out
      clear hn9
      go_wp2_with (at_delete; refine at_del rfl _ _ rfl rfl M9 y rfl hys ?_; intro w4 n4 M4 hn4 hg4 hs4; go_frame)
      have HM4 := Lib.hid M4
      have HG4 := Lib.hid (HG2.out.andThen hg4 (fun k hk => by cases hk; exact Or.inr rfl))
      have HF4 := Lib.hid (show ∀ z, delF f' y z = true ↔ f z = true ∧ z ∉ CP.take (j + 1) from fun z => by
       rw [HTK.out, delF_iff, HF2.out z, List.mem_append, List.mem_singleton]
       constructor
       ·rintro ⟨h1, h2, h3⟩; exact ⟨h2, fun h => h.elim h3 h1⟩
       ·rintro ⟨h1, h2⟩; exact ⟨fun h => h2 (Or.inr h), h1, fun h => h2 (Or.inl h)⟩)
      have hn4le : n4 ≤ sz' := by split at hn4 <;> omega
      have HL4 := Lib.hid (show x ∈ CP.take (j + 1) → n4 < sz from fun h => by
       rw [HTK.out] at h
       rcases List.mem_append.1 h with h | h
       ·have := HL2.out h; omega
       ·have h := List.mem_singleton.1 h
        subst h
        by_cases hq : x ∈ CP.take j
        ·have := HL2.out hq; omega
        ·rw [if_pos ((HF2.out x).2 ⟨HFX.out, hq⟩)] at hn4; omega)
      have hn4s : n4 ≤ sz := by omega
      clear M4 hn4 hg4 hs4 M9 hn4le
      go_roundw
      case rel => exact ⟨j + 1, _, n4, by omega, by go_num, HM4.out, HF4, hn4s, HL4, HG4.out⟩
      case measure => simp [intOf]; omega
     ·obtain rfl : j = CP.length := by omega
      have HF3 := Lib.hid (show ∀ z, f' z = true ↔ z ∈ names fs ∧ z ∉ done ++ CP from fun z => by
       rw [HF2.out z, HFF.out z, List.take_length, List.mem_append]
       constructor
       ·rintro ⟨⟨h1, h2⟩, h3⟩; exact ⟨h1, fun h => h.elim h2 h3⟩
       ·rintro ⟨h1, h2⟩; exact ⟨⟨h1, fun h => h2 (Or.inl h)⟩, fun h => h2 (Or.inr h)⟩)
      have hszl : sz' < sz := HL2.out (by rw [List.take_length]; exact HXC.out)
      obtain ⟨es, hes, hrow, hel, hnd, hog, hdi⟩ := HO.out
      have hltE : ∀ g ∈ fps es, g < wo.heap.size := fun g hg => by
       obtain ⟨y, hy, hx⟩ := List.mem_flatMap.1 hg
       exact rowString.lt (hel y hy) g hx
      have GT := (((StrK.only_below B3.out none).but (some b)).andThen HG2.out (fun k hk => by cases hk; exact Or.inr rfl)).andThen (World.grownBy_alloc wr (Obj.cells #[Value.slice N CP.length cn] 31) (some b)) (fun k hk => by cases hk; exact Or.inr rfl)
      have hel4 : ∀ y ∈ es, rowString.rep true _ y.1 y.2.1 y.2.2 := fun y hy => rowString.same (hel y hy) GT.size (fun g hg => GT.block g (rowString.lt (hel y hy) g hg) (fun e => by injection e with e; have := (hdi g (mem_fps hy hg)).1; omega))
      have hrow4 := hrow.kept GT (by
       by_cases hv : vo.ownBlock = none
       ·exact Or.inl hv
       ·exact Or.inr (fun e => by have := hog b e; omega))
      obtain ⟨_, fpN, q1, q2, q3⟩ := GraphS.ownS_grown ON2.out (World.grownBy_alloc wr (Obj.cells #[Value.slice N CP.length cn] 31) none) (fun g e => by cases e)
      have GT2 := Lib.hid GT
      have HEL := Lib.hid hel4
      have HRW := Lib.hid hrow4
      have HLT := Lib.hid hltE
      have HOG := Lib.hid hog
      have HDI := Lib.hid hdi
      have HOL := Lib.hid (fun g e => (hrow.lt g e).2)
      have Q1 := Lib.hid q1
      have Q2 := Lib.hid q2
      have Q3 := Lib.hid q3
      have RN := Lib.hid (show Row 0 (wr.alloc (Obj.cells #[Value.slice N CP.length cn] 31)).heap.size (wr.alloc (Obj.cells #[Value.slice N CP.length cn] 31)) (some ⟨wr.heap.size, 0, none⟩) [.slice N CP.length cn] from row_new (heap_alloc_new wr (Obj.cells #[Value.slice N CP.length cn] 31)))
      have hsw := HG2.out.size
      clear GT hel4 hrow4 hltE hog hdi q1 q2 q3 hel hrow
      go_wp2_with (at_builtin; go_loud (refine wpList_append_rowW rfl _ _ _ rfl 31 i0 (.slice none 0 0) 1 24 0 Tryz.underlying29 hi hz0 hz1 hz2 rfl (by decide) _ out.length (cells es) rfl HRW.out _ 1 _ [.slice N CP.length cn] rfl rfl RN.out (by simp [Value.oneCell']) (by unfold maxLen; omega) (by omega) (Nat.zero_le _) ?_); intro v5 w5 hown5 hgrow hwh; go_frame)
      have RR := Lib.hid (Owned.snoc (r := rowString) (e := 31) (ok := fun g => w1.heap.size ≤ g) (m := wo.heap.size) hes HEL.out HLT.out hnd HDI.out (fun g e => ⟨HOG.out g e, HOL.out g e⟩) Q1.out Q2.out (fun g hg => (Q3.out g hg).1) (fun g hg => Nat.le_trans hs hg) hown5 hgrow hwh (by simp; omega))
      have M5 := Lib.hid (((HM2.out.grown (World.grownBy_alloc wr (Obj.cells #[Value.slice N CP.length cn] 31) none) (by simp))).grown hgrow (fun e => by have := HOG.out b e; omega))
      have hwb : w.heap.size ≤ b := by omega
      have V5 := Lib.hid (lvar_grown (lvar_grown HVV.out GT2.out (by intro e; injection e with e; omega)) hgrow (fun e => by have := HOG.out _ e; have := hw1.out; omega))
      have B5 := Lib.hid (show Below w.heap.size w w5 from (below_but HB.out GT2.out hwb).grown hgrow (Nat.le_trans HB.out.size GT2.out.size) (fun g e => by have := HOG.out g e; have := hw1.out; omega))
      have HZ5 := Lib.hid (show Z = (out ++ [CP]) ++ compsL (names fs) G (names fs).length (done ++ CP) by rw [HZ.out, HST.out, List.append_assoc]; rfl)
      have hs5 : w1.heap.size ≤ w5.heap.size := Nat.le_trans hs (Nat.le_trans GT2.out.size hgrow.size)
      have hol5 : (out ++ [CP]).length + sz' ≤ 1000000000 := by rw [List.length_append, List.length_singleton]; omega
      clear hown5 hgrow hwh
      go_roundw
      case rel => exact ⟨f', sz', done ++ CP, out ++ [CP], M5.out, HF3.out, hol5, HZ5.out, RR.out, V5.out, B5.out, hs5⟩
      case measure => rw [M5.out.size_eq, HM.out.size_eq]; exact hszl
   ·obtain rfl : sz = 0 := by omega
    have HFN := Lib.hid (show Z = out by
     rw [HZ.out, compsL_done (fun a ha => Classical.byContradiction fun h => by have := HM.out.zero a; rw [(HFF.out a).2 ⟨ha, h⟩] at this; cases this), List.append_nil])
    have FIN := Lib.hid (owned_gave HO.out hw1.out HB.out)
    go_wp2_with (at_len; refine at_len_ rfl _ rfl rfl hM ?_)
    go_ret
    rw [HFN.out]
    exact FIN.out
end GraphI
end Go.Proofs.YtbbllkhmenpnlaaGreat
