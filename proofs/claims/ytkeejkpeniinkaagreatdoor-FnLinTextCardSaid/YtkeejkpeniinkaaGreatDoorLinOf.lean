import Derived.Test.YtkeejkpeniinkaaGreatDoorTerms
import Derived.Test.YtkeejkpeniinkaaGreatDoorLinImpl
/-
  impl.linOfTerms: the expression with these terms.
-/
namespace Go.Proofs.YtkeejkpeniinkaaGreatDoor
open Go.RowKit
namespace CutI
open TextM TextI NameM RowK

theorem idx_lt (ss : List ByteArray) (s : ByteArray) : Lib.idxOfS ss s < ss.length := by
  have gen : ∀ (zs : List ByteArray) (i : Nat), Lib.idxFromS zs s i < (i : Int) + zs.length := by
    intro zs
    induction zs with
    | nil => intro i; simp only [Lib.idxFromS, List.length_nil]; omega
    | cons z zs ih =>
      intro i
      simp only [Lib.idxFromS]
      split
      · simp only [List.length_cons]; omega
      · have := ih (i + 1); simp only [List.length_cons]; omega
  have := gen ss 0
  simpa [Lib.idxOfS] using this
theorem fold_snoc {ss : List ByteArray} {ts : List TItem} {k : Nat} (h : k < ts.length) (l : Int × List Int) : (ts.take (k + 1)).foldl (TextM.step ss) l = TextM.step ss ((ts.take k).foldl (TextM.step ss) l) ts[k] := by
  rw [List.take_add_one, List.getElem?_eq_getElem h, List.foldl_append]
  rfl
theorem set01' {w : World} {b : Nat} {x y u v : Value} (h : Lvar w b #[x, y]) : Lvar ((w.setCell ⟨b, 0, none⟩ u).setCell ⟨b, 1, none⟩ v) b #[u, v] := by
  have := (h.set 0 u).set 1 v
  simpa using this
theorem lin_fin {w wr : World} {lo hi c : Nat} {G : Option Addr} {z : Int} {zs : List Int} (hb : Below w.heap.size w wr) (hO : IntK.Own lo hi wr G zs) (h1 : w.heap.size + 1 ≤ lo) (h2 : hi ≤ wr.heap.size) :
    LinI.Gave w z zs (.returned (.agg #[.int .i64 z, .slice G zs.length c])) ((wr.setCell ⟨w.heap.size, 0, none⟩ (.int .i64 z)).setCell ⟨w.heap.size, 1, none⟩ (.slice G zs.length c)) := by
  have mm : Mod w.heap.size (w.heap.size + 1) wr ((wr.setCell ⟨w.heap.size, 0, none⟩ (.int .i64 z)).setCell ⟨w.heap.size, 1, none⟩ (.slice G zs.length c)) := (Mod.set _ (p := ⟨w.heap.size, 0, none⟩) (Nat.le_refl _) (Nat.lt_succ_self _) _).trans (Mod.set _ (p := ⟨w.heap.size, 1, none⟩) (Nat.le_refl _) (Nat.lt_succ_self _) _)
  have hk := hO.keep mm (Or.inr h1)
  exact ⟨G, c, rfl, hk.1.wider (by omega) (by have := mm.size; omega) (Nat.le_refl _), hk.2, (hb.setCell (by simp) _).setCell (by simp) _⟩

set_option maxHeartbeats 2000000 in
set_option maxRecDepth 100000 in
theorem linOf (A B : Option Addr) (c d : Nat) (ts : List TItem) (ss : List ByteArray) (w : World) (hA : TRow w A ts) (hB : StrK.SRow w B ss) (hl : ts.length ≤ 1048577) (hs : ss.length ≤ 8) :
    Calls Tryz.prog 33 #[.slice A ts.length c, .slice B ss.length d] w (LinI.Gave w (R ss ts).1 (R ss ts).2) := by
  have s0 : Below w.heap.size w (w.alloc (Obj.cells #[Value.int IntKind.i64 0, Value.slice none 0 0] 26)) := (Below.refl _ _).alloc (Nat.le_refl _) _
  have L0 := Lib.hid (Lvar.new w #[Value.int IntKind.i64 0, Value.slice none 0 0] 26)
  have CO := Lib.hid (fun W => LinI.const 0 (ss.length : Int) W)
  have hcl : LinM.constL 0 (ss.length : Int) = (0, List.replicate ss.length 0) := by
    rw [LinM.constL, if_pos ⟨LinM.cntB_iff.2 ⟨by omega, by omega⟩, by decide⟩, Int.toNat_natCast]
  rw [hcl] at CO
  have HR : Hid (R ss ts = ts.foldl (TextM.step ss) (0, List.replicate ss.length 0)) := Lib.hid (by unfold R; rw [Nat.min_eq_left hs])
  obtain ⟨S, hS⟩ : ∃ S : Nat → Int × List Int, ∀ k, (ts.take k).foldl (TextM.step ss) (0, List.replicate ss.length 0) = S k := ⟨_, fun _ => rfl⟩
  have HS0 : Hid (S 0 = (0, List.replicate ss.length 0)) := Lib.hid (by rw [← hS]; rfl)
  have HSN := Lib.hid (fun k (h : k < ts.length) => show S (k + 1) = TextM.step ss (S k) ts[k] by rw [← hS, ← hS, fold_snoc h])
  have HSE : Hid (S ts.length = R ss ts) := Lib.hid (by rw [← hS, HR.out, List.take_length])
  have B0 := Lib.hid s0
  clear s0 hcl hS HR
  generalize R ss ts = RR at *
  go_enter Tryz.func33, Tryz.ntmps33
  go_wp2_with fail
  refine (Calls.mono (CO.out _)) ?_
  rintro e w2 ⟨G, cg, rfl, rG, fG, b2⟩
  have hz2 := b2.size
  simp only [World.size_alloc] at hz2 rG
  have t3 : Below w2.heap.size w2 (w2.alloc (Obj.cells #[Value.int IntKind.i64 0, Value.slice G (List.replicate ss.length (0 : Int)).length cg] 26)) := (Below.refl _ _).alloc (Nat.le_refl _) _
  have O3 := Lib.hid ((show IntK.Own (w.heap.size + 1) w2.heap.size w2 G (List.replicate ss.length 0) from ⟨rG, fG⟩).below t3)
  have L3 := Lib.hid ((L0.out.below b2).below t3)
  have V3 := Lib.hid (Lvar.new w2 #[Value.int IntKind.i64 0, Value.slice G (List.replicate ss.length (0 : Int)).length cg] 26)
  have B2 := Lib.hid (B0.out.trans (b2.mono B0.out.size))
  have B3 := Lib.hid (B2.out.trans (t3.mono B2.out.size))
  have hz3 : w2.heap.size < (w2.alloc (Obj.cells #[Value.int IntKind.i64 0, Value.slice G (List.replicate ss.length (0 : Int)).length cg] 26)).heap.size := by simp
  clear rG fG b2 t3 L0 B0 B2
  go_wp2
  rw [List.length_replicate] at *
  generalize w2.alloc (Obj.cells #[Value.int IntKind.i64 0, Value.slice G ss.length cg] 26) = w3 at *
  go_loopw [14] (fun i wr => ∃ (k : Nat) (z : Int) (zs : List Int), k ≤ ts.length ∧ i = .int .i64 k ∧ S k = (z, zs) ∧ zs.length = ss.length ∧ Lvar wr w2.heap.size #[.int .i64 z, .slice G ss.length cg] ∧ IntK.Own (w.heap.size + 1) w2.heap.size wr G zs ∧
      Lvar wr w.heap.size #[Value.int IntKind.i64 0, Value.slice none 0 0] ∧ Below w.heap.size w wr ∧ w2.heap.size < wr.heap.size) (fun i _ => ts.length - (intOf i).toNat)
  case atStart => exact ⟨0, 0, _, Nat.zero_le _, rfl, HS0.out, by simp, V3.out, O3.out, L3.out, B3.out, hz3⟩
  case round =>
    obtain ⟨k, z, zs, hk, rfl, hS, hzl, hV, hO, hL, hb, hsz⟩ := hrel
    have HS := Lib.hid hS
    have HZL := Lib.hid hzl
    have HV := Lib.hid hV
    have HO := Lib.hid hO
    have HL := Lib.hid hL
    have HB := Lib.hid hb
    clear hS hzl hV hO hL hb O3 V3 L3 B3
    have v0 := HV.out.cell 0 (.int .i64 z) rfl
    have v1 := HV.out.cell 1 (.slice G ss.length cg) rfl
    have vp0 := HV.out.frozen 0
    by_cases hlt : k < ts.length
    · obtain ⟨b, o, rfl, hbl, hc⟩ := (hA.below HB.out) (fun e => by rw [e] at hlt; simp at hlt)
      have hc1 := (hc k _ (List.getElem?_eq_getElem hlt)).1
      have hc2 := (hc k _ (List.getElem?_eq_getElem hlt)).2
      have HN := Lib.hid (HSN.out k hlt)
      have hk0 : (0 : Int) ≤ (k : Int) := by omega
      have hk1 : (k : Int) < (ts.length : Int) := by omega
      generalize ts[k] = t at *
      obtain ⟨x, nm⟩ := t
      have al := Lib.hid ((Below.refl wr.heap.size wr).alloc (Nat.le_refl _) (Obj.cells #[Value.int IntKind.i64 x, Value.string nm] 76))
      have V4 := Lib.hid (HV.out.below al.out)
      have O4 := Lib.hid (HO.out.below al.out)
      have L4 := Lib.hid (HL.out.below al.out)
      have B4 := Lib.hid (HB.out.trans (al.out.mono HB.out.size))
      clear hc
      by_cases hn : nm.size = 0
      · obtain rfl := name_none hn
        have HN2 := Lib.hid (show S (k + 1) = (x, zs) by rw [HN.out, HS.out, TextM.step, if_pos hn])
        have ms : Mod w2.heap.size (w2.heap.size + 1) wr (wr.setCell ⟨w2.heap.size, 0, none⟩ (.int .i64 x)) := Mod.set _ (p := ⟨w2.heap.size, 0, none⟩) (Nat.le_refl _) (Nat.lt_succ_self _) _
        have a5 : Below (wr.setCell ⟨w2.heap.size, 0, none⟩ (.int .i64 x)).heap.size (wr.setCell ⟨w2.heap.size, 0, none⟩ (.int .i64 x)) ((wr.setCell ⟨w2.heap.size, 0, none⟩ (.int .i64 x)).alloc (Obj.cells #[Value.int IntKind.i64 x, Value.string ByteArray.empty] 76)) := (Below.refl _ _).alloc (Nat.le_refl _) _
        have V5 := Lib.hid ((HV.out.set 0 (.int .i64 x)).below a5)
        have O5 := Lib.hid ((HO.out.keep ms (Or.inl (Nat.le_refl _))).below a5)
        have L5 := Lib.hid ((HL.out.keep ms (by omega)).below a5)
        have B5' := HB.out.setCell (p := ⟨w2.heap.size, 0, none⟩) (by show _ ≤ w2.heap.size; omega) (.int .i64 x)
        have B5 := Lib.hid (B5'.trans (a5.mono B5'.size))
        have hs5 : w2.heap.size < ((wr.setCell ⟨w2.heap.size, 0, none⟩ (.int .i64 x)).alloc (Obj.cells #[Value.int IntKind.i64 x, Value.string ByteArray.empty] 76)).heap.size := by simp; omega
        clear B5' a5
        clear ms hn
        go_wp2
        go_roundw
        case rel => exact ⟨k + 1, x, zs, by omega, by go_num, HN2.out, HZL.out, by simpa using V5.out, O5.out, L5.out, B5.out, hs5⟩
        case measure => simp [intOf]; omega
      · have hnf := name_facts hn
        have IX := Lib.hid (NameS.implIndex B d ss nm _ (hB.below B4.out) (by omega))
        have hil := idx_lt ss nm
        have HN2 := Lib.hid (show S (k + 1) = if 0 ≤ Lib.idxOfS ss nm ∧ Lib.idxOfS ss nm < zs.length then (z, zs.set (Lib.idxOfS ss nm).toNat x) else (z, zs) by rw [HN.out, HS.out, TextM.step, if_neg hn])
        generalize Lib.idxOfS ss nm = ix at *
        by_cases hix : 0 ≤ ix
        · obtain ⟨j, rfl⟩ := Int.eq_ofNat_of_zero_le hix
          have hj : j < ss.length := by omega
          have hjz : j < zs.length := by rw [HZL.out]; exact hj
          have HN3 := Lib.hid (show S (k + 1) = (z, zs.set j x) by rw [HN2.out, if_pos ⟨hix, by omega⟩, Int.toNat_natCast])
          obtain ⟨bg, og, eg, hbg, hcg⟩ := IntK.at_ HO.out.1 hjz
          subst eg
          have hfg := HO.out.2 (by omega) bg og rfl j hjz
          have ms : Mod (w.heap.size + 1) w2.heap.size wr (wr.setCell ⟨bg, og + j, none⟩ (.int .i64 x)) := Mod.set _ (p := ⟨bg, og + j, none⟩) hbg.1 hbg.2.1 _
          have a5 : Below (wr.setCell ⟨bg, og + j, none⟩ (.int .i64 x)).heap.size (wr.setCell ⟨bg, og + j, none⟩ (.int .i64 x)) ((wr.setCell ⟨bg, og + j, none⟩ (.int .i64 x)).alloc (Obj.cells #[Value.int IntKind.i64 x, Value.string nm] 76)) := (Below.refl _ _).alloc (Nat.le_refl _) _
          have V5 := Lib.hid ((HV.out.keep ms (Or.inr (Nat.le_refl _))).below a5)
          have L5 := Lib.hid ((HL.out.keep ms (Or.inl (Nat.lt_succ_self _))).below a5)
          have B5' := HB.out.setCell (p := ⟨bg, og + j, none⟩) (by show _ ≤ bg; omega) (.int .i64 x)
          have B5 := Lib.hid (B5'.trans (a5.mono B5'.size))
          have R5 := HO.out.1.store (k := j) (by rw [IntK.iv_len]; exact hjz) (.int .i64 x)
          have hset : (IntK.iv zs).set j (.int .i64 x) = IntK.iv (zs.set j x) := by simp [IntK.iv, List.map_set]
          rw [hset] at R5
          have O5 := Lib.hid ((show IntK.Own (w.heap.size + 1) w2.heap.size _ (some ⟨bg, og, none⟩) (zs.set j x) from ⟨R5, by rw [List.length_set]; exact HO.out.2.set _ _⟩).below a5)
          have hs5 : w2.heap.size < ((wr.setCell ⟨bg, og + j, none⟩ (.int .i64 x)).alloc (Obj.cells #[Value.int IntKind.i64 x, Value.string nm] 76)).heap.size := by simp; omega
          have HZ5 := Lib.hid (show (zs.set j x).length = ss.length by rw [List.length_set]; exact HZL.out)
          have hj0 : (0 : Int) ≤ (j : Int) := by omega
          have hj1 : (j : Int) < (ss.length : Int) := by omega
          have hbgl : bg < wr.heap.size := by omega
          have hne : bg ≠ wr.heap.size := by omega
          have HBG := Lib.hid hbg
          clear B5' a5
          clear ms hn R5 hset hix HN2 hbg
          go_wp2_with fail
          refine (Calls.mono IX.out) ?_
          rintro e w' ⟨rfl, rfl⟩
          go_wp2
          go_roundw
          case rel => exact ⟨k + 1, z, zs.set j x, by omega, by go_num, HN3.out, HZ5.out, V5.out, O5.out, L5.out, B5.out, hs5⟩
          case measure => simp [intOf]; omega
        · have HN3 := Lib.hid (show S (k + 1) = (z, zs) by rw [HN2.out, if_neg (fun h => hix h.1)])
          have hix' : decide (0 ≤ ix) = false := decide_eq_false hix
          have hs5 : w2.heap.size < (wr.alloc (Obj.cells #[Value.int IntKind.i64 x, Value.string nm] 76)).heap.size := by simp; omega
          clear hn HN2 hix
          go_wp2_with fail
          refine (Calls.mono IX.out) ?_
          rintro e w' ⟨rfl, rfl⟩
          go_wp2
          go_roundw
          case rel => exact ⟨k + 1, z, zs, by omega, by go_num, HN3.out, HZL.out, V4.out, O4.out, L4.out, B4.out, hs5⟩
          case measure => simp [intOf]; omega
    · obtain rfl : k = ts.length := by omega
      have HE := Lib.hid (show RR = (z, zs) by rw [← HSE.out]; exact HS.out)
      have l0 := HL.out.cell 0 (.int .i64 0) rfl
      have l1 := HL.out.cell 1 (.slice none 0 0) rfl
      have p0 := HL.out.frozen 0
      have p1 := HL.out.frozen 1
      have hge : decide ((ts.length : Int) < (ts.length : Int)) = false := decide_eq_false (by omega)
      have F := lin_fin (c := cg) (z := z) HB.out HO.out (Nat.le_refl _) (by omega)
      rw [HZL.out] at F
      have FF := Lib.hid F
      clear F
      go_wp2
      refine bodyPost_ret (v := .agg #[.int .i64 z, .slice G ss.length cg]) (by simp [results, Tryz.results33, go_sem, l0, l1]) rfl ?_
      rw [HE.out]
      exact FF.out
end CutI
end Go.Proofs.YtkeejkpeniinkaaGreatDoor
