import Derived.Test.YtkeejkpeniinkaaGreatDoorParseLin
import Derived.Test.YtkeejkpeniinkaaGreatDoorWordS
import Derived.Test.YtkeejkpeniinkaaGreatDoorSplitSpec
import Derived.Test.YtkeejkpeniinkaaGreatDoorTextFmtS
/-
  spec.ParseLin: the expression whose representation the text is.
-/
namespace Go.Proofs.YtkeejkpeniinkaaGreatDoor
open Go.RowKit
namespace ParseS
open TextM TextI NameM RowK CutI

theorem min8 (n : Nat) (w : World) : Calls Tryz.prog 35 #[.int .i64 (n : Int), .int .i64 8] w fun e w' => e = .returned (.int .i64 ((min n 8 : Nat) : Int)) ∧ w = w' := by
  by_cases h : n < 8
  · have e : (min n 8 : Nat) = n := by omega
    rw [e]
    have h1 : decide (n < 8) = true := decide_eq_true h
    have h2 : decide ((n : Int) < 8) = true := decide_eq_true (by omega)
    go_enter Tryz.func35, Tryz.ntmps35
    go_wp2
    go_ret
    exact ⟨rfl, rfl⟩
  · have e : (min n 8 : Nat) = 8 := by omega
    rw [e]
    have h1 : decide (n < 8) = false := decide_eq_false h
    have h2 : decide ((n : Int) < 8) = false := decide_eq_false (by omega)
    go_enter Tryz.func35, Tryz.ntmps35
    go_wp2
    go_ret
    exact ⟨rfl, rfl⟩
theorem inIdx (x : Int) (n : Nat) (w : World) : Calls Tryz.prog 39 #[.int .i64 x, .int .i64 0, .int .i64 ((n : Int) - 1)] w fun e w' => e = .returned (.bool (decide (0 ≤ x ∧ x < n))) ∧ w = w' :=
  (ArithS.inR x 0 ((n : Int) - 1) w).mono fun e w' ⟨h1, h2⟩ => ⟨by rw [h1]; congr 2; rw [Bool.eq_iff_iff]; simp only [Bool.and_eq_true, decide_eq_true_eq]; omega, h2⟩
theorem srow_mod {w w' : World} {A : Option Addr} {ss : List ByteArray} {lo hi : Nat} (h : StrK.SRow w A ss) (m : Mod lo hi w w') (hd : ∀ a, A = some a → hi ≤ a.block) : StrK.SRow w' A ss := fun hn => by
  obtain ⟨b, o, rfl, hlt, hc⟩ := h hn
  have hb : hi ≤ b := hd _ rfl
  exact ⟨b, o, rfl, Nat.lt_of_lt_of_le hlt m.size, fun j s hj => by rw [World.cell?_of_block (w := w) (m.block b hlt (Or.inr hb))]; exact hc j s hj⟩
theorem range_snoc (f : Nat → TItem) (g : Int × List Int → TItem → Int × List Int) (l : Int × List Int) (j : Nat) : ((List.range (j + 1)).map f).foldl g l = g (((List.range j).map f).foldl g l) (f j) := by
  rw [List.range_succ, List.map_append, List.foldl_append]; rfl
theorem end_eq {ss : List ByteArray} {PP : Option (Int × List Int)} {RR : Int × List Int} {l : List UInt8} (h : PP = if okB ss = true ∧ fmt ss RR.1 RR.2 = l then some RR else none) (hs : Small 999999 RR ∧ RR.2.length = min ss.length 8) (hl : l ≠ []) :
    PP = if F (okB ss) ss RR.1 RR.2 = l then some RR else none := by
  rw [h]
  cases hok : okB ss with
  | true =>
    have h8 := (okB_names hok).1
    have hlen : RR.2.length = ss.length := by rw [hs.2]; exact Nat.min_eq_left h8
    have hv : LinM.vldB RR.1 RR.2 ss.length = true := LinM.vldB_iff.2 ⟨by omega, by omega, ArithM.inC_iff.2 (by have := hs.1.1; omega), fun x hx => ArithM.inC_iff.2 (by have := hs.1.2 x hx; omega)⟩
    rw [F_true hv]
    simp
  | false =>
    have : F false ss RR.1 RR.2 = [] := by simp [F]
    rw [this, if_neg (fun e => by cases e.1), if_neg (fun e => hl e.symm)]
theorem spB_get {s : ByteArray} {k : Nat} {p : ByteArray} (h : (SplitM.spB 32 s)[k]? = some p) : (SplitM.sp 32 s.data.toList).getD k [] = p.data.toList := by
  rw [← SplitM.spB_data, List.getD, List.getElem?_map, h]; rfl

set_option maxHeartbeats 4000000 in
set_option maxRecDepth 100000 in
theorem parse (s : ByteArray) (B : Option Addr) (d : Nat) (ss : List ByteArray) (w : World) (hB : StrK.SRow w B ss) (hsz : s.size ≤ 1048576) (hl : ss.length ≤ 1000000000) (hcap : ss.length ≤ d) (hs : ∀ s ∈ ss, s.size ≤ 9223372036854775807) :
    Calls Tryz.prog 10 #[.string s, .slice B ss.length d] w (LinI.GaveO w (parseL (okB ss) ss s.data.toList)) := by
  have HPE := Lib.hid (parse_eq (ok := okB ss) (ss := ss) okB_names (scansS s.data.toList))
  have FO := Lib.hid (fun (lo hi : Nat) (z : Int) (A : Option Addr) (c : Nat) (zs : List Int) W (h1 : Row lo hi W A (IntK.iv zs)) (h2 : StrK.SRow W B ss) (h3 : zs.length ≤ 1000000000) => TextS.format lo hi z A B c d zs ss W h1 h2 h3 hl hcap hs)
  obtain ⟨n, hn⟩ : ∃ n, n = min ss.length 8 := ⟨_, rfl⟩
  have MN := Lib.hid (fun W => min8 ss.length W)
  rw [← hn] at MN
  have hn8 : n ≤ 8 := by omega
  have hnl : n ≤ ss.length := by omega
  have hmk := IntK.run_mk n (by omega)
  obtain ⟨ws, hws⟩ : ∃ ws, ws = SplitM.sp 32 s.data.toList := ⟨_, rfl⟩
  have hwl : (SplitM.spB 32 s).length = ws.length := by rw [hws, ← SplitM.spB_data, List.length_map]
  have hwn : ws.length ≤ 1048577 := by have := SplitM.sp_length_le 32 s.data.toList; rw [size_list] at this; rw [hws]; omega
  obtain ⟨S, hS⟩ : ∃ S : Nat → Int × List Int, ∀ j, ((List.range j).map (termS 999999 ws)).foldl (TextM.step ss) (0, List.replicate n 0) = S j := ⟨_, fun _ => rfl⟩
  have HS0 : Hid (S 0 = (0, List.replicate n 0)) := Lib.hid (by rw [← hS]; rfl)
  have HSN := Lib.hid (fun j => show S (j + 1) = TextM.step ss (S j) (termS 999999 ws j) by rw [← hS, ← hS, range_snoc])
  have HSE : Hid (R ss (scanS 999999 s.data.toList) = S (ws.length / 2 + ws.length % 2)) := Lib.hid (by rw [← hS, hws, hn]; rfl)
  have HSM := Lib.hid (R_small (ss := ss) (show (0 : Int) ≤ 999999 by omega) (scansS s.data.toList).1)
  have SP := Lib.hid (fun W => SplitS.spec s 32 hsz W)
  unfold SplitS.Post at SP
  have HGT := Lib.hid (fun k p (h : (SplitM.spB 32 s)[k]? = some p) => show ws.getD k [] = p.data.toList by rw [hws]; exact spB_get h)
  have HPZ := Lib.hid (fun p (h : p ∈ SplitM.spB 32 s) => Nat.le_trans (SplitM.spB_size 32 s p h) hsz)
  have HN := Lib.hid hn
  have HWL := Lib.hid hwl
  have HRR := Lib.hid (fun z zs (h : (R ss (scanS 999999 s.data.toList)) = (z, zs)) => show (R ss (scanS 999999 s.data.toList)).1 = z ∧ (R ss (scanS 999999 s.data.toList)).2 = zs by rw [h]; exact ⟨rfl, rfl⟩)
  clear hS hn hws hwl
  generalize parseL (okB ss) ss s.data.toList = PP at *
  generalize R ss (scanS 999999 s.data.toList) = RR at *
  generalize SplitM.spB 32 s = wb at *
  go_enter Tryz.func10, Tryz.ntmps10
  go_wp2_with fail
  refine (MN.out _).mono ?_
  rintro e w' ⟨rfl, rfl⟩
  go_wp2_with fail
  have t0 : Below w.heap.size w (w.alloc (Obj.cells #[Value.int IntKind.i64 0, Value.slice none 0 0] 26)) := (Below.refl _ _).alloc (Nat.le_refl _) _
  have hmade := LinI.made (w.alloc (Obj.cells #[Value.int IntKind.i64 0, Value.slice none 0 0] 26)) n (by omega)
  have La0 := Lvar.new w #[Value.int IntKind.i64 0, Value.slice none 0 0] 26
  have a1 : Below (w.alloc (Obj.cells #[Value.int IntKind.i64 0, Value.slice none 0 0] 26)).heap.size (w.alloc (Obj.cells #[Value.int IntKind.i64 0, Value.slice none 0 0] 26)) ((w.alloc (Obj.cells #[Value.int IntKind.i64 0, Value.slice none 0 0] 26)).alloc (Obj.cells (madeCells #[Value.int IntKind.i64 0] n) 3)) := (Below.refl _ _).alloc (Nat.le_refl _) _
  have Vo := Lvar.new ((w.alloc (Obj.cells #[Value.int IntKind.i64 0, Value.slice none 0 0] 26)).alloc (Obj.cells (madeCells #[Value.int IntKind.i64 0] n) 3)) #[Value.int IntKind.i64 0, Value.slice (some ⟨w.heap.size + 1, 0, none⟩) n n] 26
  have a2 : Below ((w.alloc (Obj.cells #[Value.int IntKind.i64 0, Value.slice none 0 0] 26)).alloc (Obj.cells (madeCells #[Value.int IntKind.i64 0] n) 3)).heap.size ((w.alloc (Obj.cells #[Value.int IntKind.i64 0, Value.slice none 0 0] 26)).alloc (Obj.cells (madeCells #[Value.int IntKind.i64 0] n) 3)) (((w.alloc (Obj.cells #[Value.int IntKind.i64 0, Value.slice none 0 0] 26)).alloc (Obj.cells (madeCells #[Value.int IntKind.i64 0] n) 3)).alloc (Obj.cells #[Value.int IntKind.i64 0, Value.slice (some ⟨w.heap.size + 1, 0, none⟩) n n] 26)) := (Below.refl _ _).alloc (Nat.le_refl _) _
  have hO0 : IntK.Own (w.heap.size + 1) (w.heap.size + 2) (((w.alloc (Obj.cells #[Value.int IntKind.i64 0, Value.slice none 0 0] 26)).alloc (Obj.cells (madeCells #[Value.int IntKind.i64 0] n) 3)).alloc (Obj.cells #[Value.int IntKind.i64 0, Value.slice (some ⟨w.heap.size + 1, 0, none⟩) n n] 26)) (some ⟨w.heap.size + 1, 0, none⟩) (List.replicate n 0) := by
    have h := IntK.Own.below (show IntK.Own _ _ _ _ (List.replicate n 0) from ⟨hmade.1, by rw [List.length_replicate]; exact hmade.2⟩) a2
    simpa using h
  have hV0 : Lvar (((w.alloc (Obj.cells #[Value.int IntKind.i64 0, Value.slice none 0 0] 26)).alloc (Obj.cells (madeCells #[Value.int IntKind.i64 0] n) 3)).alloc (Obj.cells #[Value.int IntKind.i64 0, Value.slice (some ⟨w.heap.size + 1, 0, none⟩) n n] 26)) (w.heap.size + 1 + 1) #[Value.int IntKind.i64 0, Value.slice (some ⟨w.heap.size + 1, 0, none⟩) n n] := by simpa using Vo
  have L0 := Lib.hid ((La0.below a1).below a2)
  have O0 := Lib.hid hO0
  have V0 := Lib.hid hV0
  have hz0 : w.heap.size + 3 ≤ (((w.alloc (Obj.cells #[Value.int IntKind.i64 0, Value.slice none 0 0] 26)).alloc (Obj.cells (madeCells #[Value.int IntKind.i64 0] n) 3)).alloc (Obj.cells #[Value.int IntKind.i64 0, Value.slice (some ⟨w.heap.size + 1, 0, none⟩) n n] 26)).heap.size := by simp
  have B0 := Lib.hid ((t0.trans (a1.mono t0.size)).trans (a2.mono (Nat.le_trans t0.size a1.size)))
  clear t0 hmade La0 a1 Vo a2 hO0 hV0
  generalize (((w.alloc (Obj.cells #[Value.int IntKind.i64 0, Value.slice none 0 0] 26)).alloc (Obj.cells (madeCells #[Value.int IntKind.i64 0] n) 3)).alloc (Obj.cells #[Value.int IntKind.i64 0, Value.slice (some ⟨w.heap.size + 1, 0, none⟩) n n] 26)) = w1 at *
  refine (Calls.mono (SP.out _)) ?_
  rintro e w2 ⟨Aw, cw, rfl, rW, fW, b2, gW, _⟩
  have GW := Lib.hid (fun a h => Nat.le_trans hz0 (gW a h))
  have hz2 : w.heap.size + 3 ≤ w2.heap.size := Nat.le_trans hz0 b2.size
  have L2 := Lib.hid (L0.out.below b2)
  have O2 := Lib.hid (O0.out.below b2)
  have V2 := Lib.hid (V0.out.below b2)
  have B2 := Lib.hid (B0.out.trans (b2.mono B0.out.size))
  have RW := Lib.hid rW
  have hwb : wb.length ≤ 1048577 := by rw [HWL.out]; exact hwn
  clear rW fW gW b2 L0 O0 V0 B0 SP
  go_wp2
  go_loopw [8] (fun i wr => ∃ (j m : Nat) (z : Int) (zs : List Int), m = 2 * j ∧ m ≤ wb.length + 1 ∧ i = .int .i64 m ∧ S j = (z, zs) ∧ zs.length = n ∧ Lvar wr (w.heap.size + 1 + 1) #[.int .i64 z, .slice (some ⟨w.heap.size + 1, 0, none⟩) n n] ∧ IntK.Own (w.heap.size + 1) (w.heap.size + 2) wr (some ⟨w.heap.size + 1, 0, none⟩) zs ∧
      Lvar wr w.heap.size #[Value.int IntKind.i64 0, Value.slice none 0 0] ∧ Below w.heap.size w wr ∧ Mod (w.heap.size + 1) (w.heap.size + 3) w2 wr) (fun i _ => wb.length + 2 - (intOf i).toNat)
  case atStart => exact ⟨0, 0, 0, _, rfl, by omega, rfl, HS0.out, by simp, V2.out, O2.out, L2.out, B2.out, Mod.refl _ _ _⟩
  case round =>
    obtain ⟨j, m, z, zs, hm, hmle, rfl, hS, hzl, hV, hO, hL, hb, hM⟩ := hrel
    have HM := Lib.hid hm
    have HS := Lib.hid hS
    have HZL := Lib.hid hzl
    have HV := Lib.hid hV
    have HO := Lib.hid hO
    have HL := Lib.hid hL
    have HB := Lib.hid hb
    have HMM := Lib.hid hM
    have RWr := Lib.hid (srow_mod RW.out hM GW.out)
    have hsz : w.heap.size + 3 ≤ wr.heap.size := Nat.le_trans hz2 hM.size
    clear hm hS hzl hV hO hL hb hM V2 O2 L2 B2
    by_cases hlt : m < wb.length
    · obtain ⟨bw, ow, rfl, hbw, hcw⟩ := RWr.out.at_ hlt
      have hg := List.getElem?_eq_getElem hlt
      have hpz := HPZ.out wb[m] (List.getElem_mem hlt)
      have hi0 : (0 : Int) ≤ (m : Int) := by omega
      have hi1 : (m : Int) < (wb.length : Int) := by omega
      generalize wb[m] = p at *
      have HG := Lib.hid (HGT.out m p hg)
      by_cases hm0 : m = 0
      · have hj0 : Hid (j = 0) := Lib.hid (by have := HM.out; omega)
        have hme : ((m : Int) == 0) = true := by rw [hm0]; rfl
        have hmp : decide (0 < (m : Int)) = false := decide_eq_false (by omega)
        have hmp' : decide (0 < m) = false := decide_eq_false (by omega)
        have HW0 := Lib.hid (show ws.getD 0 [] = p.data.toList by rw [← HG.out, hm0])
        have HTM0 := Lib.hid (show termS 999999 ws j = negI (decide (p.data.toList.head? = some 45)) (readS 999999 (NumM.body p.data.toList)) by rw [hj0.out, termS, if_pos rfl, HW0.out])
        clear hm0 hg HG
        by_cases hp0 : 0 < p.size
        · have hps : decide (0 < p.size) = true := decide_eq_true hp0
          have hps' : decide (0 < (p.size : Int)) = true := decide_eq_true (by omega)
          have hp1 : (1 : Int) ≤ (p.size : Int) := by omega
          have hh : p.data.toList.head? = some p[0] := by
            have := at_data p 0 hp0
            rwa [← List.head?_eq_getElem?] at this
          by_cases h45 : p[0] = 45
          · have hh2 := hh.trans (congrArg some h45)
            have h45' : ((p[0].toNat : Int) == 45) = true := by rw [h45]; rfl
            have hdat : (p.extract 1 p.size).data.toList = NumM.body p.data.toList := by
              rw [from_eq, NumM.body, if_pos hh2]
              cases p.data.toList with
              | nil => rfl
              | cons a l => rfl
            have HTM := Lib.hid (show termS 999999 ws j = negI true (readS 999999 (p.extract 1 p.size).data.toList) by rw [HTM0.out, hdat, hh2]; rfl)
            have hpz2 : (p.extract 1 p.size).size ≤ 1048576 := by
              have := congrArg List.length hdat
              rw [size_list] at this
              have h2 := body_len p.data.toList
              rw [size_list] at h2
              omega
            clear HTM0 hh hh2 hdat h45
            have WD := Lib.hid (WordS.word ((p.extract 1 p.size)) hpz2 wr)
            unfold WordS.Word at WD
            have HRS := readS_small (show (1 : Int) ≤ 999999 by omega) ((p.extract 1 p.size).data.toList)
            have HTT := Lib.hid (show S (j + 1) = TextM.step ss (z, zs) (-(readS 999999 ((p.extract 1 p.size).data.toList)).1, (readS 999999 ((p.extract 1 p.size).data.toList)).2) by rw [HSN.out, HS.out, HTM.out]; rfl)
            generalize readS 999999 ((p.extract 1 p.size).data.toList) = t at *
            obtain ⟨N, nm⟩ := t
            simp only at HRS HTT WD
            obtain ⟨hN0, hN1⟩ := HRS
            clear HTM
            go_wp2_with fail
            refine (Calls.mono WD.out) ?_
            rintro e w3 ⟨rfl, b3⟩
            have m3 := Mod.of_below (lo := w.heap.size + 1) (hi := w.heap.size + 3) b3
            have hz3 : w.heap.size + 3 ≤ w3.heap.size := Nat.le_trans hsz b3.size
            have V3 := Lib.hid (HV.out.below b3)
            have O3 := Lib.hid (HO.out.below b3)
            have L3 := Lib.hid (HL.out.below b3)
            have B3 := Lib.hid (HB.out.trans (b3.mono HB.out.size))
            have M3 := Lib.hid (HMM.out.trans m3)
            have IX := Lib.hid (NameS.specIndex B d ss nm w3 (hB.below B3.out) (by omega))
            have HIL := idx_lt ss nm
            have HST := Lib.hid (HTT.out)
            unfold TextM.step at HST
            simp only at HST
            clear b3 m3 HTT HV HO HL HB HMM
            generalize Lib.idxOfS ss nm = ix at *
            go_wp2_with fail
            refine (Calls.mono IX.out) ?_
            rintro e w' ⟨rfl, rfl⟩
            have v0 := V3.out.cell 0 (.int .i64 z) rfl
            have v1 := V3.out.cell 1 (.slice (some ⟨w.heap.size + 1, 0, none⟩) n n) rfl
            have vp0 := V3.out.frozen 0
            by_cases hnm : nm.size = 0
            · obtain rfl := name_none hnm
              have HN2 := Lib.hid (show S (j + 1) = (-N, zs) by rw [HST.out, if_pos hnm])
              have ms : Mod (w.heap.size + 1) (w.heap.size + 3) w3 (w3.setCell ⟨w.heap.size + 1 + 1, 0, none⟩ (.int .i64 (-N))) := Mod.set _ (p := ⟨w.heap.size + 1 + 1, 0, none⟩) (by simp) (by show w.heap.size + 1 + 1 < _; omega) _
              have ms2 : Mod (w.heap.size + 1 + 1) (w.heap.size + 3) w3 (w3.setCell ⟨w.heap.size + 1 + 1, 0, none⟩ (.int .i64 (-N))) := Mod.set _ (p := ⟨w.heap.size + 1 + 1, 0, none⟩) (by simp) (by show w.heap.size + 1 + 1 < _; omega) _
              have V4 := Lib.hid (V3.out.set 0 (.int .i64 (-N)))
              have O4 := Lib.hid (O3.out.keep ms2 (Or.inl (Nat.le_refl _)))
              have L4 := Lib.hid (L3.out.keep ms (Or.inl (Nat.lt_succ_self _)))
              have B4 := Lib.hid (B3.out.setCell (p := ⟨w.heap.size + 1 + 1, 0, none⟩) (by show _ ≤ w.heap.size + 1 + 1; omega) (.int .i64 (-N)))
              have M4 := Lib.hid (M3.out.trans ms)
              clear ms ms2 hnm HST
              go_wp2
              go_roundw
              case rel => exact ⟨j + 1, m + 2, -N, zs, by have := HM.out; omega, by omega, by go_num, HN2.out, HZL.out, by simpa using V4.out, O4.out, L4.out, B4.out, M4.out⟩
              case measure => simp [intOf]; omega
            · have hnf := name_facts hnm
              have IN := Lib.hid (inIdx ix n w3)
              by_cases hix : 0 ≤ ix ∧ ix < (n : Int)
              · have hixd : decide (0 ≤ ix ∧ ix < (n : Int)) = true := decide_eq_true hix
                rw [hixd] at IN
                obtain ⟨hix0, hix1⟩ := hix
                obtain ⟨g, rfl⟩ := Int.eq_ofNat_of_zero_le hix0
                have hg1 : g < zs.length := by rw [HZL.out]; omega
                have HN2 := Lib.hid (show S (j + 1) = (z, zs.set g (-N)) by rw [HST.out, if_neg hnm, if_pos ⟨hix0, by omega⟩, Int.toNat_natCast])
                obtain ⟨bg, og, eg, hbg, hcg⟩ := IntK.at_ O3.out.1 hg1
                injection eg with eg; injection eg with eg1 eg2; subst eg1; subst eg2
                have hfg := O3.out.2 (by omega) _ _ rfl g hg1
                have R4 := O3.out.1.store (k := g) (by rw [IntK.iv_len]; exact hg1) (.int .i64 (-N))
                simp only [Nat.zero_add] at hcg hfg R4
                have hset : (IntK.iv zs).set g (.int .i64 (-N)) = IntK.iv (zs.set g (-N)) := by simp [IntK.iv, List.map_set]
                rw [hset] at R4
                have ms : Mod (w.heap.size + 1) (w.heap.size + 1 + 1) w3 (w3.setCell ⟨w.heap.size + 1, g, none⟩ (.int .i64 (-N))) := Mod.set _ (p := ⟨w.heap.size + 1, g, none⟩) (Nat.le_refl _) (Nat.lt_succ_self _) _
                have V4 := Lib.hid (V3.out.keep ms (Or.inr (Nat.le_refl _)))
                have O4 := Lib.hid (show IntK.Own (w.heap.size + 1) (w.heap.size + 2) _ (some ⟨w.heap.size + 1, 0, none⟩) (zs.set g (-N)) from ⟨R4, by rw [List.length_set]; exact O3.out.2.set _ _⟩)
                have L4 := Lib.hid (L3.out.keep ms (Or.inl (Nat.lt_succ_self _)))
                have B4 := Lib.hid (B3.out.setCell (p := ⟨w.heap.size + 1, g, none⟩) (by show _ ≤ w.heap.size + 1; omega) (.int .i64 (-N)))
                have M4 := Lib.hid (M3.out.trans (ms.wider (Nat.le_refl _) (by omega)))
                have HZ4 := Lib.hid (show (zs.set g (-N)).length = n by rw [List.length_set]; exact HZL.out)
                clear ms hnm HST R4 hset hix0 hixd
                go_wp2_with fail
                refine (Calls.mono IN.out) ?_
                rintro e w' ⟨rfl, rfl⟩
                go_wp2
                go_roundw
                case rel => exact ⟨j + 1, m + 2, z, zs.set g (-N), by have := HM.out; omega, by omega, by go_num, HN2.out, HZ4.out, V4.out, O4.out, L4.out, B4.out, M4.out⟩
                case measure => simp [intOf]; omega
              · have hixd : decide (0 ≤ ix ∧ ix < (n : Int)) = false := decide_eq_false hix
                rw [hixd] at IN
                have HN2 := Lib.hid (show S (j + 1) = (z, zs) by rw [HST.out, if_neg hnm, if_neg (fun h => hix ⟨h.1, by have := HZL.out; omega⟩)])
                clear hnm HST hix hixd
                go_wp2_with fail
                refine (Calls.mono IN.out) ?_
                rintro e w' ⟨rfl, rfl⟩
                go_wp2
                go_roundw
                case rel => exact ⟨j + 1, m + 2, z, zs, by have := HM.out; omega, by omega, by go_num, HN2.out, HZL.out, V3.out, O3.out, L3.out, B3.out, M3.out⟩
                case measure => simp [intOf]; omega
          · have h45' : ((p[0].toNat : Int) == 45) = false := beq_eq_false_iff_ne.2 (fun e => h45 (UInt8.toNat_inj.1 (by show p[0].toNat = 45; omega)))
            have hhn : p.data.toList.head? ≠ some 45 := fun e => h45 (by rw [hh] at e; exact Option.some.inj e)
            have HTM := Lib.hid (show termS 999999 ws j = negI false (readS 999999 p.data.toList) by rw [HTM0.out, NumM.body, if_neg hhn, decide_eq_false hhn])
            clear HTM0 hh hhn h45
            have WD := Lib.hid (WordS.word (p) hpz wr)
            unfold WordS.Word at WD
            have HRS := readS_small (show (1 : Int) ≤ 999999 by omega) (p.data.toList)
            have HTT := Lib.hid (show S (j + 1) = TextM.step ss (z, zs) ((readS 999999 (p.data.toList)).1, (readS 999999 (p.data.toList)).2) by rw [HSN.out, HS.out, HTM.out]; rfl)
            generalize readS 999999 (p.data.toList) = t at *
            obtain ⟨N, nm⟩ := t
            simp only at HRS HTT WD
            obtain ⟨hN0, hN1⟩ := HRS
            clear HTM
            go_wp2_with fail
            refine (Calls.mono WD.out) ?_
            rintro e w3 ⟨rfl, b3⟩
            have m3 := Mod.of_below (lo := w.heap.size + 1) (hi := w.heap.size + 3) b3
            have hz3 : w.heap.size + 3 ≤ w3.heap.size := Nat.le_trans hsz b3.size
            have V3 := Lib.hid (HV.out.below b3)
            have O3 := Lib.hid (HO.out.below b3)
            have L3 := Lib.hid (HL.out.below b3)
            have B3 := Lib.hid (HB.out.trans (b3.mono HB.out.size))
            have M3 := Lib.hid (HMM.out.trans m3)
            have IX := Lib.hid (NameS.specIndex B d ss nm w3 (hB.below B3.out) (by omega))
            have HIL := idx_lt ss nm
            have HST := Lib.hid (HTT.out)
            unfold TextM.step at HST
            simp only at HST
            clear b3 m3 HTT HV HO HL HB HMM
            generalize Lib.idxOfS ss nm = ix at *
            go_wp2_with fail
            refine (Calls.mono IX.out) ?_
            rintro e w' ⟨rfl, rfl⟩
            have v0 := V3.out.cell 0 (.int .i64 z) rfl
            have v1 := V3.out.cell 1 (.slice (some ⟨w.heap.size + 1, 0, none⟩) n n) rfl
            have vp0 := V3.out.frozen 0
            by_cases hnm : nm.size = 0
            · obtain rfl := name_none hnm
              have HN2 := Lib.hid (show S (j + 1) = (N, zs) by rw [HST.out, if_pos hnm])
              have ms : Mod (w.heap.size + 1) (w.heap.size + 3) w3 (w3.setCell ⟨w.heap.size + 1 + 1, 0, none⟩ (.int .i64 (N))) := Mod.set _ (p := ⟨w.heap.size + 1 + 1, 0, none⟩) (by simp) (by show w.heap.size + 1 + 1 < _; omega) _
              have ms2 : Mod (w.heap.size + 1 + 1) (w.heap.size + 3) w3 (w3.setCell ⟨w.heap.size + 1 + 1, 0, none⟩ (.int .i64 (N))) := Mod.set _ (p := ⟨w.heap.size + 1 + 1, 0, none⟩) (by simp) (by show w.heap.size + 1 + 1 < _; omega) _
              have V4 := Lib.hid (V3.out.set 0 (.int .i64 (N)))
              have O4 := Lib.hid (O3.out.keep ms2 (Or.inl (Nat.le_refl _)))
              have L4 := Lib.hid (L3.out.keep ms (Or.inl (Nat.lt_succ_self _)))
              have B4 := Lib.hid (B3.out.setCell (p := ⟨w.heap.size + 1 + 1, 0, none⟩) (by show _ ≤ w.heap.size + 1 + 1; omega) (.int .i64 (N)))
              have M4 := Lib.hid (M3.out.trans ms)
              clear ms ms2 hnm HST
              go_wp2
              go_roundw
              case rel => exact ⟨j + 1, m + 2, N, zs, by have := HM.out; omega, by omega, by go_num, HN2.out, HZL.out, by simpa using V4.out, O4.out, L4.out, B4.out, M4.out⟩
              case measure => simp [intOf]; omega
            · have hnf := name_facts hnm
              have IN := Lib.hid (inIdx ix n w3)
              by_cases hix : 0 ≤ ix ∧ ix < (n : Int)
              · have hixd : decide (0 ≤ ix ∧ ix < (n : Int)) = true := decide_eq_true hix
                rw [hixd] at IN
                obtain ⟨hix0, hix1⟩ := hix
                obtain ⟨g, rfl⟩ := Int.eq_ofNat_of_zero_le hix0
                have hg1 : g < zs.length := by rw [HZL.out]; omega
                have HN2 := Lib.hid (show S (j + 1) = (z, zs.set g (N)) by rw [HST.out, if_neg hnm, if_pos ⟨hix0, by omega⟩, Int.toNat_natCast])
                obtain ⟨bg, og, eg, hbg, hcg⟩ := IntK.at_ O3.out.1 hg1
                injection eg with eg; injection eg with eg1 eg2; subst eg1; subst eg2
                have hfg := O3.out.2 (by omega) _ _ rfl g hg1
                have R4 := O3.out.1.store (k := g) (by rw [IntK.iv_len]; exact hg1) (.int .i64 (N))
                simp only [Nat.zero_add] at hcg hfg R4
                have hset : (IntK.iv zs).set g (.int .i64 (N)) = IntK.iv (zs.set g (N)) := by simp [IntK.iv, List.map_set]
                rw [hset] at R4
                have ms : Mod (w.heap.size + 1) (w.heap.size + 1 + 1) w3 (w3.setCell ⟨w.heap.size + 1, g, none⟩ (.int .i64 (N))) := Mod.set _ (p := ⟨w.heap.size + 1, g, none⟩) (Nat.le_refl _) (Nat.lt_succ_self _) _
                have V4 := Lib.hid (V3.out.keep ms (Or.inr (Nat.le_refl _)))
                have O4 := Lib.hid (show IntK.Own (w.heap.size + 1) (w.heap.size + 2) _ (some ⟨w.heap.size + 1, 0, none⟩) (zs.set g (N)) from ⟨R4, by rw [List.length_set]; exact O3.out.2.set _ _⟩)
                have L4 := Lib.hid (L3.out.keep ms (Or.inl (Nat.lt_succ_self _)))
                have B4 := Lib.hid (B3.out.setCell (p := ⟨w.heap.size + 1, g, none⟩) (by show _ ≤ w.heap.size + 1; omega) (.int .i64 (N)))
                have M4 := Lib.hid (M3.out.trans (ms.wider (Nat.le_refl _) (by omega)))
                have HZ4 := Lib.hid (show (zs.set g (N)).length = n by rw [List.length_set]; exact HZL.out)
                clear ms hnm HST R4 hset hix0 hixd
                go_wp2_with fail
                refine (Calls.mono IN.out) ?_
                rintro e w' ⟨rfl, rfl⟩
                go_wp2
                go_roundw
                case rel => exact ⟨j + 1, m + 2, z, zs.set g (N), by have := HM.out; omega, by omega, by go_num, HN2.out, HZ4.out, V4.out, O4.out, L4.out, B4.out, M4.out⟩
                case measure => simp [intOf]; omega
              · have hixd : decide (0 ≤ ix ∧ ix < (n : Int)) = false := decide_eq_false hix
                rw [hixd] at IN
                have HN2 := Lib.hid (show S (j + 1) = (z, zs) by rw [HST.out, if_neg hnm, if_neg (fun h => hix ⟨h.1, by have := HZL.out; omega⟩)])
                clear hnm HST hix hixd
                go_wp2_with fail
                refine (Calls.mono IN.out) ?_
                rintro e w' ⟨rfl, rfl⟩
                go_wp2
                go_roundw
                case rel => exact ⟨j + 1, m + 2, z, zs, by have := HM.out; omega, by omega, by go_num, HN2.out, HZL.out, V3.out, O3.out, L3.out, B3.out, M3.out⟩
                case measure => simp [intOf]; omega
        · have hps : decide (0 < p.size) = false := decide_eq_false hp0
          have hps' : decide (0 < (p.size : Int)) = false := decide_eq_false (by omega)
          have hhn : p.data.toList.head? ≠ some 45 := by rw [size_zero (by omega)]; simp
          have HTM := Lib.hid (show termS 999999 ws j = negI false (readS 999999 p.data.toList) by rw [HTM0.out, NumM.body, if_neg hhn, decide_eq_false hhn])
          clear HTM0 hhn hp0
          have WD := Lib.hid (WordS.word (p) hpz wr)
          unfold WordS.Word at WD
          have HRS := readS_small (show (1 : Int) ≤ 999999 by omega) (p.data.toList)
          have HTT := Lib.hid (show S (j + 1) = TextM.step ss (z, zs) ((readS 999999 (p.data.toList)).1, (readS 999999 (p.data.toList)).2) by rw [HSN.out, HS.out, HTM.out]; rfl)
          generalize readS 999999 (p.data.toList) = t at *
          obtain ⟨N, nm⟩ := t
          simp only at HRS HTT WD
          obtain ⟨hN0, hN1⟩ := HRS
          clear HTM
          go_wp2_with fail
          refine (Calls.mono WD.out) ?_
          rintro e w3 ⟨rfl, b3⟩
          have m3 := Mod.of_below (lo := w.heap.size + 1) (hi := w.heap.size + 3) b3
          have hz3 : w.heap.size + 3 ≤ w3.heap.size := Nat.le_trans hsz b3.size
          have V3 := Lib.hid (HV.out.below b3)
          have O3 := Lib.hid (HO.out.below b3)
          have L3 := Lib.hid (HL.out.below b3)
          have B3 := Lib.hid (HB.out.trans (b3.mono HB.out.size))
          have M3 := Lib.hid (HMM.out.trans m3)
          have IX := Lib.hid (NameS.specIndex B d ss nm w3 (hB.below B3.out) (by omega))
          have HIL := idx_lt ss nm
          have HST := Lib.hid (HTT.out)
          unfold TextM.step at HST
          simp only at HST
          clear b3 m3 HTT HV HO HL HB HMM
          generalize Lib.idxOfS ss nm = ix at *
          go_wp2_with fail
          refine (Calls.mono IX.out) ?_
          rintro e w' ⟨rfl, rfl⟩
          have v0 := V3.out.cell 0 (.int .i64 z) rfl
          have v1 := V3.out.cell 1 (.slice (some ⟨w.heap.size + 1, 0, none⟩) n n) rfl
          have vp0 := V3.out.frozen 0
          by_cases hnm : nm.size = 0
          · obtain rfl := name_none hnm
            have HN2 := Lib.hid (show S (j + 1) = (N, zs) by rw [HST.out, if_pos hnm])
            have ms : Mod (w.heap.size + 1) (w.heap.size + 3) w3 (w3.setCell ⟨w.heap.size + 1 + 1, 0, none⟩ (.int .i64 (N))) := Mod.set _ (p := ⟨w.heap.size + 1 + 1, 0, none⟩) (by simp) (by show w.heap.size + 1 + 1 < _; omega) _
            have ms2 : Mod (w.heap.size + 1 + 1) (w.heap.size + 3) w3 (w3.setCell ⟨w.heap.size + 1 + 1, 0, none⟩ (.int .i64 (N))) := Mod.set _ (p := ⟨w.heap.size + 1 + 1, 0, none⟩) (by simp) (by show w.heap.size + 1 + 1 < _; omega) _
            have V4 := Lib.hid (V3.out.set 0 (.int .i64 (N)))
            have O4 := Lib.hid (O3.out.keep ms2 (Or.inl (Nat.le_refl _)))
            have L4 := Lib.hid (L3.out.keep ms (Or.inl (Nat.lt_succ_self _)))
            have B4 := Lib.hid (B3.out.setCell (p := ⟨w.heap.size + 1 + 1, 0, none⟩) (by show _ ≤ w.heap.size + 1 + 1; omega) (.int .i64 (N)))
            have M4 := Lib.hid (M3.out.trans ms)
            clear ms ms2 hnm HST
            go_wp2
            go_roundw
            case rel => exact ⟨j + 1, m + 2, N, zs, by have := HM.out; omega, by omega, by go_num, HN2.out, HZL.out, by simpa using V4.out, O4.out, L4.out, B4.out, M4.out⟩
            case measure => simp [intOf]; omega
          · have hnf := name_facts hnm
            have IN := Lib.hid (inIdx ix n w3)
            by_cases hix : 0 ≤ ix ∧ ix < (n : Int)
            · have hixd : decide (0 ≤ ix ∧ ix < (n : Int)) = true := decide_eq_true hix
              rw [hixd] at IN
              obtain ⟨hix0, hix1⟩ := hix
              obtain ⟨g, rfl⟩ := Int.eq_ofNat_of_zero_le hix0
              have hg1 : g < zs.length := by rw [HZL.out]; omega
              have HN2 := Lib.hid (show S (j + 1) = (z, zs.set g (N)) by rw [HST.out, if_neg hnm, if_pos ⟨hix0, by omega⟩, Int.toNat_natCast])
              obtain ⟨bg, og, eg, hbg, hcg⟩ := IntK.at_ O3.out.1 hg1
              injection eg with eg; injection eg with eg1 eg2; subst eg1; subst eg2
              have hfg := O3.out.2 (by omega) _ _ rfl g hg1
              have R4 := O3.out.1.store (k := g) (by rw [IntK.iv_len]; exact hg1) (.int .i64 (N))
              simp only [Nat.zero_add] at hcg hfg R4
              have hset : (IntK.iv zs).set g (.int .i64 (N)) = IntK.iv (zs.set g (N)) := by simp [IntK.iv, List.map_set]
              rw [hset] at R4
              have ms : Mod (w.heap.size + 1) (w.heap.size + 1 + 1) w3 (w3.setCell ⟨w.heap.size + 1, g, none⟩ (.int .i64 (N))) := Mod.set _ (p := ⟨w.heap.size + 1, g, none⟩) (Nat.le_refl _) (Nat.lt_succ_self _) _
              have V4 := Lib.hid (V3.out.keep ms (Or.inr (Nat.le_refl _)))
              have O4 := Lib.hid (show IntK.Own (w.heap.size + 1) (w.heap.size + 2) _ (some ⟨w.heap.size + 1, 0, none⟩) (zs.set g (N)) from ⟨R4, by rw [List.length_set]; exact O3.out.2.set _ _⟩)
              have L4 := Lib.hid (L3.out.keep ms (Or.inl (Nat.lt_succ_self _)))
              have B4 := Lib.hid (B3.out.setCell (p := ⟨w.heap.size + 1, g, none⟩) (by show _ ≤ w.heap.size + 1; omega) (.int .i64 (N)))
              have M4 := Lib.hid (M3.out.trans (ms.wider (Nat.le_refl _) (by omega)))
              have HZ4 := Lib.hid (show (zs.set g (N)).length = n by rw [List.length_set]; exact HZL.out)
              clear ms hnm HST R4 hset hix0 hixd
              go_wp2_with fail
              refine (Calls.mono IN.out) ?_
              rintro e w' ⟨rfl, rfl⟩
              go_wp2
              go_roundw
              case rel => exact ⟨j + 1, m + 2, z, zs.set g (N), by have := HM.out; omega, by omega, by go_num, HN2.out, HZ4.out, V4.out, O4.out, L4.out, B4.out, M4.out⟩
              case measure => simp [intOf]; omega
            · have hixd : decide (0 ≤ ix ∧ ix < (n : Int)) = false := decide_eq_false hix
              rw [hixd] at IN
              have HN2 := Lib.hid (show S (j + 1) = (z, zs) by rw [HST.out, if_neg hnm, if_neg (fun h => hix ⟨h.1, by have := HZL.out; omega⟩)])
              clear hnm HST hix hixd
              go_wp2_with fail
              refine (Calls.mono IN.out) ?_
              rintro e w' ⟨rfl, rfl⟩
              go_wp2
              go_roundw
              case rel => exact ⟨j + 1, m + 2, z, zs, by have := HM.out; omega, by omega, by go_num, HN2.out, HZL.out, V3.out, O3.out, L3.out, B3.out, M3.out⟩
              case measure => simp [intOf]; omega
      · obtain ⟨m', rfl⟩ : ∃ m', m = m' + 1 := ⟨m - 1, by omega⟩
        have hlt' : m' < wb.length := by omega
        obtain ⟨bw', ow', ew, hbw', hcw'⟩ := RWr.out.at_ hlt'
        injection ew with ew; injection ew with ew1 ew2; subst ew1; subst ew2
        have hg' := List.getElem?_eq_getElem hlt'
        generalize wb[m'] = q at *
        have HG' := Lib.hid (HGT.out m' q hg')
        have hne0 : ((m' : Int) + 1 == 0) = false := beq_eq_false_iff_ne.2 (by omega)
        have hpos : decide (0 < (m' : Int) + 1) = true := decide_eq_true (by omega)
        have hpos0 : (0 : Int) < (m' : Int) + 1 := by omega
        have HTM0 := Lib.hid (show termS 999999 ws j = negI (decide (q.data.toList = [45])) (readS 999999 p.data.toList) by
          have := HM.out
          rw [termS, if_neg (by omega), show 2 * j - 1 = m' by omega, show 2 * j = m' + 1 by omega, HG.out, HG'.out])
        clear hm0 hg hg' HG HG'
        by_cases hq : q.data.toList = [45]
        · have hq' : (q.toList == [45]) = true := by rw [ByteArray.toList_eq, hq]; rfl
          have HTM := Lib.hid (show termS 999999 ws j = negI true (readS 999999 p.data.toList) by rw [HTM0.out, decide_eq_true hq])
          clear HTM0 hq
          have WD := Lib.hid (WordS.word (p) hpz wr)
          unfold WordS.Word at WD
          have HRS := readS_small (show (1 : Int) ≤ 999999 by omega) (p.data.toList)
          have HTT := Lib.hid (show S (j + 1) = TextM.step ss (z, zs) (-(readS 999999 (p.data.toList)).1, (readS 999999 (p.data.toList)).2) by rw [HSN.out, HS.out, HTM.out]; rfl)
          generalize readS 999999 (p.data.toList) = t at *
          obtain ⟨N, nm⟩ := t
          simp only at HRS HTT WD
          obtain ⟨hN0, hN1⟩ := HRS
          clear HTM
          go_wp2_with fail
          refine (Calls.mono WD.out) ?_
          rintro e w3 ⟨rfl, b3⟩
          have m3 := Mod.of_below (lo := w.heap.size + 1) (hi := w.heap.size + 3) b3
          have hz3 : w.heap.size + 3 ≤ w3.heap.size := Nat.le_trans hsz b3.size
          have V3 := Lib.hid (HV.out.below b3)
          have O3 := Lib.hid (HO.out.below b3)
          have L3 := Lib.hid (HL.out.below b3)
          have B3 := Lib.hid (HB.out.trans (b3.mono HB.out.size))
          have M3 := Lib.hid (HMM.out.trans m3)
          have IX := Lib.hid (NameS.specIndex B d ss nm w3 (hB.below B3.out) (by omega))
          have HIL := idx_lt ss nm
          have HST := Lib.hid (HTT.out)
          unfold TextM.step at HST
          simp only at HST
          clear b3 m3 HTT HV HO HL HB HMM
          generalize Lib.idxOfS ss nm = ix at *
          go_wp2_with fail
          refine (Calls.mono IX.out) ?_
          rintro e w' ⟨rfl, rfl⟩
          have v0 := V3.out.cell 0 (.int .i64 z) rfl
          have v1 := V3.out.cell 1 (.slice (some ⟨w.heap.size + 1, 0, none⟩) n n) rfl
          have vp0 := V3.out.frozen 0
          by_cases hnm : nm.size = 0
          · obtain rfl := name_none hnm
            have HN2 := Lib.hid (show S (j + 1) = (-N, zs) by rw [HST.out, if_pos hnm])
            have ms : Mod (w.heap.size + 1) (w.heap.size + 3) w3 (w3.setCell ⟨w.heap.size + 1 + 1, 0, none⟩ (.int .i64 (-N))) := Mod.set _ (p := ⟨w.heap.size + 1 + 1, 0, none⟩) (by simp) (by show w.heap.size + 1 + 1 < _; omega) _
            have ms2 : Mod (w.heap.size + 1 + 1) (w.heap.size + 3) w3 (w3.setCell ⟨w.heap.size + 1 + 1, 0, none⟩ (.int .i64 (-N))) := Mod.set _ (p := ⟨w.heap.size + 1 + 1, 0, none⟩) (by simp) (by show w.heap.size + 1 + 1 < _; omega) _
            have V4 := Lib.hid (V3.out.set 0 (.int .i64 (-N)))
            have O4 := Lib.hid (O3.out.keep ms2 (Or.inl (Nat.le_refl _)))
            have L4 := Lib.hid (L3.out.keep ms (Or.inl (Nat.lt_succ_self _)))
            have B4 := Lib.hid (B3.out.setCell (p := ⟨w.heap.size + 1 + 1, 0, none⟩) (by show _ ≤ w.heap.size + 1 + 1; omega) (.int .i64 (-N)))
            have M4 := Lib.hid (M3.out.trans ms)
            clear ms ms2 hnm HST
            go_wp2
            go_roundw
            case rel => exact ⟨j + 1, m' + 1 + 2, -N, zs, by have := HM.out; omega, by omega, by go_num, HN2.out, HZL.out, by simpa using V4.out, O4.out, L4.out, B4.out, M4.out⟩
            case measure => simp [intOf]; omega
          · have hnf := name_facts hnm
            have IN := Lib.hid (inIdx ix n w3)
            by_cases hix : 0 ≤ ix ∧ ix < (n : Int)
            · have hixd : decide (0 ≤ ix ∧ ix < (n : Int)) = true := decide_eq_true hix
              rw [hixd] at IN
              obtain ⟨hix0, hix1⟩ := hix
              obtain ⟨g, rfl⟩ := Int.eq_ofNat_of_zero_le hix0
              have hg1 : g < zs.length := by rw [HZL.out]; omega
              have HN2 := Lib.hid (show S (j + 1) = (z, zs.set g (-N)) by rw [HST.out, if_neg hnm, if_pos ⟨hix0, by omega⟩, Int.toNat_natCast])
              obtain ⟨bg, og, eg, hbg, hcg⟩ := IntK.at_ O3.out.1 hg1
              injection eg with eg; injection eg with eg1 eg2; subst eg1; subst eg2
              have hfg := O3.out.2 (by omega) _ _ rfl g hg1
              have R4 := O3.out.1.store (k := g) (by rw [IntK.iv_len]; exact hg1) (.int .i64 (-N))
              simp only [Nat.zero_add] at hcg hfg R4
              have hset : (IntK.iv zs).set g (.int .i64 (-N)) = IntK.iv (zs.set g (-N)) := by simp [IntK.iv, List.map_set]
              rw [hset] at R4
              have ms : Mod (w.heap.size + 1) (w.heap.size + 1 + 1) w3 (w3.setCell ⟨w.heap.size + 1, g, none⟩ (.int .i64 (-N))) := Mod.set _ (p := ⟨w.heap.size + 1, g, none⟩) (Nat.le_refl _) (Nat.lt_succ_self _) _
              have V4 := Lib.hid (V3.out.keep ms (Or.inr (Nat.le_refl _)))
              have O4 := Lib.hid (show IntK.Own (w.heap.size + 1) (w.heap.size + 2) _ (some ⟨w.heap.size + 1, 0, none⟩) (zs.set g (-N)) from ⟨R4, by rw [List.length_set]; exact O3.out.2.set _ _⟩)
              have L4 := Lib.hid (L3.out.keep ms (Or.inl (Nat.lt_succ_self _)))
              have B4 := Lib.hid (B3.out.setCell (p := ⟨w.heap.size + 1, g, none⟩) (by show _ ≤ w.heap.size + 1; omega) (.int .i64 (-N)))
              have M4 := Lib.hid (M3.out.trans (ms.wider (Nat.le_refl _) (by omega)))
              have HZ4 := Lib.hid (show (zs.set g (-N)).length = n by rw [List.length_set]; exact HZL.out)
              clear ms hnm HST R4 hset hix0 hixd
              go_wp2_with fail
              refine (Calls.mono IN.out) ?_
              rintro e w' ⟨rfl, rfl⟩
              go_wp2
              go_roundw
              case rel => exact ⟨j + 1, m' + 1 + 2, z, zs.set g (-N), by have := HM.out; omega, by omega, by go_num, HN2.out, HZ4.out, V4.out, O4.out, L4.out, B4.out, M4.out⟩
              case measure => simp [intOf]; omega
            · have hixd : decide (0 ≤ ix ∧ ix < (n : Int)) = false := decide_eq_false hix
              rw [hixd] at IN
              have HN2 := Lib.hid (show S (j + 1) = (z, zs) by rw [HST.out, if_neg hnm, if_neg (fun h => hix ⟨h.1, by have := HZL.out; omega⟩)])
              clear hnm HST hix hixd
              go_wp2_with fail
              refine (Calls.mono IN.out) ?_
              rintro e w' ⟨rfl, rfl⟩
              go_wp2
              go_roundw
              case rel => exact ⟨j + 1, m' + 1 + 2, z, zs, by have := HM.out; omega, by omega, by go_num, HN2.out, HZL.out, V3.out, O3.out, L3.out, B3.out, M3.out⟩
              case measure => simp [intOf]; omega
        · have hq' : (q.toList == [45]) = false := by rw [ByteArray.toList_eq]; exact beq_eq_false_iff_ne.2 hq
          have HTM := Lib.hid (show termS 999999 ws j = negI false (readS 999999 p.data.toList) by rw [HTM0.out, decide_eq_false hq])
          clear HTM0 hq
          have WD := Lib.hid (WordS.word (p) hpz wr)
          unfold WordS.Word at WD
          have HRS := readS_small (show (1 : Int) ≤ 999999 by omega) (p.data.toList)
          have HTT := Lib.hid (show S (j + 1) = TextM.step ss (z, zs) ((readS 999999 (p.data.toList)).1, (readS 999999 (p.data.toList)).2) by rw [HSN.out, HS.out, HTM.out]; rfl)
          generalize readS 999999 (p.data.toList) = t at *
          obtain ⟨N, nm⟩ := t
          simp only at HRS HTT WD
          obtain ⟨hN0, hN1⟩ := HRS
          clear HTM
          go_wp2_with fail
          refine (Calls.mono WD.out) ?_
          rintro e w3 ⟨rfl, b3⟩
          have m3 := Mod.of_below (lo := w.heap.size + 1) (hi := w.heap.size + 3) b3
          have hz3 : w.heap.size + 3 ≤ w3.heap.size := Nat.le_trans hsz b3.size
          have V3 := Lib.hid (HV.out.below b3)
          have O3 := Lib.hid (HO.out.below b3)
          have L3 := Lib.hid (HL.out.below b3)
          have B3 := Lib.hid (HB.out.trans (b3.mono HB.out.size))
          have M3 := Lib.hid (HMM.out.trans m3)
          have IX := Lib.hid (NameS.specIndex B d ss nm w3 (hB.below B3.out) (by omega))
          have HIL := idx_lt ss nm
          have HST := Lib.hid (HTT.out)
          unfold TextM.step at HST
          simp only at HST
          clear b3 m3 HTT HV HO HL HB HMM
          generalize Lib.idxOfS ss nm = ix at *
          go_wp2_with fail
          refine (Calls.mono IX.out) ?_
          rintro e w' ⟨rfl, rfl⟩
          have v0 := V3.out.cell 0 (.int .i64 z) rfl
          have v1 := V3.out.cell 1 (.slice (some ⟨w.heap.size + 1, 0, none⟩) n n) rfl
          have vp0 := V3.out.frozen 0
          by_cases hnm : nm.size = 0
          · obtain rfl := name_none hnm
            have HN2 := Lib.hid (show S (j + 1) = (N, zs) by rw [HST.out, if_pos hnm])
            have ms : Mod (w.heap.size + 1) (w.heap.size + 3) w3 (w3.setCell ⟨w.heap.size + 1 + 1, 0, none⟩ (.int .i64 (N))) := Mod.set _ (p := ⟨w.heap.size + 1 + 1, 0, none⟩) (by simp) (by show w.heap.size + 1 + 1 < _; omega) _
            have ms2 : Mod (w.heap.size + 1 + 1) (w.heap.size + 3) w3 (w3.setCell ⟨w.heap.size + 1 + 1, 0, none⟩ (.int .i64 (N))) := Mod.set _ (p := ⟨w.heap.size + 1 + 1, 0, none⟩) (by simp) (by show w.heap.size + 1 + 1 < _; omega) _
            have V4 := Lib.hid (V3.out.set 0 (.int .i64 (N)))
            have O4 := Lib.hid (O3.out.keep ms2 (Or.inl (Nat.le_refl _)))
            have L4 := Lib.hid (L3.out.keep ms (Or.inl (Nat.lt_succ_self _)))
            have B4 := Lib.hid (B3.out.setCell (p := ⟨w.heap.size + 1 + 1, 0, none⟩) (by show _ ≤ w.heap.size + 1 + 1; omega) (.int .i64 (N)))
            have M4 := Lib.hid (M3.out.trans ms)
            clear ms ms2 hnm HST
            go_wp2
            go_roundw
            case rel => exact ⟨j + 1, m' + 1 + 2, N, zs, by have := HM.out; omega, by omega, by go_num, HN2.out, HZL.out, by simpa using V4.out, O4.out, L4.out, B4.out, M4.out⟩
            case measure => simp [intOf]; omega
          · have hnf := name_facts hnm
            have IN := Lib.hid (inIdx ix n w3)
            by_cases hix : 0 ≤ ix ∧ ix < (n : Int)
            · have hixd : decide (0 ≤ ix ∧ ix < (n : Int)) = true := decide_eq_true hix
              rw [hixd] at IN
              obtain ⟨hix0, hix1⟩ := hix
              obtain ⟨g, rfl⟩ := Int.eq_ofNat_of_zero_le hix0
              have hg1 : g < zs.length := by rw [HZL.out]; omega
              have HN2 := Lib.hid (show S (j + 1) = (z, zs.set g (N)) by rw [HST.out, if_neg hnm, if_pos ⟨hix0, by omega⟩, Int.toNat_natCast])
              obtain ⟨bg, og, eg, hbg, hcg⟩ := IntK.at_ O3.out.1 hg1
              injection eg with eg; injection eg with eg1 eg2; subst eg1; subst eg2
              have hfg := O3.out.2 (by omega) _ _ rfl g hg1
              have R4 := O3.out.1.store (k := g) (by rw [IntK.iv_len]; exact hg1) (.int .i64 (N))
              simp only [Nat.zero_add] at hcg hfg R4
              have hset : (IntK.iv zs).set g (.int .i64 (N)) = IntK.iv (zs.set g (N)) := by simp [IntK.iv, List.map_set]
              rw [hset] at R4
              have ms : Mod (w.heap.size + 1) (w.heap.size + 1 + 1) w3 (w3.setCell ⟨w.heap.size + 1, g, none⟩ (.int .i64 (N))) := Mod.set _ (p := ⟨w.heap.size + 1, g, none⟩) (Nat.le_refl _) (Nat.lt_succ_self _) _
              have V4 := Lib.hid (V3.out.keep ms (Or.inr (Nat.le_refl _)))
              have O4 := Lib.hid (show IntK.Own (w.heap.size + 1) (w.heap.size + 2) _ (some ⟨w.heap.size + 1, 0, none⟩) (zs.set g (N)) from ⟨R4, by rw [List.length_set]; exact O3.out.2.set _ _⟩)
              have L4 := Lib.hid (L3.out.keep ms (Or.inl (Nat.lt_succ_self _)))
              have B4 := Lib.hid (B3.out.setCell (p := ⟨w.heap.size + 1, g, none⟩) (by show _ ≤ w.heap.size + 1; omega) (.int .i64 (N)))
              have M4 := Lib.hid (M3.out.trans (ms.wider (Nat.le_refl _) (by omega)))
              have HZ4 := Lib.hid (show (zs.set g (N)).length = n by rw [List.length_set]; exact HZL.out)
              clear ms hnm HST R4 hset hix0 hixd
              go_wp2_with fail
              refine (Calls.mono IN.out) ?_
              rintro e w' ⟨rfl, rfl⟩
              go_wp2
              go_roundw
              case rel => exact ⟨j + 1, m' + 1 + 2, z, zs.set g (N), by have := HM.out; omega, by omega, by go_num, HN2.out, HZ4.out, V4.out, O4.out, L4.out, B4.out, M4.out⟩
              case measure => simp [intOf]; omega
            · have hixd : decide (0 ≤ ix ∧ ix < (n : Int)) = false := decide_eq_false hix
              rw [hixd] at IN
              have HN2 := Lib.hid (show S (j + 1) = (z, zs) by rw [HST.out, if_neg hnm, if_neg (fun h => hix ⟨h.1, by have := HZL.out; omega⟩)])
              clear hnm HST hix hixd
              go_wp2_with fail
              refine (Calls.mono IN.out) ?_
              rintro e w' ⟨rfl, rfl⟩
              go_wp2
              go_roundw
              case rel => exact ⟨j + 1, m' + 1 + 2, z, zs, by have := HM.out; omega, by omega, by go_num, HN2.out, HZL.out, V3.out, O3.out, L3.out, B3.out, M3.out⟩
              case measure => simp [intOf]; omega
    · have hjj : j = ws.length / 2 + ws.length % 2 := by have := HM.out; have := HWL.out; omega
      have hge : decide ((m : Int) < (wb.length : Int)) = false := decide_eq_false (by omega)
      have hge' : decide (m < wb.length) = false := decide_eq_false hlt
      obtain rfl : RR = (z, zs) := by rw [HSE.out, ← hjj]; exact HS.out
      have l0 := HL.out.cell 0 (.int .i64 0) rfl
      have l1 := HL.out.cell 1 (.slice none 0 0) rfl
      have p0 := HL.out.frozen 0
      have p1 := HL.out.frozen 1
      have v0 := HV.out.cell 0 (.int .i64 z) rfl
      have v1 := HV.out.cell 1 (.slice (some ⟨w.heap.size + 1, 0, none⟩) n n) rfl
      clear hjj hlt
      by_cases hse : s.data.toList = []
      · have HPN := Lib.hid (show PP = none by rw [HPE.out, hse, if_neg (fun h => fmt_ne _ _ _ h.2)])
        obtain rfl : s = ByteArray.empty := NameM.toList_inj (by rw [hse]; rfl)
        have HBB := Lib.hid ((HB.out.setCell (p := ⟨w.heap.size, 0, none⟩) (Nat.le_refl _) (.int .i64 0)).setCell (p := ⟨w.heap.size, 1, none⟩) (Nat.le_refl _) (.slice none 0 0))
        clear hse
        go_wp2
        refine bodyPost_ret (v := .tuple #[.agg #[.int .i64 0, .slice none 0 0], .bool false]) (by simp [results, Tryz.results10, go_sem, l0, l1]) rfl ?_
        rw [HPN.out]
        exact LinI.gaveO_none HBB.out
      · have HEE := Lib.hid (end_eq HPE.out HSM.out hse)
        have hsn : s.toList.isEmpty = false := by rw [ByteArray.toList_eq]; cases h : s.data.toList with
          | nil => exact absurd h hse
          | cons a l => rfl
        have FO2 := FO.out (w.heap.size + 1) (w.heap.size + 2) z (some ⟨w.heap.size + 1, 0, none⟩) n zs wr HO.out.1 (hB.below HB.out) (by rw [HZL.out]; omega)
        rw [HZL.out] at FO2
        have FO3 := Lib.hid FO2
        have hdt := Lib.hid (show s.toList = s.data.toList by rw [ByteArray.toList_eq])
        simp only at HEE
        clear FO2 hse
        generalize F (okB ss) ss z zs = FF at *
        go_wp2_with fail
        refine (Calls.mono FO3.out) ?_
        rintro e w3 ⟨rfl, b3⟩
        have L3 := Lib.hid (HL.out.below b3)
        have V3 := Lib.hid (HV.out.below b3)
        have O3 := Lib.hid (HO.out.below b3)
        have B3 := Lib.hid (HB.out.trans (b3.mono HB.out.size))
        have hz3 : w.heap.size + 3 ≤ w3.heap.size := Nat.le_trans hsz b3.size
        clear l0 l1 p0 p1 v0 v1 b3
        have l0 := L3.out.cell 0 (.int .i64 0) rfl
        have l1 := L3.out.cell 1 (.slice none 0 0) rfl
        have p0 := L3.out.frozen 0
        have p1 := L3.out.frozen 1
        have v0 := V3.out.cell 0 (.int .i64 z) rfl
        have v1 := V3.out.cell 1 (.slice (some ⟨w.heap.size + 1, 0, none⟩) n n) rfl
        by_cases he : FF = s.data.toList
        · have HPS := Lib.hid (show PP = some (z, zs) by rw [HEE.out, if_pos he])
          have heq : (FF == s.toList) = true := by rw [hdt.out, he]; simp
          have hg := gave_some (p := (z, zs)) (c := n) B3.out O3.out (by omega) (by omega)
          simp only [HZL.out] at hg
          have HGS := Lib.hid hg
          clear he hdt hg
          go_wp2
          refine bodyPost_ret (v := .tuple #[.agg #[.int .i64 z, .slice (some ⟨w.heap.size + 1, 0, none⟩) n n], .bool true]) (by simp [results, Tryz.results10, go_sem, l0, l1]) rfl ?_
          rw [HPS.out]
          exact HGS.out
        · have HPS := Lib.hid (show PP = none by rw [HEE.out, if_neg he])
          have heq : (FF == s.toList) = false := by rw [hdt.out]; exact beq_eq_false_iff_ne.2 he
          have HBB := Lib.hid ((B3.out.setCell (p := ⟨w.heap.size, 0, none⟩) (Nat.le_refl _) (.int .i64 0)).setCell (p := ⟨w.heap.size, 1, none⟩) (Nat.le_refl _) (.slice none 0 0))
          clear he hdt
          go_wp2
          refine bodyPost_ret (v := .tuple #[.agg #[.int .i64 0, .slice none 0 0], .bool false]) (by simp [results, Tryz.results10, go_sem, l0, l1]) rfl ?_
          rw [HPS.out]
          exact LinI.gaveO_none HBB.out
end ParseS
end Go.Proofs.YtkeejkpeniinkaaGreatDoor
