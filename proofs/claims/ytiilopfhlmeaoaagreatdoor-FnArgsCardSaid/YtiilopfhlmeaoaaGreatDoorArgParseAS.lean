import Derived.Test.YtiilopfhlmeaoaaGreatDoorArgParseA
import Derived.Test.YtiilopfhlmeaoaaGreatDoorArgParseS
import Derived.Test.YtiilopfhlmeaoaaGreatDoorArgFmtA
/-
  spec.ParseArg: the argument whose representation the text is, as the model reads it.
-/
namespace Go.Proofs.YtiilopfhlmeaoaaGreatDoor
open Go.RowKit
namespace ArgM
theorem cuts_len : ∀ (f : Bool) (P : List (List UInt8)), (cuts f P).1.length = P.length - 1
  | _, [] => rfl
  | _, [_] => rfl
  | f, w :: v :: r => by
    rw [cuts]
    show (cuts false (v :: r)).1.length + 1 = _
    rw [cuts_len false (v :: r)]
    simp
theorem cuts_last : ∀ (f : Bool) (P : List (List UInt8)), P ≠ [] → (cuts f P).2 = if f = true ∧ P.length = 1 then P.getLast?.getD [] else (P.getLast?.getD []).tail
  | _, [], h => absurd rfl h
  | f, [l], _ => by cases f <;> simp [cuts]
  | f, w :: v :: r, _ => by
    rw [cuts]
    show (cuts false (v :: r)).2 = _
    rw [cuts_last false (v :: r) (by simp)]
    simp
theorem cuts_get : ∀ (f : Bool) (P : List (List UInt8)) (k : Nat), k + 1 < P.length → (cuts f P).1[k]? = some (if f = true ∧ k = 0 then P.getD k [] else (P.getD k []).tail).dropLast
  | _, [], k, h => by simp at h
  | _, [_], k, h => by simp at h
  | f, w :: v :: r, 0, h => by cases f <;> simp [cuts]
  | f, w :: v :: r, k + 1, h => by
    rw [cuts]
    show (cuts false (v :: r)).1[k]? = _
    rw [cuts_get false (v :: r) k (by simpa using h)]
    simp
theorem spB_getD {s : ByteArray} {k : Nat} {p : ByteArray} (h : (SplitM.spB 58 s)[k]? = some p) : (SplitM.sp 58 s.data.toList).getD k [] = p.data.toList := by
  rw [← SplitM.spB_data, List.getD, List.getElem?_map, h]; rfl
theorem sp_count (s : ByteArray) : (SplitM.sp 58 s.data.toList).length = (SplitM.spB 58 s).length := by rw [← SplitM.spB_data, List.length_map]
theorem cuts_word {s : ByteArray} {k : Nat} {p : ByteArray} (h : (SplitM.spB 58 s)[k]? = some p) (hk : k + 1 < (SplitM.spB 58 s).length) : (cuts true (SplitM.sp 58 s.data.toList)).1[k]? = some (if k = 0 then p.data.toList else p.data.toList.tail).dropLast := by
  rw [cuts_get true _ k (by rw [sp_count]; exact hk), spB_getD h]
  simp
theorem cuts_end {s : ByteArray} {n : Nat} {p : ByteArray} (h : (SplitM.spB 58 s)[n]? = some p) (hn : (SplitM.spB 58 s).length = n + 1) : (cuts true (SplitM.sp 58 s.data.toList)).2 = if n = 0 then p.data.toList else p.data.toList.tail := by
  have e : (SplitM.sp 58 s.data.toList).getLast?.getD [] = p.data.toList := by
    rw [List.getLast?_eq_getElem?, sp_count, hn]
    exact spB_getD h
  rw [cuts_last true _ (SplitM.sp_ne _ _), e, sp_count, hn]
  by_cases h0 : n = 0 <;> simp [h0]
theorem cuts_count (s : ByteArray) : (cuts true (SplitM.sp 58 s.data.toList)).1.length = (SplitM.spB 58 s).length - 1 := by rw [cuts_len, sp_count]
theorem specA_list {t : List UInt8} {b : ByteArray} {X : List (List UInt8)} (h : formP [(cuts true (SplitM.sp 58 t)).2] = (true, b, X)) : specA t = if FA (true, (cuts true (SplitM.sp 58 t)).1.map zS, b) = t then some (true, (cuts true (SplitM.sp 58 t)).1.map zS, b) else none := by
  unfold specA
  rw [h]
theorem specA_int {t : List UInt8} {b : ByteArray} {X : List (List UInt8)} (h : formP [(cuts true (SplitM.sp 58 t)).2] = (false, b, X)) : specA t = (parseS t).map fun s => (false, [s], ByteArray.empty) := by
  unfold specA
  rw [h]
theorem formP_nil1 {l : List UInt8} (h : l = nilT) : formP [l] = (true, ByteArray.empty, []) := by
  unfold formP
  rw [if_pos (by simpa using h)]
  rfl
theorem formP_list1 {q : ByteArray} (h : q.data.toList ≠ nilT) (hl : NameM.listName q = true) : formP [q.data.toList] = (true, q, []) := by
  unfold formP
  rw [if_neg (by simpa using h), if_pos (by simpa using hl)]
  simp
theorem formP_int1 {q : ByteArray} (h : q.data.toList ≠ nilT) (hl : NameM.listName q = false) : formP [q.data.toList] = (false, ByteArray.empty, [q.data.toList]) := by
  unfold formP
  rw [if_neg (by simpa using h), if_neg (by simpa using hl)]
theorem zS_list (w : List UInt8) : (zS w).2.length ≤ 4 ∧ ∀ t ∈ (zS w).2, t.2.size ≤ 8 := by
  unfold zS
  cases h : parseS w with
  | none => exact ⟨by decide, fun t ht => by cases ht⟩
  | some s =>
    have hv := sumV_iff.1 (parseS_iff.1 h).1
    exact ⟨hv.2.1, fun t ht => (valid_shape (intName_valid (termV_iff.1 (hv.2.2.1 t ht)).2.2)).2⟩
theorem zS_szs : ∀ ws : List (List UInt8), Mem.szs Mem.ssl (ws.map zS) ≤ 4 * ws.length
  | [] => Nat.le_refl _
  | w :: ws => by
    have h1 := zS_szs ws
    have h2 := (zS_list w).1
    rw [List.map_cons, Mem.szs_cons, List.length_cons]
    unfold Mem.ssl at h1 ⊢
    omega
theorem tail_data (p : ByteArray) (_h : 0 < p.size) : (p.extract 1 p.size).data.toList = p.data.toList.tail := by
  rw [CutI.from_eq]
  cases p.data.toList with
  | nil => rfl
  | cons a l => rfl
end ArgM
namespace ArgP
open RowK Mem ArgM TextM TextI CutI ArgI NameM
theorem srow_modL {w w' : World} {A : Option Addr} {ss : List ByteArray} {lo hi : Nat} (h : StrK.SRow w A ss) (m : Mod lo hi w w') (hd : ∀ a, A = some a → a.block < lo) : StrK.SRow w' A ss := fun hn => by
  obtain ⟨b, o, rfl, hlt, hc⟩ := h hn
  exact ⟨b, o, rfl, Nat.lt_of_lt_of_le hlt m.size, fun j s hj => by rw [World.cell?_of_block (w := w) (m.block b hlt (Or.inl (hd _ rfl)))]; exact hc j s hj⟩
/-- A slice of one sum, made by a literal. -/
theorem one_sum {w : World} {lo hi c : Nat} {G : Option Addr} {x : Sm} (h : OwnS term lo hi w G x.2.length c x.2) (hlo : lo ≤ w.heap.size) (hhi : hi ≤ w.heap.size) : OwnS Mem.sum lo (w.heap.size + 1) (w.alloc (Obj.cells #[.int .i64 x.1, .slice G x.2.length c] 50)) (some ⟨w.heap.size, 0, none⟩) 1 1 [x] := by
  have hb : Below w.heap.size w (w.alloc (Obj.cells #[.int .i64 x.1, .slice G x.2.length c] 50)) := (Below.refl _ _).alloc (Nat.le_refl _) _
  obtain ⟨fp, q1, q2, q3⟩ := sum_closed h
  have hO : Owned Mem.sum 50 (fun g => lo ≤ g) (w.alloc (Obj.cells #[.int .i64 x.1, .slice G x.2.length c] 50)) (.slice (some ⟨w.heap.size, 0, none⟩) 1 1) [x] := by
    refine ⟨[(fp, [.int .i64 x.1, .slice G x.2.length c], x)], rfl, ⟨rfl, Or.inr ⟨w.heap.size, _, #[.int .i64 x.1, .slice G x.2.length c], rfl, Nat.zero_le _, heap_alloc_new _ _, Nat.le_refl _, by unfold maxLen; omega, rfl, rfl⟩⟩, fun y hy => ?_, by simpa [fps] using q2, fun g e => ?_, fun b hb' => ?_⟩
    · rw [List.mem_singleton.1 hy]
      exact Rep.below q1 hb
    · obtain rfl : w.heap.size = g := Option.some.inj e
      exact hlo
    · have hb2 : b ∈ fp := by simpa [fps] using hb'
      refine ⟨(q3 b hb2).1, fun e => ?_⟩
      obtain rfl : w.heap.size = b := Option.some.inj e
      have := (q3 _ hb2).2
      omega
  obtain ⟨A, c', e, h2⟩ := hO.ownS (lo := lo) (by decide) (fun g hg => hg)
  injection e with e1 e2 e3
  subst e1
  subst e3
  simpa using h2
/-- The argument so far, in its variable (block g); the parts lie in older memory. -/
def ReadS (w : World) (g : Nat) (wS : World) (b : ByteArray) (hs : List Sm) (u : Value) (wr : World) : Prop :=
  Lvar wr g #[.bool true, u, .string b] ∧ Owned Mem.sum 50 (fun j => wS.heap.size ≤ j) wr u hs ∧ Below w.heap.size w wr ∧ Lvar wr w.heap.size #[.bool false, .slice none 0 0, .string ByteArray.empty] ∧ Mod g (g + 1) wS wr
theorem ReadS.below {w wS wr w' : World} {g : Nat} {b : ByteArray} {hs : List Sm} {u : Value} (h : ReadS w g wS b hs u wr) (hb : Below wr.heap.size wr w') : ReadS w g wS b hs u w' :=
  ⟨h.1.below hb, h.2.1.below hb, h.2.2.1.trans (hb.mono h.2.2.1.size), h.2.2.2.1.below hb, h.2.2.2.2.trans (Mod.of_below hb)⟩
/-- One head more. w4: the world ahead of the append, w5: behind it. -/
theorem ReadS.more {w wS wr w4 w5 : World} {g : Nat} {b : ByteArray} {hs : List Sm} {u v : Value} {x : Sm} {G : Option Addr} {c lo hi : Nat} {es : List (El Sm)} (h : ReadS w g wS b hs u wr) (hwg : w.heap.size < g) (hw : g + 1 ≤ wS.heap.size) (h4 : Below wr.heap.size wr w4)
    (hes : vals es = hs) (he : ∀ y ∈ es, Mem.sum.rep true wr y.1 y.2.1 y.2.2) (hn : (fps es).Nodup) (hog : ∀ g, u.ownBlock = some g → wS.heap.size ≤ g) (hd : ∀ g ∈ fps es, wS.heap.size ≤ g ∧ u.ownBlock ≠ some g) (hown0 : wr.ownsRow 0 50 2 u hs.length (cells es))
    (hO : OwnS term lo hi w4 G x.2.length c x.2) (hlo : wr.heap.size ≤ lo) (ho : w5.ownsRow 0 50 2 v (hs.length + 1) (cells es ++ [.int .i64 x.1, .slice G x.2.length c])) (hg : w4.grownBy w5 u.ownBlock) (hv : v.ownBlock = u.ownBlock ∨ ∀ g, v.ownBlock = some g → w4.heap.size ≤ g) :
    ReadS w g wS b (hs ++ [x]) v (w5.setCell ⟨g, 1, none⟩ v) ∧ Lvar w5 g #[.bool true, u, .string b] := by
  have h' := h.below h4
  have hws := h.2.2.2.2.size
  have hne : ∀ g, g < wS.heap.size → u.ownBlock ≠ some g := fun g hg e => by have := hog g e; omega
  have hl := lvar_grown h'.1 hg (hne _ (by omega))
  obtain ⟨fp, q1, q2, q3⟩ := sum_closed hO
  have hlt : ∀ g ∈ fps es, g < wr.heap.size := fun g hg => by
    obtain ⟨y, h6, h7⟩ := List.mem_flatMap.1 hg
    exact Mem.sum.lt (he y h6) g h7
  have RR := Owned.snoc (ok := fun g => wS.heap.size ≤ g) (r := Mem.sum) (m := wr.heap.size) hes (fun y hy => Rep.below (he y hy) h4) hlt hn hd (fun g e => ⟨hog g e, (hown0.lt g e).2⟩) q1 q2 (fun g hg => Nat.le_trans hlo (q3 g hg).1) (fun g hg => Nat.le_trans hws hg) ho hg hv h4.size
  have hm : Mod g (g + 1) wS w5 := by
    obtain ⟨m1, m2, m3, m4, m5⟩ := h'.2.2.2.2
    exact ⟨hg.os.trans m1, hg.tape.trans m2, hg.output.trans m3, Nat.le_trans m4 hg.size, fun i hi hn => (hg.block i (Nat.lt_of_lt_of_le hi m4) (fun e => hne i hi e.symm)).trans (m5 i hi hn)⟩
  exact ⟨⟨by simpa using hl.set 1 v, RR.set (b := g) (by show ¬ (wS.heap.size ≤ g); omega) 1 v, (h'.2.2.1.grown hg h'.2.2.1.size (fun j hj => by have := hog j hj; omega)).setCell (p := ⟨g, 1, none⟩) (Nat.le_of_lt hwg) _, (lvar_grown h'.2.2.2.1 hg (hne _ (by omega))).other (p := ⟨g, 1, none⟩) (by show w.heap.size ≠ g; omega) _, hm.trans (Mod.set _ (p := ⟨g, 1, none⟩) (Nat.le_refl _) (Nat.lt_succ_self _) _)⟩, hl⟩

set_option maxHeartbeats 4000000 in
set_option maxRecDepth 100000 in
theorem parseArg (s : ByteArray) (w : World) (hsz : s.size ≤ 1048576) :
    Calls Tryz.prog 8 #[.string s] w (GaveArgO w (parseA s.data.toList)) := by
  rw [specA_eq]
  obtain ⟨i1, hi, hz0, hz1, hz2⟩ := info_parts sumInfo
  have HI := Lib.hid hi
  have HZ0 := Lib.hid hz0
  have HZ1 := Lib.hid hz1
  have HZ2 := Lib.hid hz2
  have HU := Lib.hid Tryz.underlying24
  have SP := Lib.hid (fun W => SplitS.spec s 58 hsz W)
  unfold SplitS.Post at SP
  obtain ⟨n, hn⟩ : ∃ n, (SplitM.spB 58 s).length = n + 1 := ⟨(SplitM.spB 58 s).length - 1, by have := List.length_pos_iff.2 (SplitM.sp_ne 58 s.data.toList); rw [sp_count] at this; omega⟩
  have hnb : n ≤ 1048576 := by have := SplitM.sp_length_le 58 s.data.toList; rw [sp_count, size_list] at this; omega
  have HCW := Lib.hid (fun k p (h : (SplitM.spB 58 s)[k]? = some p) (hk : k < n) => cuts_word h (by omega))
  have HCE := Lib.hid (fun p (h : (SplitM.spB 58 s)[n]? = some p) => cuts_end h hn)
  have HCN := Lib.hid (show (cuts true (SplitM.sp 58 s.data.toList)).1.length = n by rw [cuts_count, hn]; rfl)
  have HPZ := Lib.hid (fun p (h : p ∈ SplitM.spB 58 s) => Nat.le_trans (SplitM.spB_size 58 s p h) hsz)
  have HSL := Lib.hid (fun b X h => specA_list (t := s.data.toList) (b := b) (X := X) h)
  have HSI := Lib.hid (fun b X h => specA_int (t := s.data.toList) (b := b) (X := X) h)
  generalize specA s.data.toList = R at *
  generalize cuts true (SplitM.sp 58 s.data.toList) = C at *
  obtain ⟨ws, lw⟩ := C
  simp only at HCW HCE HCN HSL HSI
  generalize SplitM.spB 58 s = wb at *
  have L0 := Lib.hid (Lvar.new w #[Value.bool false, Value.slice none 0 0, Value.string ⟨#[]⟩] 26)
  have B0 := Lib.hid ((Below.refl w.heap.size w).alloc (Nat.le_refl _) (Obj.cells #[Value.bool false, Value.slice none 0 0, Value.string ⟨#[]⟩] 26))
  have hz1' : (w.alloc (Obj.cells #[Value.bool false, Value.slice none 0 0, Value.string ⟨#[]⟩] 26)).heap.size = w.heap.size + 1 := by simp
  have HZ1' := Lib.hid hz1'
  clear hi hz0 hz1 hz2 hz1'
  go_enter Tryz.func8, Tryz.ntmps8
  go_wp2_with fail
  generalize w.alloc (Obj.cells #[Value.bool false, Value.slice none 0 0, Value.string ⟨#[]⟩] 26) = w1 at *
  refine (Calls.mono (SP.out _)) ?_
  rintro e w2 ⟨Aw, cw, rfl, rW, fW, b2, gW, _⟩
  have hnl : n < wb.length := by omega
  have hgq := List.getElem?_eq_getElem hnl
  have HE := Lib.hid (HCE.out wb[n] hgq)
  have hqz := HPZ.out wb[n] (List.getElem_mem hnl)
  obtain ⟨bw, ow, rfl, hbw, hcw⟩ := rW.at_ hnl
  have hn1 : (wb.length : Int) - 1 = (n : Int) := by omega
  have hn0 : (0 : Int) ≤ (n : Int) := by omega
  have hn2 : (n : Int) < (wb.length : Int) := by omega
  generalize wb[n] = q at *
  have hgw : w.heap.size < w2.heap.size := by have := b2.size; have := HZ1'.out; omega
  have L3 := Lib.hid ((L0.out.below b2).alloc (Obj.cells #[Value.bool true, Value.slice none 0 0, Value.string ⟨#[]⟩] 26))
  have B3 := Lib.hid ((B0.out.trans (b2.mono B0.out.size)).alloc (Nat.le_of_lt hgw) (Obj.cells #[Value.bool true, Value.slice none 0 0, Value.string ⟨#[]⟩] 26))
  have V3 := Lib.hid (Lvar.new w2 #[Value.bool true, Value.slice none 0 0, Value.string ⟨#[]⟩] 26)
  have RW := Lib.hid (rW.below ((Below.refl _ _).alloc (Nat.le_refl _) (Obj.cells #[Value.bool true, Value.slice none 0 0, Value.string ⟨#[]⟩] 26)))
  have HS3 := Lib.hid (show (w2.alloc (Obj.cells #[Value.bool true, Value.slice none 0 0, Value.string ⟨#[]⟩] 26)).heap.size = w2.heap.size + 1 by simp)
  obtain ⟨q', hq'⟩ : ∃ q' : ByteArray, q'.data.toList = lw := ⟨⟨lw.toArray⟩, by simp⟩
  have hqz' : q'.size ≤ 1048576 := by
    have h1 : q'.data.toList.length ≤ q.data.toList.length := by
      rw [hq', HE.out]
      split
      · exact Nat.le_refl _
      · simp
    rw [size_list, size_list] at h1
    omega
  have HQ := Lib.hid hq'
  clear rW fW b2 gW L0 B0 SP hgq hn hq'
  go_upto_region 4 with fail
  generalize w2.alloc (Obj.cells #[Value.bool true, Value.slice none 0 0, Value.string ⟨#[]⟩] 26) = w3 at *
  generalize w2.heap.size = g at *
  obtain ⟨t, ht⟩ : ∃ t : Bool, t = (decide (0 < n) && decide (0 < q.size)) := ⟨_, rfl⟩
  have HT := Lib.hid ht
  clear ht
  go_cut [29] from 22 to 28 (fun s wx => s = .bool t ∧ Below w3.heap.size w3 wx)
  case first =>
    by_cases h0 : n = 0
    · have hd : decide ((1 : Int) < (wb.length : Int)) = false := decide_eq_false (by omega)
      have hd' : decide (1 < wb.length) = false := decide_eq_false (by omega)
      have hd3 : decide (0 < n) = false := decide_eq_false (by omega)
      clear h0
      go_wp2_with fail
      go_meet
      exact ⟨by rw [HT.out, hd3]; rfl, by first | exact Below.refl _ _ | exact (Below.refl _ _).drew⟩
    · have hd : decide ((1 : Int) < (wb.length : Int)) = true := decide_eq_true (by omega)
      have hd' : decide (1 < wb.length) = true := decide_eq_true (by omega)
      have hd3 := Lib.hid (show decide (0 < n) = true from decide_eq_true (by omega))
      clear h0
      have HDD := Lib.hid (show decide ((0 : Int) < (q.size : Int)) = decide (0 < q.size) by simp)
      go_wp2_with fail
      go_meet
      exact ⟨by rw [HT.out, hd3.out]; simp, by first | exact Below.refl _ _ | exact (Below.refl _ _).drew⟩
  case rest =>
    obtain ⟨w31, rfl⟩ : ∃ w31 : World, w31 = wc := ⟨_, rfl⟩
    obtain ⟨rfl, b31⟩ := hcut
    have B31 := Lib.hid b31
    clear b31
    go_upto_if 29 with fail
    go_cut [5] from 30 to 31 (fun s wx => s = .string q' ∧ Below w3.heap.size w3 wx)
    case first =>
      cases t with
      | true =>
        have h1 := HT.out
        simp only [Bool.true_eq, Bool.and_eq_true, decide_eq_true_eq] at h1
        obtain ⟨h0, hs0⟩ := h1
        have hq1 : (1 : Int) ≤ (q.size : Int) := by omega
        obtain rfl : q' = q.extract 1 q.size := NameM.toList_inj (by rw [HQ.out, HE.out, if_neg (by omega), tail_data q hs0])
        clear h0 hs0 hqz'
        go_wp2_with fail
        go_meet
        exact ⟨rfl, B31.out⟩
      | false =>
        obtain rfl : q' = q := NameM.toList_inj (by
          have h1 := HT.out
          rw [HQ.out, HE.out]
          by_cases h0 : n = 0
          · rw [if_pos h0]
          · have hs0 : q.size = 0 := by
              have h2 : decide (0 < n) = true := decide_eq_true (by omega)
              rw [h2, Bool.true_and] at h1
              have := of_decide_eq_false h1.symm
              omega
            rw [if_neg h0, List.eq_nil_of_length_eq_zero (l := q.data.toList) (by rw [size_list]; omega)]
            rfl)
        go_wp2_with fail
        go_meet
        exact ⟨rfl, B31.out⟩
    case rest =>
      obtain ⟨w4, rfl⟩ : ∃ w4 : World, w4 = wc := ⟨_, rfl⟩
      obtain ⟨rfl, b4⟩ := hcut
      have L4 := Lib.hid (L3.out.below b4)
      have V4 := Lib.hid (V3.out.below b4)
      have B4 := Lib.hid (B3.out.trans (b4.mono B3.out.size))
      have RW4 := Lib.hid (RW.out.below b4)
      have hz4 := b4.size
      have HS4 := Lib.hid (show g + 1 ≤ w4.heap.size by have := HS3.out; omega)
      have hq8 : q'.toList = q'.data.toList := by rw [ByteArray.toList_eq]
      clear b4 L3 V3 B3 RW HE hcw hqz hn0 hn2
      generalize q' = q1 at *
      clear hz4
      by_cases hnil : q1.data.toList = nilT
      · have heq : (q1.toList == [110, 105, 108]) = true := by rw [hq8, hnil]; rfl
        have HR := Lib.hid (HSL.out (ByteArray.mk #[]) _ (by rw [← HQ.out]; exact formP_nil1 hnil))
        clear hq8 hnil
        go_wp2
        have RD0 := Lib.hid (show ReadS w g w4 (ByteArray.mk #[]) [] (.slice none 0 0) w4 from ⟨V4.out, Owned.nil _ _ _ _, B4.out, L4.out, Mod.refl _ _ _⟩)
        have RWS := Lib.hid (show StrK.SRow w4 (some ⟨bw, ow, none⟩) wb from RW4.out)
        have HGS := Lib.hid (show g + 1 ≤ (w4).heap.size from HS4.out)
        have HBZ := Lib.hid (show ((ByteArray.mk #[])).size ≤ 9223372036854775807 from (by decide))
        clear V4 L4 B4 RW4 HS4 heq hqz'
        generalize w4 = wS at *
        go_loopw [9] (fun i wr => ∃ (k : Nat) (u : Value), k ≤ n ∧ i = .int .i64 k ∧ ReadS w g wS (ByteArray.mk #[]) ((ws.take k).map zS) u wr) (fun i _ => n - (intOf i).toNat)
        case atStart => exact ⟨0, _, Nat.zero_le _, rfl, RD0.out⟩
        case round =>
          obtain ⟨k, u, hk, rfl, hR⟩ := hrel
          have HRR := Lib.hid hR
          have RWr := Lib.hid (srow_modL RWS.out hR.2.2.2.2 (fun a e => by injection e with e; subst e; exact hbw))
          have hsz9 := hR.2.2.2.2.size
          have v0 := hR.1.cell 0 (.bool true) rfl
          have v1 := hR.1.cell 1 u rfl
          have v2 := hR.1.cell 2 (.string ((ByteArray.mk #[]))) rfl
          clear hR RD0
          by_cases hlt : k < n
          · have hlt' : k < wb.length := by omega
            obtain ⟨bq, oq, eq, hbq, hcq⟩ := RWr.out.at_ hlt'
            injection eq with eq; injection eq with eq1 eq2; subst eq1; subst eq2
            have HW := Lib.hid (HCW.out k _ (List.getElem?_eq_getElem hlt') hlt)
            have hpz := HPZ.out _ (List.getElem_mem hlt')
            have hi0 : (0 : Int) ≤ (k : Int) := by omega
            have hi1 : (k : Int) < (n : Int) := by omega
            have hi2 : (k : Int) < (wb.length : Int) := by omega
            generalize wb[k] = p at *
            obtain ⟨p1, hp1⟩ : ∃ p1 : ByteArray, p1.data.toList = if k = 0 then p.data.toList else p.data.toList.tail := ⟨⟨(if k = 0 then p.data.toList else p.data.toList.tail).toArray⟩, by simp⟩
            obtain ⟨p2, hp2⟩ : ∃ p2 : ByteArray, p2.data.toList = p1.data.toList.dropLast := ⟨⟨p1.data.toList.dropLast.toArray⟩, by simp⟩
            have hz9 : p1.size ≤ 1048576 := by
              have h1 : p1.data.toList.length ≤ p.data.toList.length := by
                rw [hp1]
                split
                · exact Nat.le_refl _
                · simp
              rw [size_list, size_list] at h1
              omega
            have hz8 : p2.size ≤ 1048576 := by
              have h1 : p2.data.toList.length ≤ p1.data.toList.length := by rw [hp2]; simp
              rw [size_list, size_list] at h1
              omega
            have HP1 := Lib.hid hp1
            have HP2 := Lib.hid hp2
            have HW2 := Lib.hid (show ws[k]? = some p2.data.toList by rw [HW.out, hp2, hp1])
            clear hp1 hp2 HW
            obtain ⟨t, ht⟩ : ∃ t : Bool, t = (decide (0 < k) && decide (0 < p.size)) := ⟨_, rfl⟩
            have HT := Lib.hid ht
            clear ht
            go_upto_region 17 with fail
            go_cut [68] from 51 to 89 (fun s wx => s = .bool t ∧ wr = wx)
            case first =>
              by_cases h0 : k = 0
              · have hd : decide ((0 : Int) < (k : Int)) = false := decide_eq_false (by omega)
                have hd' : decide (0 < k) = false := decide_eq_false (by omega)
                clear h0
                go_wp2_with fail
                go_meet
                exact ⟨by rw [HT.out, hd']; rfl, rfl⟩
              · have hd : decide ((0 : Int) < (k : Int)) = true := decide_eq_true (by omega)
                have hd' : decide (0 < k) = true := decide_eq_true (by omega)
                have hd3 := Lib.hid (show decide (0 < k) = true from decide_eq_true (by omega))
                clear h0
                go_wp2_with fail
                go_meet
                exact ⟨by rw [HT.out, hd3.out]; simp, rfl⟩
            case rest =>
              obtain ⟨rfl, rfl⟩ := hcut
              go_upto_if 68 with fail
              go_cut [10] from 51 to 89 (fun s wx => s = .string p1 ∧ wr = wx)
              case first =>
                cases t with
                | true =>
                  have h1 := HT.out
                  simp only [Bool.true_eq, Bool.and_eq_true, decide_eq_true_eq] at h1
                  obtain ⟨h0, hs0⟩ := h1
                  have hq1 : (1 : Int) ≤ (p.size : Int) := by omega
                  have hpe : p.extract 1 p.size = p1 := NameM.toList_inj (by rw [HP1.out, if_neg (by omega), tail_data p hs0])
                  clear h0 hs0
                  go_wp2_with fail
                  go_meet
                  exact ⟨by first | rfl | (rw [hpe]; done), rfl⟩
                | false =>
                  obtain rfl : p1 = p := NameM.toList_inj (by
                    have h1 := HT.out
                    rw [HP1.out]
                    by_cases h0 : k = 0
                    · rw [if_pos h0]
                    · have hs0 : p.size = 0 := by
                        have h2 : decide (0 < k) = true := decide_eq_true (by omega)
                        rw [h2, Bool.true_and] at h1
                        have := of_decide_eq_false h1.symm
                        omega
                      rw [if_neg h0, List.eq_nil_of_length_eq_zero (l := p.data.toList) (by rw [size_list]; omega)]
                      rfl)
                  go_wp2_with fail
                  go_meet
                  exact ⟨by first | rfl | (rw [hpe]; done), rfl⟩
              case rest =>
                obtain ⟨rfl, rfl⟩ := hcut
                obtain ⟨t2, ht2⟩ : ∃ t2 : Bool, t2 = decide (0 < p1.size) := ⟨_, rfl⟩
                have HT2 := Lib.hid ht2
                clear ht2
                go_upto_region 19 with fail
                go_cut [73] from 51 to 89 (fun s wx => s = .bool t2 ∧ wr = wx)
                case first =>
                  go_wp2_with fail
                  go_meet
                  exact ⟨by first | (rw [HT2.out]; done) | (rw [HT2.out]; simp), rfl⟩
                case rest =>
                  obtain ⟨rfl, rfl⟩ := hcut
                  go_upto_if 73 with fail
                  go_cut [10] from 51 to 89 (fun s wx => s = .string p2 ∧ wr = wx)
                  case first =>
                    cases t2 with
                    | true =>
                      have h0 := of_decide_eq_true HT2.out.symm
                      obtain ⟨m, hm⟩ : ∃ m, m = p1.size - 1 := ⟨_, rfl⟩
                      have hm1 : (p1.size : Int) - 1 = (m : Int) := by omega
                      have hm2 : (0 : Int) ≤ (m : Int) := by omega
                      have hm3 : (m : Int) ≤ (p1.size : Int) := by omega
                      have hm4 : m ≤ p1.size := by omega
                      have hpe : p1.extract 0 m = p2 := NameM.toList_inj (by rw [HP2.out, upto_eq, List.dropLast_eq_take, size_list, hm])
                      clear h0 hm
                      go_wp2_with fail
                      go_meet
                      exact ⟨by first | rfl | (rw [hpe]; done), rfl⟩
                    | false =>
                      have h0 := of_decide_eq_false HT2.out.symm
                      obtain rfl : p2 = p1 := NameM.toList_inj (by rw [HP2.out, List.eq_nil_of_length_eq_zero (l := p1.data.toList) (by rw [size_list]; omega)]; rfl)
                      clear h0
                      go_wp2_with fail
                      go_meet
                      exact ⟨rfl, rfl⟩
                  case rest =>
                    obtain ⟨rfl, rfl⟩ := hcut
                    have PS := Lib.hid (parseSum p2 wr hz8)
                    unfold GaveSumO at PS
                    have HSN := Lib.hid (show (ws.take (k + 1)).map zS = (ws.take k).map zS ++ [(parseS p2.data.toList).getD (0, [])] by rw [List.take_add_one, HW2.out, Option.toList_some, List.map_append]; rfl)
                    generalize (parseS p2.data.toList).getD (0, []) = x at *
                    generalize (parseS p2.data.toList).isSome = y at *
                    obtain ⟨z, xs⟩ := x
                    simp only at PS
                    go_wp2_with fail
                    refine (Calls.mono PS.out) ?_
                    rintro e w5 ⟨G, cg, rfl, hO, b5⟩
                    have ta := (Below.refl w5.heap.size w5).alloc (Nat.le_refl _) (Obj.cells #[Value.int .i64 z, Value.slice G xs.length cg] 50)
                    have VH := Lvar.new w5 #[Value.int .i64 z, Value.slice G xs.length cg] 50
                    have R4 := Lib.hid ((HRR.out.below b5).below ta)
                    have O4 := Lib.hid (hO.below ta)
                    have D4 := Lib.hid (b5.trans (ta.mono b5.size))
                    have hz3 := b5.size
                    have HHL := Lib.hid (show ((ws.take k).map zS).length ≤ 1048578 by rw [List.length_map, List.length_take]; omega)
                    clear v0 v1 v2 b5 ta PS hO
                    go_upto_region 22 with fail
                    generalize w5.alloc (Obj.cells #[Value.int .i64 z, Value.slice G xs.length cg] 50) = w6 at *
                    generalize (ws.take k).map zS = hs at *
                    obtain ⟨es, hes, hown, he, hn9, hog, hdj⟩ := HRR.out.2.1
                    have hown : wr.ownsRow 0 50 2 u hs.length (cells es) := hown
                    have c0 := VH.cell 0 (.int .i64 z) rfl
                    have c1 := VH.cell 1 (.slice G xs.length cg) rfl
                    have v0 := R4.out.1.cell 0 (.bool true) rfl
                    have v1 := R4.out.1.cell 1 u rfl
                    have v2 := R4.out.1.cell 2 (.string ((ByteArray.mk #[]))) rfl
                    have p1 := R4.out.1.frozen 1
                    have HO4 := Lib.hid ((hown.kept (StrK.only_below D4.out none) (by by_cases hv : u.ownBlock = none; exact Or.inl hv; exact Or.inr hv)).alloc (Obj.cells #[Value.int .i64 z, Value.slice G xs.length cg] 50))
                    have NXT := Lib.hid (fun w7 v7 ho hg hw => ReadS.more (x := (z, xs)) (G := G) (c := cg) (v := v7) (w5 := w7) HRR.out hgw HGS.out (D4.out.trans (((Below.refl w6.heap.size w6).alloc (Nat.le_refl _) (Obj.cells #[Value.int .i64 z, Value.slice G xs.length cg] 50)).mono D4.out.size)) hes he hn9 hog hdj hown (O4.out.below ((Below.refl w6.heap.size w6).alloc (Nat.le_refl _) (Obj.cells #[Value.int .i64 z, Value.slice G xs.length cg] 50))) (Nat.le_refl _) ho hg hw)
                    have hhl := HHL.out
                    clear hes hown he hn9 hog hdj VH
                    go_wp2_with (at_builtin; refine wpList_append_where rfl (.tmp 85) (.tmp 87) 24 rfl 0 50 i1 (.agg #[.int .i64 0, .slice none 0 0]) 2 32 HU.out HI.out HZ0.out HZ1.out HZ2.out rfl (by decide) _ _ _ rfl HO4.out ⟨w6.heap.size, 0, none⟩ 1 1 [.int .i64 z, .slice G xs.length cg] rfl rfl (cell_two_new _ _ _ _) (by simp [Value.oneCell']) (by unfold maxLen; omega) (by omega) (Nat.zero_le _) ?_; intro v7 w7 hown7 hgrow7 hwh7; (obtain ⟨A7, c7, rfl, _, _, _, _⟩ := RowK.of_own hown7); (have NX := NXT.out w7 _ hown7 hgrow7 hwh7); (have q0 := NX.2.cell 0 (.bool true) rfl); (have q1 := NX.2.cell 1 u rfl); (have qp := NX.2.frozen 1); (have F := Lib.hid NX.1); clear NX hown7 hgrow7 hwh7)
                    go_roundw
                    case rel =>
                      first
                        | exact ⟨k + 1, _, by omega, by go_num, by rw [HSN.out]; exact F.out⟩
                        | (repeat apply Exists.intro; exact ⟨⟨k + 1, _, by omega, by go_num, by rw [HSN.out]; exact F.out⟩, rfl⟩)
                    case measure => simp [intOf]; omega
          · have hkn : k = n := by omega
            have HR2 := HRR.out
            rw [hkn, List.take_of_length_le (by rw [HCN.out]; exact Nat.le_refl _)] at HR2
            have hlf : decide ((k : Int) < (n : Int)) = false := decide_eq_false (by omega)
            have hlf' : decide (k < n) = false := decide_eq_false hlt
            have hsl : (ws.map zS).length + szs ssl (ws.map zS) ≤ 1000000000 := by
              have h1 := zS_szs ws
              rw [List.length_map, HCN.out]
              rw [HCN.out] at h1
              omega
            have hss : ∀ x ∈ ws.map zS, ∀ t ∈ x.2, t.2.size ≤ 9223372036854775807 := fun x hx t ht => by
              obtain ⟨l, _, rfl⟩ := List.mem_map.1 hx
              have := (zS_list l).2 t ht
              omega
            clear HRR
            generalize ws.map zS = hs at *
            obtain ⟨h1, h2, h3, h4, h5⟩ := HR2
            obtain ⟨G, cg, rfl, hO⟩ := h2.ownS (lo := w.heap.size + 1) (by decide) (fun j hj => by have := HGS.out; omega)
            have FO := Lib.hid (formatArg true ((ByteArray.mk #[])) G cg hs wr hO.arg hsl hss HBZ.out)
            have O3 := Lib.hid hO
            have V3 := Lib.hid h1
            have L3 := Lib.hid h4
            have B3 := Lib.hid h3
            have hes := Lib.hid (show s.toList = s.data.toList by rw [ByteArray.toList_eq])
            clear h1 h2 h3 h4 h5 hO hsl hss v0 v1 v2 hkn
            have v0 := V3.out.cell 0 (.bool true) rfl
            have v1 := V3.out.cell 1 (.slice G hs.length cg) rfl
            have v2 := V3.out.cell 2 (.string ((ByteArray.mk #[]))) rfl
            go_wp2_with fail
            refine (Calls.mono FO.out) ?_
            rintro e w5 ⟨rfl, b5⟩
            have L5 := Lib.hid (L3.out.below b5)
            have V5 := Lib.hid (V3.out.below b5)
            have B5 := Lib.hid (B3.out.trans (b5.mono B3.out.size))
            have O5 := Lib.hid (O3.out.below b5)
            clear b5 L3 V3 FO v0 v1 v2
            have k0 := L5.out.cell 0 (.bool false) rfl
            have k1 := L5.out.cell 1 (.slice none 0 0) rfl
            have k2 := L5.out.cell 2 (.string ByteArray.empty) rfl
            have g0 := L5.out.frozen 0
            have g1 := L5.out.frozen 1
            have g2 := L5.out.frozen 2
            have v0 := V5.out.cell 0 (.bool true) rfl
            have v1 := V5.out.cell 1 (.slice G hs.length cg) rfl
            have v2 := V5.out.cell 2 (.string ((ByteArray.mk #[]))) rfl
            by_cases he : FA (true, hs, (ByteArray.mk #[])) = s.data.toList
            · have HPS := Lib.hid (show R = some (true, hs, (ByteArray.mk #[])) by rw [HR.out, if_pos he])
              have heq : (FA (true, hs, (ByteArray.mk #[])) == s.toList) = true := by rw [hes.out, he]; simp
              have mm : Mod w.heap.size (w.heap.size + 1) w5 (((w5.setCell ⟨w.heap.size, 0, none⟩ (.bool true)).setCell ⟨w.heap.size, 1, none⟩ (.slice G hs.length cg)).setCell ⟨w.heap.size, 2, none⟩ (.string ((ByteArray.mk #[])))) := ((Mod.set _ (p := ⟨w.heap.size, 0, none⟩) (Nat.le_refl _) (Nat.lt_succ_self _) _).trans (Mod.set _ (p := ⟨w.heap.size, 1, none⟩) (Nat.le_refl _) (Nat.lt_succ_self _) _)).trans (Mod.set _ (p := ⟨w.heap.size, 2, none⟩) (Nat.le_refl _) (Nat.lt_succ_self _) _)
              have FF := Lib.hid (show GaveArgO w (some (true, hs, (ByteArray.mk #[]))) (.returned (.tuple #[.agg #[.bool true, .slice G hs.length cg, .string ((ByteArray.mk #[]))], .bool true])) _ from ⟨G, cg, rfl, (O5.out.keep mm (Or.inr (Nat.le_refl _))).wider (by omega) (Nat.le_trans O5.out.1 mm.size) (Nat.le_refl _), ((B5.out.setCell (p := ⟨w.heap.size, 0, none⟩) (Nat.le_refl _) _).setCell (p := ⟨w.heap.size, 1, none⟩) (Nat.le_refl _) _).setCell (p := ⟨w.heap.size, 2, none⟩) (Nat.le_refl _) _⟩)
              generalize FA (true, hs, (ByteArray.mk #[])) = FT at *
              clear he hes HR mm
              go_wp2
              refine bodyPost_ret (v := .tuple #[.agg #[.bool true, .slice G hs.length cg, .string ((ByteArray.mk #[]))], .bool true]) (by simp [results, Tryz.results8, go_sem, k0, k1, k2]; try rfl) rfl ?_
              rw [HPS.out]
              exact FF.out
            · have HPS := Lib.hid (show R = none by rw [HR.out, if_neg he])
              have heq : (FA (true, hs, (ByteArray.mk #[])) == s.toList) = false := by rw [hes.out, beq_eq_false_iff_ne]; exact he
              have HZ := Lib.hid (((B5.out.setCell (p := ⟨w.heap.size, 0, none⟩) (Nat.le_refl _) (.bool false)).setCell (p := ⟨w.heap.size, 1, none⟩) (Nat.le_refl _) (.slice none 0 0)).setCell (p := ⟨w.heap.size, 2, none⟩) (Nat.le_refl _) (.string ⟨#[]⟩))
              generalize FA (true, hs, (ByteArray.mk #[])) = FT at *
              clear he hes HR
              go_wp2
              refine bodyPost_ret (v := .tuple #[.agg #[.bool false, .slice none 0 0, .string ByteArray.empty], .bool false]) (by simp [results, Tryz.results8, go_sem, k0, k1, k2]; try rfl) rfl ?_
              rw [HPS.out]
              exact gaveA_none HZ.out
      · have heq : (q1.toList == [110, 105, 108]) = false := by rw [hq8]; exact beq_eq_false_iff_ne.2 hnil
        have LN := Lib.hid (NameS.specList q1 w4 (by unfold maxLen; omega))
        clear hq8
        go_wp2_with fail
        refine (Calls.mono LN.out) ?_
        rintro e w5 ⟨rfl, b5⟩
        have L5 := Lib.hid (L4.out.below b5)
        have V5 := Lib.hid (V4.out.below b5)
        have B5 := Lib.hid (B4.out.trans (b5.mono B4.out.size))
        have RW5 := Lib.hid (RW4.out.below b5)
        have HS5 := Lib.hid (show g + 1 ≤ w5.heap.size from Nat.le_trans HS4.out b5.size)
        clear LN
        have v0 := V5.out.cell 0 (.bool true) rfl
        have v1 := V5.out.cell 1 (.slice none 0 0) rfl
        have v2 := V5.out.cell 2 (.string ⟨#[]⟩) rfl
        have f2 := V5.out.frozen 2
        cases hln : NameM.listName q1 with
        | true =>
          have HR := Lib.hid (HSL.out q1 _ (by rw [← HQ.out]; exact formP_list1 hnil hln))
          clear hln
          go_wp2
          have RD0 := Lib.hid (show ReadS w g (w5.setCell ⟨g, 2, none⟩ (.string q1)) q1 [] (.slice none 0 0) (w5.setCell ⟨g, 2, none⟩ (.string q1)) from ⟨by simpa using V5.out.set 2 (.string q1), Owned.nil _ _ _ _, B5.out.setCell (p := ⟨g, 2, none⟩) (Nat.le_of_lt hgw) _, L5.out.other (p := ⟨g, 2, none⟩) (by show w.heap.size ≠ g; omega) _, Mod.refl _ _ _⟩)
          have RWS := Lib.hid (show StrK.SRow (w5.setCell ⟨g, 2, none⟩ (.string q1)) (some ⟨bw, ow, none⟩) wb from srow_modL RW5.out (Mod.set w5 (p := ⟨g, 2, none⟩) (Nat.le_refl _) (Nat.lt_succ_self _) (.string q1)) (fun a e => by injection e with e; subst e; exact hbw))
          have HGS := Lib.hid (show g + 1 ≤ ((w5.setCell ⟨g, 2, none⟩ (.string q1))).heap.size from by simpa using HS5.out)
          have HBZ := Lib.hid (show (q1).size ≤ 9223372036854775807 from by omega)
          clear V4 L4 B4 RW4 HS4 heq V5 L5 B5 RW5 HS5 v0 v1 v2 f2 b5
          generalize (w5.setCell ⟨g, 2, none⟩ (.string q1)) = wS at *
          go_loopw [9] (fun i wr => ∃ (k : Nat) (u : Value), k ≤ n ∧ i = .int .i64 k ∧ ReadS w g wS q1 ((ws.take k).map zS) u wr) (fun i _ => n - (intOf i).toNat)
          case atStart => exact ⟨0, _, Nat.zero_le _, rfl, RD0.out⟩
          case round =>
            obtain ⟨k, u, hk, rfl, hR⟩ := hrel
            have HRR := Lib.hid hR
            have RWr := Lib.hid (srow_modL RWS.out hR.2.2.2.2 (fun a e => by injection e with e; subst e; exact hbw))
            have hsz9 := hR.2.2.2.2.size
            have v0 := hR.1.cell 0 (.bool true) rfl
            have v1 := hR.1.cell 1 u rfl
            have v2 := hR.1.cell 2 (.string (q1)) rfl
            clear hR RD0
            by_cases hlt : k < n
            · have hlt' : k < wb.length := by omega
              obtain ⟨bq, oq, eq, hbq, hcq⟩ := RWr.out.at_ hlt'
              injection eq with eq; injection eq with eq1 eq2; subst eq1; subst eq2
              have HW := Lib.hid (HCW.out k _ (List.getElem?_eq_getElem hlt') hlt)
              have hpz := HPZ.out _ (List.getElem_mem hlt')
              have hi0 : (0 : Int) ≤ (k : Int) := by omega
              have hi1 : (k : Int) < (n : Int) := by omega
              have hi2 : (k : Int) < (wb.length : Int) := by omega
              generalize wb[k] = p at *
              obtain ⟨p1, hp1⟩ : ∃ p1 : ByteArray, p1.data.toList = if k = 0 then p.data.toList else p.data.toList.tail := ⟨⟨(if k = 0 then p.data.toList else p.data.toList.tail).toArray⟩, by simp⟩
              obtain ⟨p2, hp2⟩ : ∃ p2 : ByteArray, p2.data.toList = p1.data.toList.dropLast := ⟨⟨p1.data.toList.dropLast.toArray⟩, by simp⟩
              have hz9 : p1.size ≤ 1048576 := by
                have h1 : p1.data.toList.length ≤ p.data.toList.length := by
                  rw [hp1]
                  split
                  · exact Nat.le_refl _
                  · simp
                rw [size_list, size_list] at h1
                omega
              have hz8 : p2.size ≤ 1048576 := by
                have h1 : p2.data.toList.length ≤ p1.data.toList.length := by rw [hp2]; simp
                rw [size_list, size_list] at h1
                omega
              have HP1 := Lib.hid hp1
              have HP2 := Lib.hid hp2
              have HW2 := Lib.hid (show ws[k]? = some p2.data.toList by rw [HW.out, hp2, hp1])
              clear hp1 hp2 HW
              obtain ⟨t, ht⟩ : ∃ t : Bool, t = (decide (0 < k) && decide (0 < p.size)) := ⟨_, rfl⟩
              have HT := Lib.hid ht
              clear ht
              go_upto_region 17 with fail
              go_cut [68] from 51 to 89 (fun s wx => s = .bool t ∧ wr = wx)
              case first =>
                by_cases h0 : k = 0
                · have hd : decide ((0 : Int) < (k : Int)) = false := decide_eq_false (by omega)
                  have hd' : decide (0 < k) = false := decide_eq_false (by omega)
                  clear h0
                  go_wp2_with fail
                  go_meet
                  exact ⟨by rw [HT.out, hd']; rfl, rfl⟩
                · have hd : decide ((0 : Int) < (k : Int)) = true := decide_eq_true (by omega)
                  have hd' : decide (0 < k) = true := decide_eq_true (by omega)
                  have hd3 := Lib.hid (show decide (0 < k) = true from decide_eq_true (by omega))
                  clear h0
                  go_wp2_with fail
                  go_meet
                  exact ⟨by rw [HT.out, hd3.out]; simp, rfl⟩
              case rest =>
                obtain ⟨rfl, rfl⟩ := hcut
                go_upto_if 68 with fail
                go_cut [10] from 51 to 89 (fun s wx => s = .string p1 ∧ wr = wx)
                case first =>
                  cases t with
                  | true =>
                    have h1 := HT.out
                    simp only [Bool.true_eq, Bool.and_eq_true, decide_eq_true_eq] at h1
                    obtain ⟨h0, hs0⟩ := h1
                    have hq1 : (1 : Int) ≤ (p.size : Int) := by omega
                    have hpe : p.extract 1 p.size = p1 := NameM.toList_inj (by rw [HP1.out, if_neg (by omega), tail_data p hs0])
                    clear h0 hs0
                    go_wp2_with fail
                    go_meet
                    exact ⟨by first | rfl | (rw [hpe]; done), rfl⟩
                  | false =>
                    obtain rfl : p1 = p := NameM.toList_inj (by
                      have h1 := HT.out
                      rw [HP1.out]
                      by_cases h0 : k = 0
                      · rw [if_pos h0]
                      · have hs0 : p.size = 0 := by
                          have h2 : decide (0 < k) = true := decide_eq_true (by omega)
                          rw [h2, Bool.true_and] at h1
                          have := of_decide_eq_false h1.symm
                          omega
                        rw [if_neg h0, List.eq_nil_of_length_eq_zero (l := p.data.toList) (by rw [size_list]; omega)]
                        rfl)
                    go_wp2_with fail
                    go_meet
                    exact ⟨by first | rfl | (rw [hpe]; done), rfl⟩
                case rest =>
                  obtain ⟨rfl, rfl⟩ := hcut
                  obtain ⟨t2, ht2⟩ : ∃ t2 : Bool, t2 = decide (0 < p1.size) := ⟨_, rfl⟩
                  have HT2 := Lib.hid ht2
                  clear ht2
                  go_upto_region 19 with fail
                  go_cut [73] from 51 to 89 (fun s wx => s = .bool t2 ∧ wr = wx)
                  case first =>
                    go_wp2_with fail
                    go_meet
                    exact ⟨by first | (rw [HT2.out]; done) | (rw [HT2.out]; simp), rfl⟩
                  case rest =>
                    obtain ⟨rfl, rfl⟩ := hcut
                    go_upto_if 73 with fail
                    go_cut [10] from 51 to 89 (fun s wx => s = .string p2 ∧ wr = wx)
                    case first =>
                      cases t2 with
                      | true =>
                        have h0 := of_decide_eq_true HT2.out.symm
                        obtain ⟨m, hm⟩ : ∃ m, m = p1.size - 1 := ⟨_, rfl⟩
                        have hm1 : (p1.size : Int) - 1 = (m : Int) := by omega
                        have hm2 : (0 : Int) ≤ (m : Int) := by omega
                        have hm3 : (m : Int) ≤ (p1.size : Int) := by omega
                        have hm4 : m ≤ p1.size := by omega
                        have hpe : p1.extract 0 m = p2 := NameM.toList_inj (by rw [HP2.out, upto_eq, List.dropLast_eq_take, size_list, hm])
                        clear h0 hm
                        go_wp2_with fail
                        go_meet
                        exact ⟨by first | rfl | (rw [hpe]; done), rfl⟩
                      | false =>
                        have h0 := of_decide_eq_false HT2.out.symm
                        obtain rfl : p2 = p1 := NameM.toList_inj (by rw [HP2.out, List.eq_nil_of_length_eq_zero (l := p1.data.toList) (by rw [size_list]; omega)]; rfl)
                        clear h0
                        go_wp2_with fail
                        go_meet
                        exact ⟨rfl, rfl⟩
                    case rest =>
                      obtain ⟨rfl, rfl⟩ := hcut
                      have PS := Lib.hid (parseSum p2 wr hz8)
                      unfold GaveSumO at PS
                      have HSN := Lib.hid (show (ws.take (k + 1)).map zS = (ws.take k).map zS ++ [(parseS p2.data.toList).getD (0, [])] by rw [List.take_add_one, HW2.out, Option.toList_some, List.map_append]; rfl)
                      generalize (parseS p2.data.toList).getD (0, []) = x at *
                      generalize (parseS p2.data.toList).isSome = y at *
                      obtain ⟨z, xs⟩ := x
                      simp only at PS
                      go_wp2_with fail
                      refine (Calls.mono PS.out) ?_
                      rintro e w5 ⟨G, cg, rfl, hO, b5⟩
                      have ta := (Below.refl w5.heap.size w5).alloc (Nat.le_refl _) (Obj.cells #[Value.int .i64 z, Value.slice G xs.length cg] 50)
                      have VH := Lvar.new w5 #[Value.int .i64 z, Value.slice G xs.length cg] 50
                      have R4 := Lib.hid ((HRR.out.below b5).below ta)
                      have O4 := Lib.hid (hO.below ta)
                      have D4 := Lib.hid (b5.trans (ta.mono b5.size))
                      have hz3 := b5.size
                      have HHL := Lib.hid (show ((ws.take k).map zS).length ≤ 1048578 by rw [List.length_map, List.length_take]; omega)
                      clear v0 v1 v2 b5 ta PS hO
                      go_upto_region 22 with fail
                      generalize w5.alloc (Obj.cells #[Value.int .i64 z, Value.slice G xs.length cg] 50) = w6 at *
                      generalize (ws.take k).map zS = hs at *
                      obtain ⟨es, hes, hown, he, hn9, hog, hdj⟩ := HRR.out.2.1
                      have hown : wr.ownsRow 0 50 2 u hs.length (cells es) := hown
                      have c0 := VH.cell 0 (.int .i64 z) rfl
                      have c1 := VH.cell 1 (.slice G xs.length cg) rfl
                      have v0 := R4.out.1.cell 0 (.bool true) rfl
                      have v1 := R4.out.1.cell 1 u rfl
                      have v2 := R4.out.1.cell 2 (.string (q1)) rfl
                      have p1 := R4.out.1.frozen 1
                      have HO4 := Lib.hid ((hown.kept (StrK.only_below D4.out none) (by by_cases hv : u.ownBlock = none; exact Or.inl hv; exact Or.inr hv)).alloc (Obj.cells #[Value.int .i64 z, Value.slice G xs.length cg] 50))
                      have NXT := Lib.hid (fun w7 v7 ho hg hw => ReadS.more (x := (z, xs)) (G := G) (c := cg) (v := v7) (w5 := w7) HRR.out hgw HGS.out (D4.out.trans (((Below.refl w6.heap.size w6).alloc (Nat.le_refl _) (Obj.cells #[Value.int .i64 z, Value.slice G xs.length cg] 50)).mono D4.out.size)) hes he hn9 hog hdj hown (O4.out.below ((Below.refl w6.heap.size w6).alloc (Nat.le_refl _) (Obj.cells #[Value.int .i64 z, Value.slice G xs.length cg] 50))) (Nat.le_refl _) ho hg hw)
                      have hhl := HHL.out
                      clear hes hown he hn9 hog hdj VH
                      go_wp2_with (at_builtin; refine wpList_append_where rfl (.tmp 85) (.tmp 87) 24 rfl 0 50 i1 (.agg #[.int .i64 0, .slice none 0 0]) 2 32 HU.out HI.out HZ0.out HZ1.out HZ2.out rfl (by decide) _ _ _ rfl HO4.out ⟨w6.heap.size, 0, none⟩ 1 1 [.int .i64 z, .slice G xs.length cg] rfl rfl (cell_two_new _ _ _ _) (by simp [Value.oneCell']) (by unfold maxLen; omega) (by omega) (Nat.zero_le _) ?_; intro v7 w7 hown7 hgrow7 hwh7; (obtain ⟨A7, c7, rfl, _, _, _, _⟩ := RowK.of_own hown7); (have NX := NXT.out w7 _ hown7 hgrow7 hwh7); (have q0 := NX.2.cell 0 (.bool true) rfl); (have q1 := NX.2.cell 1 u rfl); (have qp := NX.2.frozen 1); (have F := Lib.hid NX.1); clear NX hown7 hgrow7 hwh7)
                      go_roundw
                      case rel =>
                        first
                          | exact ⟨k + 1, _, by omega, by go_num, by rw [HSN.out]; exact F.out⟩
                          | (repeat apply Exists.intro; exact ⟨⟨k + 1, _, by omega, by go_num, by rw [HSN.out]; exact F.out⟩, rfl⟩)
                      case measure => simp [intOf]; omega
            · have hkn : k = n := by omega
              have HR2 := HRR.out
              rw [hkn, List.take_of_length_le (by rw [HCN.out]; exact Nat.le_refl _)] at HR2
              have hlf : decide ((k : Int) < (n : Int)) = false := decide_eq_false (by omega)
              have hlf' : decide (k < n) = false := decide_eq_false hlt
              have hsl : (ws.map zS).length + szs ssl (ws.map zS) ≤ 1000000000 := by
                have h1 := zS_szs ws
                rw [List.length_map, HCN.out]
                rw [HCN.out] at h1
                omega
              have hss : ∀ x ∈ ws.map zS, ∀ t ∈ x.2, t.2.size ≤ 9223372036854775807 := fun x hx t ht => by
                obtain ⟨l, _, rfl⟩ := List.mem_map.1 hx
                have := (zS_list l).2 t ht
                omega
              clear HRR
              generalize ws.map zS = hs at *
              obtain ⟨h1, h2, h3, h4, h5⟩ := HR2
              obtain ⟨G, cg, rfl, hO⟩ := h2.ownS (lo := w.heap.size + 1) (by decide) (fun j hj => by have := HGS.out; omega)
              have FO := Lib.hid (formatArg true (q1) G cg hs wr hO.arg hsl hss HBZ.out)
              have O3 := Lib.hid hO
              have V3 := Lib.hid h1
              have L3 := Lib.hid h4
              have B3 := Lib.hid h3
              have hes := Lib.hid (show s.toList = s.data.toList by rw [ByteArray.toList_eq])
              clear h1 h2 h3 h4 h5 hO hsl hss v0 v1 v2 hkn
              have v0 := V3.out.cell 0 (.bool true) rfl
              have v1 := V3.out.cell 1 (.slice G hs.length cg) rfl
              have v2 := V3.out.cell 2 (.string (q1)) rfl
              go_wp2_with fail
              refine (Calls.mono FO.out) ?_
              rintro e w5 ⟨rfl, b5⟩
              have L5 := Lib.hid (L3.out.below b5)
              have V5 := Lib.hid (V3.out.below b5)
              have B5 := Lib.hid (B3.out.trans (b5.mono B3.out.size))
              have O5 := Lib.hid (O3.out.below b5)
              clear b5 L3 V3 FO v0 v1 v2
              have k0 := L5.out.cell 0 (.bool false) rfl
              have k1 := L5.out.cell 1 (.slice none 0 0) rfl
              have k2 := L5.out.cell 2 (.string ByteArray.empty) rfl
              have g0 := L5.out.frozen 0
              have g1 := L5.out.frozen 1
              have g2 := L5.out.frozen 2
              have v0 := V5.out.cell 0 (.bool true) rfl
              have v1 := V5.out.cell 1 (.slice G hs.length cg) rfl
              have v2 := V5.out.cell 2 (.string (q1)) rfl
              by_cases he : FA (true, hs, q1) = s.data.toList
              · have HPS := Lib.hid (show R = some (true, hs, q1) by rw [HR.out, if_pos he])
                have heq : (FA (true, hs, q1) == s.toList) = true := by rw [hes.out, he]; simp
                have mm : Mod w.heap.size (w.heap.size + 1) w5 (((w5.setCell ⟨w.heap.size, 0, none⟩ (.bool true)).setCell ⟨w.heap.size, 1, none⟩ (.slice G hs.length cg)).setCell ⟨w.heap.size, 2, none⟩ (.string (q1))) := ((Mod.set _ (p := ⟨w.heap.size, 0, none⟩) (Nat.le_refl _) (Nat.lt_succ_self _) _).trans (Mod.set _ (p := ⟨w.heap.size, 1, none⟩) (Nat.le_refl _) (Nat.lt_succ_self _) _)).trans (Mod.set _ (p := ⟨w.heap.size, 2, none⟩) (Nat.le_refl _) (Nat.lt_succ_self _) _)
                have FF := Lib.hid (show GaveArgO w (some (true, hs, q1)) (.returned (.tuple #[.agg #[.bool true, .slice G hs.length cg, .string (q1)], .bool true])) _ from ⟨G, cg, rfl, (O5.out.keep mm (Or.inr (Nat.le_refl _))).wider (by omega) (Nat.le_trans O5.out.1 mm.size) (Nat.le_refl _), ((B5.out.setCell (p := ⟨w.heap.size, 0, none⟩) (Nat.le_refl _) _).setCell (p := ⟨w.heap.size, 1, none⟩) (Nat.le_refl _) _).setCell (p := ⟨w.heap.size, 2, none⟩) (Nat.le_refl _) _⟩)
                generalize FA (true, hs, q1) = FT at *
                clear he hes HR mm
                go_wp2
                refine bodyPost_ret (v := .tuple #[.agg #[.bool true, .slice G hs.length cg, .string (q1)], .bool true]) (by simp [results, Tryz.results8, go_sem, k0, k1, k2]; try rfl) rfl ?_
                rw [HPS.out]
                exact FF.out
              · have HPS := Lib.hid (show R = none by rw [HR.out, if_neg he])
                have heq : (FA (true, hs, q1) == s.toList) = false := by rw [hes.out, beq_eq_false_iff_ne]; exact he
                have HZ := Lib.hid (((B5.out.setCell (p := ⟨w.heap.size, 0, none⟩) (Nat.le_refl _) (.bool false)).setCell (p := ⟨w.heap.size, 1, none⟩) (Nat.le_refl _) (.slice none 0 0)).setCell (p := ⟨w.heap.size, 2, none⟩) (Nat.le_refl _) (.string ⟨#[]⟩))
                generalize FA (true, hs, q1) = FT at *
                clear he hes HR
                go_wp2
                refine bodyPost_ret (v := .tuple #[.agg #[.bool false, .slice none 0 0, .string ByteArray.empty], .bool false]) (by simp [results, Tryz.results8, go_sem, k0, k1, k2]; try rfl) rfl ?_
                rw [HPS.out]
                exact gaveA_none HZ.out
        | false =>
          have HR := Lib.hid (HSI.out _ _ (by rw [← HQ.out]; exact formP_int1 hnil hln))
          clear hln v0 v1 v2 f2
          have PS := Lib.hid (parseSum s w5 hsz)
          unfold GaveSumO at PS
          cases hp : parseS s.data.toList with
          | none =>
            rw [hp] at PS HR
            simp only [Option.getD_none, Option.isSome_none, Option.map_none] at PS HR
            go_wp2_with fail
            refine (Calls.mono PS.out) ?_
            rintro e w6 ⟨G, cg, rfl, hO, b6⟩
            have L6 := Lib.hid (L5.out.below b6)
            have B6 := Lib.hid (B5.out.trans (b6.mono B5.out.size))
            clear hO b6 PS
            have k0 := L6.out.cell 0 (.bool false) rfl
            have k1 := L6.out.cell 1 (.slice none 0 0) rfl
            have k2 := L6.out.cell 2 (.string ByteArray.empty) rfl
            have g0 := L6.out.frozen 0
            have g1 := L6.out.frozen 1
            have g2 := L6.out.frozen 2
            have klt := L6.out.lt
            have FL := ((((L6.out).set 0 (.bool false)).set 1 (.slice none 0 0)).set 2 (.string ⟨#[]⟩)).alloc (Obj.cells #[Value.int IntKind.i64 0, Value.slice G 0 cg] 50)
            have m0 := FL.cell 0 (.bool false) rfl
            have m1 := FL.cell 1 (.slice none 0 0) rfl
            have m2 := FL.cell 2 (.string ⟨#[]⟩) rfl
            clear FL
            go_wp2
            refine bodyPost_ret (v := .tuple #[.agg #[.bool false, .slice none 0 0, .string ByteArray.empty], .bool false]) (by simp [results, Tryz.results8, go_sem, m0, m1, m2]; try rfl) rfl ?_
            rw [HR.out]
            refine gaveA_none ?_
            have hs9 := B6.out.size
            repeat first
              | exact B6.out
              | refine Below.setCell ?_ (by simp <;> omega) _
              | refine Below.alloc ?_ (by simp <;> omega) _
          | some x =>
            obtain ⟨z, xs⟩ := x
            rw [hp] at PS HR
            simp only [Option.getD_some, Option.isSome_some, Option.map_some] at PS HR
            go_wp2_with fail
            refine (Calls.mono PS.out) ?_
            rintro e w6 ⟨G, cg, rfl, hO, b6⟩
            have tb := (Below.refl w6.heap.size w6).alloc (Nat.le_refl _) (Obj.cells #[Value.int .i64 z, Value.slice G xs.length cg] 50)
            have VH := Lib.hid (Lvar.new w6 #[Value.int .i64 z, Value.slice G xs.length cg] 50)
            have L7 := Lib.hid ((L5.out.below b6).below tb)
            have B7 := Lib.hid ((B5.out.trans (b6.mono B5.out.size)).trans (tb.mono (B5.out.trans (b6.mono B5.out.size)).size))
            have O7 := Lib.hid (hO.below tb)
            have H7 := Lib.hid (show w.heap.size + 1 ≤ w5.heap.size ∧ w5.heap.size ≤ (w6.alloc (Obj.cells #[Value.int .i64 z, Value.slice G xs.length cg] 50)).heap.size ∧ w6.heap.size ≤ (w6.alloc (Obj.cells #[Value.int .i64 z, Value.slice G xs.length cg] 50)).heap.size from ⟨by have := HS5.out; omega, by have := b6.size; simp; omega, by simp⟩)
            clear hO b6 PS tb
            go_upto_region 9 with fail
            generalize w6.alloc (Obj.cells #[Value.int .i64 z, Value.slice G xs.length cg] 50) = w7 at *
            have c0 := VH.out.cell 0 (.int .i64 z) rfl
            have c1 := VH.out.cell 1 (.slice G xs.length cg) rfl
            have k0 := L7.out.cell 0 (.bool false) rfl
            have k1 := L7.out.cell 1 (.slice none 0 0) rfl
            have k2 := L7.out.cell 2 (.string ByteArray.empty) rfl
            have g0 := L7.out.frozen 0
            have g1 := L7.out.frozen 1
            have g2 := L7.out.frozen 2
            have klt := L7.out.lt
            have FL := ((((L7.out).set 0 (.bool false)).set 1 (.slice (some ⟨w7.heap.size, 0, none⟩) 1 1)).set 2 (.string ⟨#[]⟩)).alloc (Obj.cells #[Value.int IntKind.i64 z, Value.slice G xs.length cg] 50)
            have m0 := FL.cell 0 (.bool false) rfl
            have m1 := FL.cell 1 (.slice (some ⟨w7.heap.size, 0, none⟩) 1 1) rfl
            have m2 := FL.cell 2 (.string ⟨#[]⟩) rfl
            have OS := one_sum (x := (z, xs)) O7.out (by have := H7.out; omega) (by have := H7.out; omega)
            have mm : Mod w.heap.size (w.heap.size + 1) (w7.alloc (Obj.cells #[Value.int .i64 z, Value.slice G xs.length cg] 50)) ((((w7.alloc (Obj.cells #[Value.int .i64 z, Value.slice G xs.length cg] 50)).setCell ⟨w.heap.size, 0, none⟩ (.bool false)).setCell ⟨w.heap.size, 1, none⟩ (.slice (some ⟨w7.heap.size, 0, none⟩) 1 1)).setCell ⟨w.heap.size, 2, none⟩ (.string ⟨#[]⟩)) := ((Mod.set _ (p := ⟨w.heap.size, 0, none⟩) (Nat.le_refl _) (Nat.lt_succ_self _) _).trans (Mod.set _ (p := ⟨w.heap.size, 1, none⟩) (Nat.le_refl _) (Nat.lt_succ_self _) _)).trans (Mod.set _ (p := ⟨w.heap.size, 2, none⟩) (Nat.le_refl _) (Nat.lt_succ_self _) _)
            have FF : GaveArgO w (some (false, [(z, xs)], ByteArray.empty)) (.returned (.tuple #[.agg #[.bool false, .slice (some ⟨w7.heap.size, 0, none⟩) 1 1, .string ⟨#[]⟩], .bool true])) ((((w7.alloc (Obj.cells #[Value.int .i64 z, Value.slice G xs.length cg] 50)).setCell ⟨w.heap.size, 0, none⟩ (.bool false)).setCell ⟨w.heap.size, 1, none⟩ (.slice (some ⟨w7.heap.size, 0, none⟩) 1 1)).setCell ⟨w.heap.size, 2, none⟩ (.string ⟨#[]⟩)) :=
              ⟨some ⟨w7.heap.size, 0, none⟩, 1, rfl, (OS.keep mm (Or.inr (by have := H7.out; omega))).wider (by have := H7.out; omega) (by have := mm.size; simp at this ⊢) (by simp), ((((B7.out.alloc B7.out.size _).setCell (p := ⟨w.heap.size, 0, none⟩) (Nat.le_refl _) _).setCell (p := ⟨w.heap.size, 1, none⟩) (Nat.le_refl _) _).setCell (p := ⟨w.heap.size, 2, none⟩) (Nat.le_refl _) _)⟩
            rw [World.setCell_alloc_past _ _ _ _ klt, World.setCell_alloc_past _ _ _ _ (by simpa using klt), World.setCell_alloc_past _ _ _ _ (by simpa using klt)] at FF
            have FF := Lib.hid FF
            clear FL OS mm
            go_wp2
            refine bodyPost_ret (v := .tuple #[.agg #[.bool false, .slice (some ⟨w7.heap.size, 0, none⟩) 1 1, .string ⟨#[]⟩], .bool true]) (by simp [results, Tryz.results8, go_sem, m0, m1, m2]; try rfl) rfl ?_
            rw [HR.out]
            exact FF.out
end ArgP
end Go.Proofs.YtiilopfhlmeaoaaGreatDoor
