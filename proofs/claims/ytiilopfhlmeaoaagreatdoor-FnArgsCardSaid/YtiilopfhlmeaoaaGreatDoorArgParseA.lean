import Derived.Test.YtiilopfhlmeaoaaGreatDoorArgParse
import Derived.Test.YtiilopfhlmeaoaaGreatDoorArgImpl2
import Derived.Test.YtiilopfhlmeaoaaGreatDoorArgMath2
import Derived.Deep.RegionLaw
/-
  impl.ParseArg: the argument whose representation the text is.
-/
namespace Go.Proofs.YtiilopfhlmeaoaaGreatDoor
open Go.RowKit
namespace ArgI
open RowK Mem ArgM TextM TextI CutI

/-- An argument in new memory, or none. -/
def GaveArgO (w : World) (o : Option Ag) (e : Ending) (w' : World) : Prop :=
  ∃ A c, e = .returned (.tuple #[.agg #[.bool (o.getD (false, [], ByteArray.empty)).1, .slice A (o.getD (false, [], ByteArray.empty)).2.1.length c, .string (o.getD (false, [], ByteArray.empty)).2.2], .bool o.isSome]) ∧
    OwnS Mem.sum w.heap.size w'.heap.size w' A (o.getD (false, [], ByteArray.empty)).2.1.length c (o.getD (false, [], ByteArray.empty)).2.1 ∧ Below w.heap.size w w'
theorem gaveA_none {w w' : World} (hb : Below w.heap.size w w') : GaveArgO w none (.returned (.tuple #[.agg #[.bool false, .slice none 0 0, .string ByteArray.empty], .bool false])) w' :=
  ⟨none, 0, rfl, OwnS.nil _ _ _ _ (Nat.le_refl _), hb⟩

theorem split_len : ∀ (n : Nat) (s : List UInt8), s.length ≤ n → (ArgSp.spl s).length = Lib.count s ArgSp.sep + 1 := by
  intro n
  induction n with
  | zero =>
    intro s h
    obtain rfl : s = [] := List.eq_nil_of_length_eq_zero (by omega)
    rw [ArgSp.spl_none (by simp), Lib.count_miss (ArgSp.index_none' (by simp))]
    rfl
  | succ n ih =>
    intro s h
    rcases Lib.index_spec s ArgSp.sep with ⟨e, _⟩ | ⟨i, e, _, _, _⟩
    · unfold ArgSp.spl
      rw [Lib.count_miss e]
      rfl
    · have hm : ¬ (Lib.index s ArgSp.sep == -1) = true := fun e' => by have := beq_iff_eq.1 e'; omega
      have hd := Lib.drop_shorter (sub := ArgSp.sep) (by simp) hm
      rw [e, Int.toNat_natCast] at hd
      have h2 := ih (s.drop (i + ArgSp.sep.length)) (by omega)
      unfold ArgSp.spl at h2 ⊢
      rw [Lib.count_hit (by simp) e, Nat.add_comm 1, Lib.splitK, if_neg hm, e, Int.toNat_natCast, List.length_cons, h2]
/-- The parts, in memory. -/
theorem split_parts (s : ByteArray) (w : World) (hs : s.size ≤ 1048576) (henv : Env w) :
    Calls Tryz.prog 21 #[.string s, .string ⟨#[32, 58, 32]⟩] w fun e w' => ∃ (P : List ByteArray) (A : Option Addr) (c : Nat), e = .returned (.slice A P.length c) ∧ P.map (fun p => p.data.toList) = ArgSp.spl s.data.toList ∧ StrK.SRow w' A P ∧ P ≠ [] ∧ P.length ≤ 1048578 ∧ P.length ≤ c ∧ (∀ a, A = some a → w.heap.size ≤ a.block) ∧ Below w.heap.size w w' := by
  obtain ⟨m, hm⟩ := henv.len
  refine (Tryz.strings_Split s ⟨#[32, 58, 32]⟩ m w (by omega) hm (by decide)).mono ?_
  rintro e w' ⟨rfl, rfl⟩
  have hd : (Lib.splitB ⟨#[32, 58, 32]⟩ 0 (Lib.countB s ⟨#[32, 58, 32]⟩) s).map (fun p => p.data.toList) = ArgSp.spl s.data.toList := Lib.splitB_data _ _ _ _
  have hl : (Lib.splitB ⟨#[32, 58, 32]⟩ 0 (Lib.countB s ⟨#[32, 58, 32]⟩) s).length = Lib.countB s ⟨#[32, 58, 32]⟩ + 1 := by
    have h1 := congrArg List.length hd
    rw [List.length_map, split_len _ _ (Nat.le_refl _)] at h1
    exact h1
  have hl2 : (Lib.splitB ⟨#[32, 58, 32]⟩ 0 (Lib.countB s ⟨#[32, 58, 32]⟩) s).length ≤ 1048578 := by
    have h1 := congrArg List.length hd
    rw [List.length_map] at h1
    have h2 := ArgSp.spl_len s.data.toList
    rw [size_list] at h2
    omega
  refine ⟨Lib.splitB ⟨#[32, 58, 32]⟩ 0 (Lib.countB s ⟨#[32, 58, 32]⟩) s, _, _, by rw [hl], hd, fun _ => ⟨w.heap.size, 0, rfl, by simp, fun j p hj => ?_⟩, fun e => by rw [e] at hl; simp at hl, hl2, Nat.le_of_eq hl, fun a e => by injection e with e; subst e; exact Nat.le_refl _, (Below.refl _ _).alloc (Nat.le_refl _) _⟩
  rw [World.cell?_alloc_at _ _ _ _ rfl]
  simp [hj]

theorem srow_modS {w w' : World} {A : Option Addr} {ss : List ByteArray} {lo hi : Nat} (h : StrK.SRow w A ss) (m : Mod lo hi w w') (hd : ∀ a, A = some a → hi ≤ a.block) : StrK.SRow w' A ss := fun hn => by
  obtain ⟨b, o, rfl, hlt, hc⟩ := h hn
  exact ⟨b, o, rfl, Nat.lt_of_lt_of_le hlt m.size, fun j s hj => by rw [World.cell?_of_block (w := w) (m.block b hlt (Or.inr (hd _ rfl)))]; exact hc j s hj⟩
theorem srow_take {w : World} {A : Option Addr} {ss : List ByteArray} (h : StrK.SRow w A ss) (n : Nat) : StrK.SRow w A (ss.take n) := fun hn => by
  obtain ⟨b, o, rfl, hlt, hc⟩ := h (fun e => hn (by rw [e]; simp))
  refine ⟨b, o, rfl, hlt, fun j s hj => hc j s ?_⟩
  rw [List.getElem?_take] at hj
  split at hj
  · exact hj
  · cases hj
/-- The argument so far, in its variable; the parts lie in older memory. -/
def Reading (w wS : World) (p : Bool) (b : ByteArray) (hs : List Sm) (u : Value) (wr : World) : Prop :=
  Lvar wr (w.heap.size + 1) #[.bool p, u, .string b] ∧ Owned Mem.sum 50 (fun g => wS.heap.size ≤ g) wr u hs ∧ Below w.heap.size w wr ∧ Lvar wr w.heap.size #[.bool false, .slice none 0 0, .string ByteArray.empty] ∧ Mod (w.heap.size + 1) (w.heap.size + 2) wS wr
theorem Reading.below {w wS wr w' : World} {p : Bool} {b : ByteArray} {hs : List Sm} {u : Value} (h : Reading w wS p b hs u wr) (hb : Below wr.heap.size wr w') : Reading w wS p b hs u w' :=
  ⟨h.1.below hb, h.2.1.below hb, h.2.2.1.trans (hb.mono h.2.2.1.size), h.2.2.2.1.below hb, h.2.2.2.2.trans (Mod.of_below hb)⟩
theorem sum_closed {w : World} {lo hi c : Nat} {G : Option Addr} {x : Sm} (h : OwnS term lo hi w G x.2.length c x.2) : ∃ fp, Mem.sum.rep true w fp [.int .i64 x.1, .slice G x.2.length c] x ∧ fp.Nodup ∧ ∀ b ∈ fp, lo ≤ b ∧ b < hi := by
  obtain ⟨_, fp, h1, h2, h3⟩ := h
  exact ⟨fp, ⟨[], fp, _, _, rfl, rfl, ⟨rfl, rfl⟩, h1⟩, h2, h3⟩
/-- One head more. w4: the world ahead of the append, w5: behind it. -/
theorem Reading.more {w wS wr w4 w5 : World} {p : Bool} {b : ByteArray} {hs : List Sm} {u v : Value} {x : Sm} {G : Option Addr} {c lo hi : Nat} {es : List (El Sm)} (h : Reading w wS p b hs u wr) (hw : w.heap.size + 2 ≤ wS.heap.size) (h4 : Below wr.heap.size wr w4)
    (hes : vals es = hs) (he : ∀ y ∈ es, Mem.sum.rep true wr y.1 y.2.1 y.2.2) (hn : (fps es).Nodup) (hog : ∀ g, u.ownBlock = some g → wS.heap.size ≤ g) (hd : ∀ g ∈ fps es, wS.heap.size ≤ g ∧ u.ownBlock ≠ some g) (hown0 : wr.ownsRow 0 50 2 u hs.length (cells es))
    (hO : OwnS term lo hi w4 G x.2.length c x.2) (hlo : wr.heap.size ≤ lo) (ho : w5.ownsRow 0 50 2 v (hs.length + 1) (cells es ++ [.int .i64 x.1, .slice G x.2.length c])) (hg : w4.grownBy w5 u.ownBlock) (hv : v.ownBlock = u.ownBlock ∨ ∀ g, v.ownBlock = some g → w4.heap.size ≤ g) :
    Reading w wS p b (hs ++ [x]) v (w5.setCell ⟨w.heap.size + 1, 1, none⟩ v) ∧ Lvar w5 (w.heap.size + 1) #[.bool p, u, .string b] := by
  have h' := h.below h4
  have hws := h.2.2.2.2.size
  have hne : ∀ g, g < wS.heap.size → u.ownBlock ≠ some g := fun g hg e => by have := hog g e; omega
  have hl := lvar_grown h'.1 hg (hne _ (by omega))
  obtain ⟨fp, q1, q2, q3⟩ := sum_closed hO
  have hlt : ∀ g ∈ fps es, g < wr.heap.size := fun g hg => by
    obtain ⟨y, h6, h7⟩ := List.mem_flatMap.1 hg
    exact Mem.sum.lt (he y h6) g h7
  have RR := Owned.snoc (ok := fun g => wS.heap.size ≤ g) (r := Mem.sum) (m := wr.heap.size) hes (fun y hy => Rep.below (he y hy) h4) hlt hn hd (fun g e => ⟨hog g e, (hown0.lt g e).2⟩) q1 q2 (fun g hg => Nat.le_trans hlo (q3 g hg).1) (fun g hg => Nat.le_trans hws hg) ho hg hv h4.size
  have hm : Mod (w.heap.size + 1) (w.heap.size + 2) wS w5 := by
    obtain ⟨m1, m2, m3, m4, m5⟩ := h'.2.2.2.2
    exact ⟨hg.os.trans m1, hg.tape.trans m2, hg.output.trans m3, Nat.le_trans m4 hg.size, fun i hi hn => (hg.block i (Nat.lt_of_lt_of_le hi m4) (fun e => hne i hi e.symm)).trans (m5 i hi hn)⟩
  exact ⟨⟨by simpa using hl.set 1 v, RR.set (b := w.heap.size + 1) (by show ¬ (wS.heap.size ≤ w.heap.size + 1); omega) 1 v, (h'.2.2.1.grown hg h'.2.2.1.size (fun j hj => by have := hog j hj; omega)).setCell (p := ⟨w.heap.size + 1, 1, none⟩) (Nat.le_succ _) _, (lvar_grown h'.2.2.2.1 hg (hne _ (by omega))).other (p := ⟨w.heap.size + 1, 1, none⟩) (by show w.heap.size ≠ w.heap.size + 1; omega) _, hm.trans (Mod.set _ (p := ⟨w.heap.size + 1, 1, none⟩) (Nat.le_refl _) (Nat.lt_succ_self _) _)⟩, hl⟩

set_option maxHeartbeats 2000000 in
set_option maxRecDepth 100000 in
theorem parseArg (s : ByteArray) (w : World) (hsz : s.size ≤ 1048576) (henv : Env w) :
    Calls Tryz.prog 7 #[.string s] w (GaveArgO w (parseA s.data.toList)) := by
  rw [progA_eq]
  obtain ⟨i1, hi, hz0, hz1, hz2⟩ := info_parts sumInfo
  have HI := Lib.hid hi
  have HZ0 := Lib.hid hz0
  have HZ1 := Lib.hid hz1
  have HZ2 := Lib.hid hz2
  have HU := Lib.hid Tryz.underlying24
  clear hi hz0 hz1 hz2
  have B0 := Lib.hid (((Below.refl w.heap.size w).alloc (Nat.le_refl _) (Obj.cells #[Value.bool false, Value.slice none 0 0, Value.string ByteArray.empty] 26)).alloc (by simp) (Obj.cells #[Value.bool false, Value.slice none 0 0, Value.string ByteArray.empty] 26))
  have L0 := Lib.hid ((Lvar.new w #[Value.bool false, Value.slice none 0 0, Value.string ByteArray.empty] 26).alloc (Obj.cells #[Value.bool false, Value.slice none 0 0, Value.string ByteArray.empty] 26))
  have V0' := Lvar.new (w.alloc (Obj.cells #[Value.bool false, Value.slice none 0 0, Value.string ByteArray.empty] 26)) #[Value.bool false, Value.slice none 0 0, Value.string ByteArray.empty] 26
  rw [World.size_alloc] at V0'
  have V0 := Lib.hid V0'
  clear V0'
  have SP := Lib.hid (fun W (h : Below w.heap.size w W) => split_parts s W hsz (henv.below h))
  go_enter Tryz.func7, Tryz.ntmps7
  go_wp2_with fail
  refine (Calls.mono (SP.out _ B0.out)) ?_
  rintro e w2 ⟨P, A, c, rfl, hP, hR, hne, hlen, hcap, hGW, b2⟩
  have L2 := Lib.hid (L0.out.below b2)
  have V2 := Lib.hid (V0.out.below b2)
  have B2 := Lib.hid (B0.out.trans (b2.mono B0.out.size))
  have hz2 := b2.size
  simp only [World.size_alloc] at hz2
  have HR := Lib.hid hR
  obtain ⟨n, hn⟩ : ∃ n, P.length = n + 1 := ⟨P.length - 1, by have := List.length_pos_iff.2 hne; omega⟩
  have hnl : n < P.length := by omega
  obtain ⟨bw, ow, rfl, hbw, hcw⟩ := hR.at_ hnl
  have HP := Lib.hid hP
  have hn1 : (P.length : Int) - 1 = (n : Int) := by omega
  have hn0 : (0 : Int) ≤ (n : Int) := by omega
  have hn2 : (n : Int) < (P.length : Int) := by omega
  have v0 := V2.out.cell 0 (.bool false) rfl
  have v1 := V2.out.cell 1 (.slice none 0 0) rfl
  have v2 := V2.out.cell 2 (.string ByteArray.empty) rfl
  have f0 := V2.out.frozen 0
  have f1 := V2.out.frozen 1
  have f2 := V2.out.frozen 2
  have GW := Lib.hid (show w.heap.size + 2 ≤ bw from by have := hGW _ rfl; simpa using this)
  have HQS := Lib.hid (fun q (h : q ∈ P) => show q.size ≤ 1048576 from by
    have h1 : q.data.toList ∈ ArgSp.spl s.data.toList := by rw [← hP]; exact List.mem_map.2 ⟨q, h, rfl⟩
    have h2 := ArgSp.spl_part _ h1
    rw [size_list, size_list] at h2
    omega)
  clear b2 hR hP SP L0 V0 B0
  have hlast : (ArgSp.spl s.data.toList).getLast?.getD [] = (P[n]).data.toList := by
    rw [← HP.out, List.getLast?_map, List.getLast?_eq_getElem?, hn]
    simp [List.getElem?_eq_getElem hnl]
  have HQ0 := Lib.hid (show (P.take n).map (fun p => p.data.toList) = (ArgSp.spl s.data.toList).dropLast by rw [← HP.out, List.dropLast_eq_take, List.length_map, hn, List.map_take]; rfl)
  have HLA := Lib.hid hlast
  clear hlast
  have HQM := Lib.hid (List.getElem_mem hnl)
  generalize P[n] = q at *
  have hq8 : q.toList = q.data.toList := by rw [ByteArray.toList_eq]
  by_cases hnil : q.data.toList = nilT
  · have heq : (q.toList == [110, 105, 108]) = true := by rw [hq8, hnil]; rfl
    have HF := Lib.hid (show formP (ArgSp.spl s.data.toList) = (true, ByteArray.empty, (P.take n).map (fun p => p.data.toList)) by rw [HQ0.out, formP, HLA.out, if_pos hnil])
    clear hq8
    have hc1 : n ≤ c := by omega
    have hc2 : (n : Int) ≤ (c : Int) := by omega
    go_wp2_with fail
    go_region_law (fail)
    all_goals
      go_wp2
      have HS0 := Lib.hid (show headsP (((P.take n).take 0).map fun p => p.data.toList) = some [] from by simp [headsP])
      have RW := Lib.hid (show StrK.SRow (w2.setCell ⟨w.heap.size + 1, 0, none⟩ (.bool true)).drew (some ⟨bw, ow, none⟩) (P.take n) from srow_take (srow_modS HR.out ((Mod.set w2 (p := ⟨w.heap.size + 1, 0, none⟩) (Nat.le_refl _) (Nat.lt_succ_self _) (.bool true)).drew) (fun a e => by injection e with e; subst e; exact GW.out)) n)
      have HRD := Lib.hid (show Reading w (w2.setCell ⟨w.heap.size + 1, 0, none⟩ (.bool true)).drew true ByteArray.empty [] (.slice none 0 0) (w2.setCell ⟨w.heap.size + 1, 0, none⟩ (.bool true)).drew from ⟨by simpa using (V2.out.set 0 (.bool true)).below (Below.refl _ _).drew, Owned.nil _ _ _ _, (B2.out.setCell (p := ⟨w.heap.size + 1, 0, none⟩) (Nat.le_succ _) _).drew, (L2.out.other (p := ⟨w.heap.size + 1, 0, none⟩) (by show w.heap.size ≠ w.heap.size + 1; omega) _).below (Below.refl _ _).drew, Mod.refl _ _ _⟩)
      have HWS := Lib.hid (show w.heap.size + 2 ≤ ((w2.setCell ⟨w.heap.size + 1, 0, none⟩ (.bool true)).drew).heap.size from by simp [World.setCell, World.drew]; omega)
      have HQL := Lib.hid (show (P.take n).length = n from by rw [List.length_take]; omega)
      have HQZ := Lib.hid (fun q (h : q ∈ (P.take n)) => show q.size ≤ 1048576 from HQS.out q (List.mem_of_mem_take h))
      generalize (w2.setCell ⟨w.heap.size + 1, 0, none⟩ (.bool true)).drew = wS at *
      clear v0 v1 v2 f0 f1 f2
      generalize (P.take n) = Q at *
      go_loopw [43] (fun i wr => ∃ (k : Nat) (hs : List Sm) (u : Value), k ≤ n ∧ i = .int .i64 k ∧ headsP ((Q.take k).map fun p => p.data.toList) = some hs ∧ Reading w wS true ByteArray.empty hs u wr) (fun i _ => n - (intOf i).toNat)
      case atStart => exact ⟨0, [], _, Nat.zero_le _, rfl, HS0.out, HRD.out⟩
      case round =>
        obtain ⟨k, hs, u, hk, rfl, hh, hR⟩ := hrel
        have HH := Lib.hid hh
        have HR := Lib.hid hR
        have RWr := Lib.hid (srow_modS RW.out hR.2.2.2.2 (fun a e => by injection e with e; subst e; exact GW.out))
        have hsz := hR.2.2.2.2.size
        have v0 := hR.1.cell 0 (.bool true) rfl
        have v1 := hR.1.cell 1 u rfl
        have v2 := hR.1.cell 2 (.string ByteArray.empty) rfl
        clear hh hR HS0 HRD
        by_cases hlt : k < n
        · have hlt' : k < Q.length := by rw [HQL.out]; exact hlt
          obtain ⟨bq, oq, eq, hbq, hcq⟩ := RWr.out.at_ hlt'
          injection eq with eq; injection eq with eq1 eq2; subst eq1; subst eq2
          have hqz := HQZ.out _ (List.getElem_mem hlt')
          have HTK := Lib.hid (show (Q.take (k + 1)).map (fun p => p.data.toList) = (Q.take k).map (fun p => p.data.toList) ++ [Q[k].data.toList] by rw [take_snoc hlt', List.map_append]; rfl)
          have HMQ := Lib.hid (show Q[k].data.toList ∈ Q.map (fun p => p.data.toList) from List.mem_map.2 ⟨_, List.getElem_mem hlt', rfl⟩)
          have hi0 : (0 : Int) ≤ (k : Int) := by omega
          have hi1 : (k : Int) < (n : Int) := by omega
          generalize Q[k] = q2 at *
          have PS := Lib.hid (parseSum q2 wr hqz (henv.below HR.out.2.2.1))
          unfold GaveSumO at PS
          cases hp : parseS q2.data.toList with
          | none =>
            have HPN := Lib.hid (show progA s.data.toList = none by unfold progA; rw [HF.out]; simp only; rw [headsP_bad HMQ.out hp])
            rw [hp] at PS
            simp only [Option.getD_none, Option.isSome_none] at PS
            go_wp2_with fail
            refine (Calls.mono PS.out) ?_
            rintro e w3 ⟨G, cg, rfl, hO, b3⟩
            have HR3 := Lib.hid (HR.out.below b3)
            clear hO b3 HR PS v0 v1 v2
            have k0 := HR3.out.2.2.2.1.cell 0 (.bool false) rfl
            have k1 := HR3.out.2.2.2.1.cell 1 (.slice none 0 0) rfl
            have k2 := HR3.out.2.2.2.1.cell 2 (.string ByteArray.empty) rfl
            have g0 := HR3.out.2.2.2.1.frozen 0
            have g1 := HR3.out.2.2.2.1.frozen 1
            have g2 := HR3.out.2.2.2.1.frozen 2
            have klt := HR3.out.2.2.2.1.lt
            have FL := ((((HR3.out.2.2.2.1).set 0 (.bool false)).set 1 (.slice none 0 0)).set 2 (.string ⟨#[]⟩)).alloc (Obj.cells #[Value.int IntKind.i64 0, Value.slice G 0 cg] 50)
            have m0 := FL.cell 0 (.bool false) rfl
            have m1 := FL.cell 1 (.slice none 0 0) rfl
            have m2 := FL.cell 2 (.string ⟨#[]⟩) rfl
            clear FL
            go_wp2
            refine bodyPost_ret (v := .tuple #[.agg #[.bool false, .slice none 0 0, .string ByteArray.empty], .bool false]) (by simp [results, Tryz.results7, go_sem, m0, m1, m2]; try rfl) rfl ?_
            rw [HPN.out]
            refine gaveA_none ?_
            have hs9 := HR3.out.2.2.1.size
            repeat first
              | exact HR3.out.2.2.1
              | refine Below.setCell ?_ (by simp <;> omega) _
              | refine Below.alloc ?_ (by simp <;> omega) _
          | some x =>
            obtain ⟨z, xs⟩ := x
            have HSN := Lib.hid (show headsP ((Q.take (k + 1)).map fun p => p.data.toList) = some (hs ++ [(z, xs)]) by rw [HTK.out]; exact headsP_snoc HH.out hp)
            rw [hp] at PS
            simp only [Option.getD_some, Option.isSome_some] at PS
            go_wp2_with fail
            refine (Calls.mono PS.out) ?_
            rintro e w3 ⟨G, cg, rfl, hO, b3⟩
            have ta := (Below.refl w3.heap.size w3).alloc (Nat.le_refl _) (Obj.cells #[Value.int .i64 z, Value.slice G xs.length cg] 50)
            have VH := Lvar.new w3 #[Value.int .i64 z, Value.slice G xs.length cg] 50
            have R4 := Lib.hid ((HR.out.below b3).below ta)
            have O4 := Lib.hid (hO.below ta)
            have D4 := Lib.hid (b3.trans (ta.mono b3.size))
            have hz3 := b3.size
            have HHL := Lib.hid (show hs.length ≤ 1048578 by
              have h1 := congrArg List.length (headsP_some HH.out).1
              have h2 := HQL.out
              rw [List.length_map, List.length_map, List.length_take] at h1
              omega)
            clear v0 v1 v2 b3 ta PS hO
            go_upto_region 14 with fail
            generalize w3.alloc (Obj.cells #[Value.int .i64 z, Value.slice G xs.length cg] 50) = w4 at *
            obtain ⟨es, hes, hown, he, hn9, hog, hdj⟩ := HR.out.2.1
            have hown : wr.ownsRow 0 50 2 u hs.length (cells es) := hown
            have c0 := VH.cell 0 (.int .i64 z) rfl
            have c1 := VH.cell 1 (.slice G xs.length cg) rfl
            have v0 := R4.out.1.cell 0 (.bool true) rfl
            have v1 := R4.out.1.cell 1 u rfl
            have v2 := R4.out.1.cell 2 (.string ByteArray.empty) rfl
            have p1 := R4.out.1.frozen 1
            have HO4 := Lib.hid ((hown.kept (StrK.only_below D4.out none) (by by_cases hv : u.ownBlock = none; exact Or.inl hv; exact Or.inr hv)).alloc (Obj.cells #[Value.int .i64 z, Value.slice G xs.length cg] 50))
            have NXT := Lib.hid (fun w5 v5 ho hg hw => Reading.more (x := (z, xs)) (G := G) (c := cg) (v := v5) (w5 := w5) HR.out HWS.out (D4.out.trans (((Below.refl w4.heap.size w4).alloc (Nat.le_refl _) (Obj.cells #[Value.int .i64 z, Value.slice G xs.length cg] 50)).mono D4.out.size)) hes he hn9 hog hdj hown (O4.out.below ((Below.refl w4.heap.size w4).alloc (Nat.le_refl _) (Obj.cells #[Value.int .i64 z, Value.slice G xs.length cg] 50))) (Nat.le_refl _) ho hg hw)
            have hhl := HHL.out
            clear hes hown he hn9 hog hdj VH
            go_wp2_with (at_builtin; refine wpList_append_where rfl (.tmp 56) (.tmp 58) 24 rfl 0 50 i1 (.agg #[.int .i64 0, .slice none 0 0]) 2 32 HU.out HI.out HZ0.out HZ1.out HZ2.out rfl (by decide) _ _ _ rfl HO4.out ⟨w4.heap.size, 0, none⟩ 1 1 [.int .i64 z, .slice G xs.length cg] rfl rfl (cell_two_new _ _ _ _) (by simp [Value.oneCell']) (by unfold maxLen; omega) (by omega) (Nat.zero_le _) ?_; intro v5 w5 hown5 hgrow5 hwh5; (obtain ⟨A5, c5, rfl, _, _, _, _⟩ := RowK.of_own hown5); (have NX := NXT.out w5 _ hown5 hgrow5 hwh5); (have q0 := NX.2.cell 0 (.bool true) rfl); (have q1 := NX.2.cell 1 u rfl); (have qp := NX.2.frozen 1); (have F := Lib.hid NX.1); clear NX hown5 hgrow5 hwh5)
            go_roundw
            case rel => exact ⟨k + 1, _, _, by omega, by go_num, HSN.out, F.out⟩
            case measure => simp [intOf]; omega
        · obtain rfl : k = n := by omega
          have HHE := Lib.hid (show headsP (Q.map fun p => p.data.toList) = some hs by have := HH.out; rwa [List.take_of_length_le (by rw [HQL.out]; exact Nat.le_refl _)] at this)
          have hsv := (headsP_some HHE.out).2
          have hhl : hs.length ≤ 1048578 := by
            have h1 := congrArg List.length (headsP_some HHE.out).1
            have h2 := HQL.out
            rw [List.length_map, List.length_map] at h1
            omega
          have hsl : hs.length + szs ssl hs ≤ 1000000000 := by
            have gen : ∀ zs : List Sm, (∀ h ∈ zs, h.2.length ≤ 4) → szs ssl zs ≤ 4 * zs.length := by
              intro zs
              induction zs with
              | nil => intro _; exact Nat.le_refl _
              | cons x zs ih =>
                intro hx
                have h4 := ih (fun t ht => hx t (List.mem_cons_of_mem _ ht))
                have h5 := hx x List.mem_cons_self
                rw [szs_cons, List.length_cons]
                unfold ssl at h4 ⊢
                omega
            have := gen hs (fun h hm => (sumV_iff.1 (hsv h hm).1).2.1)
            omega
          have hss : ∀ x ∈ hs, ∀ t ∈ x.2, t.2.size ≤ 9223372036854775807 := fun x hx t ht => by
            have := (valid_shape (intName_valid (termV_iff.1 ((sumV_iff.1 (hsv x hx).1).2.2.1 t ht)).2.2)).2
            omega
          obtain ⟨h1, h2, h3, h4, h5⟩ := HR.out
          obtain ⟨G, cg, rfl, hO⟩ := h2.ownS (lo := w.heap.size + 1) (by decide) (fun g hg => by have := HWS.out; omega)
          have VA := Lib.hid (validArg true G cg hs ByteArray.empty wr hO.arg hsl hss (by decide))
          have O3 := Lib.hid hO
          have V3 := Lib.hid h1
          have L3 := Lib.hid h4
          have B3 := Lib.hid h3
          clear h1 h2 h3 h4 h5 hO HR hsv hsl hss v0 v1 v2
          have v0 := V3.out.cell 0 (.bool true) rfl
          have v1 := V3.out.cell 1 (.slice G hs.length cg) rfl
          have v2 := V3.out.cell 2 (.string ByteArray.empty) rfl
          have HPA := Lib.hid (show progA s.data.toList = if argV (true, hs, ByteArray.empty) = true then some (true, hs, ByteArray.empty) else none by unfold progA; rw [HF.out]; simp only; rw [HHE.out])
          go_wp2_with fail
          refine (Calls.mono VA.out) ?_
          rintro e w3 ⟨rfl, b3⟩
          have L4 := Lib.hid (L3.out.below b3)
          have V4 := Lib.hid (V3.out.below b3)
          have B4 := Lib.hid (B3.out.trans (b3.mono B3.out.size))
          have O4 := Lib.hid (O3.out.below b3)
          clear b3 L3 V3 VA v0 v1 v2
          have k0 := L4.out.cell 0 (.bool false) rfl
          have k1 := L4.out.cell 1 (.slice none 0 0) rfl
          have k2 := L4.out.cell 2 (.string ByteArray.empty) rfl
          have g0 := L4.out.frozen 0
          have g1 := L4.out.frozen 1
          have g2 := L4.out.frozen 2
          have v0 := V4.out.cell 0 (.bool true) rfl
          have v1 := V4.out.cell 1 (.slice G hs.length cg) rfl
          have v2 := V4.out.cell 2 (.string ByteArray.empty) rfl
          have mm : Mod w.heap.size (w.heap.size + 1) w3 (((w3.setCell ⟨w.heap.size, 0, none⟩ (.bool true)).setCell ⟨w.heap.size, 1, none⟩ (.slice G hs.length cg)).setCell ⟨w.heap.size, 2, none⟩ (.string ByteArray.empty)) := ((Mod.set _ (p := ⟨w.heap.size, 0, none⟩) (Nat.le_refl _) (Nat.lt_succ_self _) _).trans (Mod.set _ (p := ⟨w.heap.size, 1, none⟩) (Nat.le_refl _) (Nat.lt_succ_self _) _)).trans (Mod.set _ (p := ⟨w.heap.size, 2, none⟩) (Nat.le_refl _) (Nat.lt_succ_self _) _)
          have FF := Lib.hid (show GaveArgO w (some (true, hs, ByteArray.empty)) (.returned (.tuple #[.agg #[.bool true, .slice G hs.length cg, .string ByteArray.empty], .bool true])) _ from ⟨G, cg, rfl, (O4.out.keep mm (Or.inr (Nat.le_refl _))).wider (by omega) (Nat.le_trans O4.out.1 mm.size) (Nat.le_refl _), ((B4.out.setCell (p := ⟨w.heap.size, 0, none⟩) (Nat.le_refl _) _).setCell (p := ⟨w.heap.size, 1, none⟩) (Nat.le_refl _) _).setCell (p := ⟨w.heap.size, 2, none⟩) (Nat.le_refl _) _⟩)
          have HZ := Lib.hid (((B4.out.setCell (p := ⟨w.heap.size, 0, none⟩) (Nat.le_refl _) (.bool false)).setCell (p := ⟨w.heap.size, 1, none⟩) (Nat.le_refl _) (.slice none 0 0)).setCell (p := ⟨w.heap.size, 2, none⟩) (Nat.le_refl _) (.string ⟨#[]⟩))
          clear mm
          generalize argV (true, hs, ByteArray.empty) = t at *
          cases t with
          | false =>
            have HPN := Lib.hid (show progA s.data.toList = none by rw [HPA.out]; simp)
            clear HPA
            go_wp2
            refine bodyPost_ret (v := .tuple #[.agg #[.bool false, .slice none 0 0, .string ByteArray.empty], .bool false]) (by simp [results, Tryz.results7, go_sem, k0, k1, k2]; try rfl) rfl ?_
            rw [HPN.out]
            exact gaveA_none HZ.out
          | true =>
            have HPS := Lib.hid (show progA s.data.toList = some (true, hs, ByteArray.empty) by rw [HPA.out]; simp)
            clear HPA
            go_wp2
            refine bodyPost_ret (v := .tuple #[.agg #[.bool true, .slice G hs.length cg, .string ByteArray.empty], .bool true]) (by simp [results, Tryz.results7, go_sem, k0, k1, k2]; try rfl) rfl ?_
            rw [HPS.out]
            exact FF.out
  · have heq : (q.toList == [110, 105, 108]) = false := by rw [hq8]; exact beq_eq_false_iff_ne.2 hnil
    have hqs : q.size ≤ 1048576 := HQS.out q HQM.out
    clear hq8
    have LN := Lib.hid (NameS.implList q w2 (by unfold maxLen; omega))
    go_wp2_with fail
    refine (Calls.mono LN.out) ?_
    rintro e w3 ⟨rfl, b3⟩
    have B23 := Lib.hid b3
    have L3 := Lib.hid (L2.out.below b3)
    have V3 := Lib.hid (V2.out.below b3)
    have B3 := Lib.hid (B2.out.trans (b3.mono B2.out.size))
    clear b3 LN v0 v1 v2 f0 f1 f2
    have v0 := V3.out.cell 0 (.bool false) rfl
    have v1 := V3.out.cell 1 (.slice none 0 0) rfl
    have v2 := V3.out.cell 2 (.string ByteArray.empty) rfl
    have f0 := V3.out.frozen 0
    have f1 := V3.out.frozen 1
    have f2 := V3.out.frozen 2
    have hc1 : n ≤ c := by omega
    have hc2 : (n : Int) ≤ (c : Int) := by omega
    have hgw : w.heap.size + 1 + 1 ≤ bw := GW.out
    have hgn : bw ≠ w.heap.size + 1 := by omega
    have hn3 : (n : Int) < (n : Int) + 1 := by omega
    have hcw3 := (B23.out.cell (p := ⟨bw, ow + n, none⟩) hbw).trans hcw
    have hcw4 : (w3.setCell ⟨w.heap.size + 1, 0, none⟩ (.bool true)).cell? ⟨bw, ow + n, none⟩ = some (.string q) := (Mod.set w3 (p := ⟨w.heap.size + 1, 0, none⟩) (Nat.le_refl _) (Nat.lt_succ_self _) (.bool true)).cell hcw3 (Or.inr hgw)
    cases hln : NameM.listName q with
    | true =>
      have HF := Lib.hid (show formP (ArgSp.spl s.data.toList) = (true, q, (P.take n).map (fun p => p.data.toList)) by rw [HQ0.out, formP, HLA.out, if_neg hnil, show (⟨q.data.toList.toArray⟩ : ByteArray) = q by simp, if_pos hln])
      clear hln
      go_wp2_with fail
      go_region_law (fail)
      all_goals
        go_wp2
        have HS0 := Lib.hid (show headsP (((P.take n).take 0).map fun p => p.data.toList) = some [] from by simp [headsP])
        have RW := Lib.hid (show StrK.SRow ((w3.setCell ⟨w.heap.size + 1, 0, none⟩ (.bool true)).setCell ⟨w.heap.size + 1, 2, none⟩ (.string q)).drew (some ⟨bw, ow, none⟩) (P.take n) from srow_take (srow_modS (HR.out.below B23.out) (((Mod.set w3 (p := ⟨w.heap.size + 1, 0, none⟩) (Nat.le_refl _) (Nat.lt_succ_self _) (.bool true)).trans (Mod.set _ (p := ⟨w.heap.size + 1, 2, none⟩) (Nat.le_refl _) (Nat.lt_succ_self _) (.string q))).drew) (fun a e => by injection e with e; subst e; exact GW.out)) n)
        have HRD := Lib.hid (show Reading w ((w3.setCell ⟨w.heap.size + 1, 0, none⟩ (.bool true)).setCell ⟨w.heap.size + 1, 2, none⟩ (.string q)).drew true q [] (.slice none 0 0) ((w3.setCell ⟨w.heap.size + 1, 0, none⟩ (.bool true)).setCell ⟨w.heap.size + 1, 2, none⟩ (.string q)).drew from ⟨by simpa using ((V3.out.set 0 (.bool true)).set 2 (.string q)).below (Below.refl _ _).drew, Owned.nil _ _ _ _, ((B3.out.setCell (p := ⟨w.heap.size + 1, 0, none⟩) (Nat.le_succ _) _).setCell (p := ⟨w.heap.size + 1, 2, none⟩) (Nat.le_succ _) _).drew, ((L3.out.other (p := ⟨w.heap.size + 1, 0, none⟩) (by show w.heap.size ≠ w.heap.size + 1; omega) _).other (p := ⟨w.heap.size + 1, 2, none⟩) (by show w.heap.size ≠ w.heap.size + 1; omega) _).below (Below.refl _ _).drew, Mod.refl _ _ _⟩)
        have HWS := Lib.hid (show w.heap.size + 2 ≤ (((w3.setCell ⟨w.heap.size + 1, 0, none⟩ (.bool true)).setCell ⟨w.heap.size + 1, 2, none⟩ (.string q)).drew).heap.size from by have := B23.out.size; simp [World.setCell, World.drew]; omega)
        have HQL := Lib.hid (show (P.take n).length = n from by rw [List.length_take]; omega)
        have HQZ := Lib.hid (fun q (h : q ∈ (P.take n)) => show q.size ≤ 1048576 from HQS.out q (List.mem_of_mem_take h))
        generalize ((w3.setCell ⟨w.heap.size + 1, 0, none⟩ (.bool true)).setCell ⟨w.heap.size + 1, 2, none⟩ (.string q)).drew = wS at *
        clear v0 v1 v2 f0 f1 f2
        generalize (P.take n) = Q at *
        go_loopw [43] (fun i wr => ∃ (k : Nat) (hs : List Sm) (u : Value), k ≤ n ∧ i = .int .i64 k ∧ headsP ((Q.take k).map fun p => p.data.toList) = some hs ∧ Reading w wS true q hs u wr) (fun i _ => n - (intOf i).toNat)
        case atStart => exact ⟨0, [], _, Nat.zero_le _, rfl, HS0.out, HRD.out⟩
        case round =>
          obtain ⟨k, hs, u, hk, rfl, hh, hR⟩ := hrel
          have HH := Lib.hid hh
          have HR := Lib.hid hR
          have RWr := Lib.hid (srow_modS RW.out hR.2.2.2.2 (fun a e => by injection e with e; subst e; exact GW.out))
          have hsz := hR.2.2.2.2.size
          have v0 := hR.1.cell 0 (.bool true) rfl
          have v1 := hR.1.cell 1 u rfl
          have v2 := hR.1.cell 2 (.string q) rfl
          clear hh hR HS0 HRD
          by_cases hlt : k < n
          · have hlt' : k < Q.length := by rw [HQL.out]; exact hlt
            obtain ⟨bq, oq, eq, hbq, hcq⟩ := RWr.out.at_ hlt'
            injection eq with eq; injection eq with eq1 eq2; subst eq1; subst eq2
            have hqz := HQZ.out _ (List.getElem_mem hlt')
            have HTK := Lib.hid (show (Q.take (k + 1)).map (fun p => p.data.toList) = (Q.take k).map (fun p => p.data.toList) ++ [Q[k].data.toList] by rw [take_snoc hlt', List.map_append]; rfl)
            have HMQ := Lib.hid (show Q[k].data.toList ∈ Q.map (fun p => p.data.toList) from List.mem_map.2 ⟨_, List.getElem_mem hlt', rfl⟩)
            have hi0 : (0 : Int) ≤ (k : Int) := by omega
            have hi1 : (k : Int) < (n : Int) := by omega
            generalize Q[k] = q2 at *
            have PS := Lib.hid (parseSum q2 wr hqz (henv.below HR.out.2.2.1))
            unfold GaveSumO at PS
            cases hp : parseS q2.data.toList with
            | none =>
              have HPN := Lib.hid (show progA s.data.toList = none by unfold progA; rw [HF.out]; simp only; rw [headsP_bad HMQ.out hp])
              rw [hp] at PS
              simp only [Option.getD_none, Option.isSome_none] at PS
              go_wp2_with fail
              refine (Calls.mono PS.out) ?_
              rintro e w3 ⟨G, cg, rfl, hO, b3⟩
              have HR3 := Lib.hid (HR.out.below b3)
              clear hO b3 HR PS v0 v1 v2
              have k0 := HR3.out.2.2.2.1.cell 0 (.bool false) rfl
              have k1 := HR3.out.2.2.2.1.cell 1 (.slice none 0 0) rfl
              have k2 := HR3.out.2.2.2.1.cell 2 (.string ByteArray.empty) rfl
              have g0 := HR3.out.2.2.2.1.frozen 0
              have g1 := HR3.out.2.2.2.1.frozen 1
              have g2 := HR3.out.2.2.2.1.frozen 2
              have klt := HR3.out.2.2.2.1.lt
              have FL := ((((HR3.out.2.2.2.1).set 0 (.bool false)).set 1 (.slice none 0 0)).set 2 (.string ⟨#[]⟩)).alloc (Obj.cells #[Value.int IntKind.i64 0, Value.slice G 0 cg] 50)
              have m0 := FL.cell 0 (.bool false) rfl
              have m1 := FL.cell 1 (.slice none 0 0) rfl
              have m2 := FL.cell 2 (.string ⟨#[]⟩) rfl
              clear FL
              go_wp2
              refine bodyPost_ret (v := .tuple #[.agg #[.bool false, .slice none 0 0, .string ByteArray.empty], .bool false]) (by simp [results, Tryz.results7, go_sem, m0, m1, m2]; try rfl) rfl ?_
              rw [HPN.out]
              refine gaveA_none ?_
              have hs9 := HR3.out.2.2.1.size
              repeat first
                | exact HR3.out.2.2.1
                | refine Below.setCell ?_ (by simp <;> omega) _
                | refine Below.alloc ?_ (by simp <;> omega) _
            | some x =>
              obtain ⟨z, xs⟩ := x
              have HSN := Lib.hid (show headsP ((Q.take (k + 1)).map fun p => p.data.toList) = some (hs ++ [(z, xs)]) by rw [HTK.out]; exact headsP_snoc HH.out hp)
              rw [hp] at PS
              simp only [Option.getD_some, Option.isSome_some] at PS
              go_wp2_with fail
              refine (Calls.mono PS.out) ?_
              rintro e w3 ⟨G, cg, rfl, hO, b3⟩
              have ta := (Below.refl w3.heap.size w3).alloc (Nat.le_refl _) (Obj.cells #[Value.int .i64 z, Value.slice G xs.length cg] 50)
              have VH := Lvar.new w3 #[Value.int .i64 z, Value.slice G xs.length cg] 50
              have R4 := Lib.hid ((HR.out.below b3).below ta)
              have O4 := Lib.hid (hO.below ta)
              have D4 := Lib.hid (b3.trans (ta.mono b3.size))
              have hz3 := b3.size
              have HHL := Lib.hid (show hs.length ≤ 1048578 by
                have h1 := congrArg List.length (headsP_some HH.out).1
                have h2 := HQL.out
                rw [List.length_map, List.length_map, List.length_take] at h1
                omega)
              clear v0 v1 v2 b3 ta PS hO
              go_upto_region 14 with fail
              generalize w3.alloc (Obj.cells #[Value.int .i64 z, Value.slice G xs.length cg] 50) = w4 at *
              obtain ⟨es, hes, hown, he, hn9, hog, hdj⟩ := HR.out.2.1
              have hown : wr.ownsRow 0 50 2 u hs.length (cells es) := hown
              have c0 := VH.cell 0 (.int .i64 z) rfl
              have c1 := VH.cell 1 (.slice G xs.length cg) rfl
              have v0 := R4.out.1.cell 0 (.bool true) rfl
              have v1 := R4.out.1.cell 1 u rfl
              have v2 := R4.out.1.cell 2 (.string q) rfl
              have p1 := R4.out.1.frozen 1
              have HO4 := Lib.hid ((hown.kept (StrK.only_below D4.out none) (by by_cases hv : u.ownBlock = none; exact Or.inl hv; exact Or.inr hv)).alloc (Obj.cells #[Value.int .i64 z, Value.slice G xs.length cg] 50))
              have NXT := Lib.hid (fun w5 v5 ho hg hw => Reading.more (x := (z, xs)) (G := G) (c := cg) (v := v5) (w5 := w5) HR.out HWS.out (D4.out.trans (((Below.refl w4.heap.size w4).alloc (Nat.le_refl _) (Obj.cells #[Value.int .i64 z, Value.slice G xs.length cg] 50)).mono D4.out.size)) hes he hn9 hog hdj hown (O4.out.below ((Below.refl w4.heap.size w4).alloc (Nat.le_refl _) (Obj.cells #[Value.int .i64 z, Value.slice G xs.length cg] 50))) (Nat.le_refl _) ho hg hw)
              have hhl := HHL.out
              clear hes hown he hn9 hog hdj VH
              go_wp2_with (at_builtin; refine wpList_append_where rfl (.tmp 56) (.tmp 58) 24 rfl 0 50 i1 (.agg #[.int .i64 0, .slice none 0 0]) 2 32 HU.out HI.out HZ0.out HZ1.out HZ2.out rfl (by decide) _ _ _ rfl HO4.out ⟨w4.heap.size, 0, none⟩ 1 1 [.int .i64 z, .slice G xs.length cg] rfl rfl (cell_two_new _ _ _ _) (by simp [Value.oneCell']) (by unfold maxLen; omega) (by omega) (Nat.zero_le _) ?_; intro v5 w5 hown5 hgrow5 hwh5; (obtain ⟨A5, c5, rfl, _, _, _, _⟩ := RowK.of_own hown5); (have NX := NXT.out w5 _ hown5 hgrow5 hwh5); (have q0 := NX.2.cell 0 (.bool true) rfl); (have q1 := NX.2.cell 1 u rfl); (have qp := NX.2.frozen 1); (have F := Lib.hid NX.1); clear NX hown5 hgrow5 hwh5)
              go_roundw
              case rel => exact ⟨k + 1, _, _, by omega, by go_num, HSN.out, F.out⟩
              case measure => simp [intOf]; omega
          · obtain rfl : k = n := by omega
            have HHE := Lib.hid (show headsP (Q.map fun p => p.data.toList) = some hs by have := HH.out; rwa [List.take_of_length_le (by rw [HQL.out]; exact Nat.le_refl _)] at this)
            have hsv := (headsP_some HHE.out).2
            have hhl : hs.length ≤ 1048578 := by
              have h1 := congrArg List.length (headsP_some HHE.out).1
              have h2 := HQL.out
              rw [List.length_map, List.length_map] at h1
              omega
            have hsl : hs.length + szs ssl hs ≤ 1000000000 := by
              have gen : ∀ zs : List Sm, (∀ h ∈ zs, h.2.length ≤ 4) → szs ssl zs ≤ 4 * zs.length := by
                intro zs
                induction zs with
                | nil => intro _; exact Nat.le_refl _
                | cons x zs ih =>
                  intro hx
                  have h4 := ih (fun t ht => hx t (List.mem_cons_of_mem _ ht))
                  have h5 := hx x List.mem_cons_self
                  rw [szs_cons, List.length_cons]
                  unfold ssl at h4 ⊢
                  omega
              have := gen hs (fun h hm => (sumV_iff.1 (hsv h hm).1).2.1)
              omega
            have hss : ∀ x ∈ hs, ∀ t ∈ x.2, t.2.size ≤ 9223372036854775807 := fun x hx t ht => by
              have := (valid_shape (intName_valid (termV_iff.1 ((sumV_iff.1 (hsv x hx).1).2.2.1 t ht)).2.2)).2
              omega
            obtain ⟨h1, h2, h3, h4, h5⟩ := HR.out
            obtain ⟨G, cg, rfl, hO⟩ := h2.ownS (lo := w.heap.size + 1) (by decide) (fun g hg => by have := HWS.out; omega)
            have VA := Lib.hid (validArg true G cg hs q wr hO.arg hsl hss (by omega))
            have O3 := Lib.hid hO
            have V3 := Lib.hid h1
            have L3 := Lib.hid h4
            have B3 := Lib.hid h3
            clear h1 h2 h3 h4 h5 hO HR hsv hsl hss v0 v1 v2
            have v0 := V3.out.cell 0 (.bool true) rfl
            have v1 := V3.out.cell 1 (.slice G hs.length cg) rfl
            have v2 := V3.out.cell 2 (.string q) rfl
            have HPA := Lib.hid (show progA s.data.toList = if argV (true, hs, q) = true then some (true, hs, q) else none by unfold progA; rw [HF.out]; simp only; rw [HHE.out])
            go_wp2_with fail
            refine (Calls.mono VA.out) ?_
            rintro e w3 ⟨rfl, b3⟩
            have L4 := Lib.hid (L3.out.below b3)
            have V4 := Lib.hid (V3.out.below b3)
            have B4 := Lib.hid (B3.out.trans (b3.mono B3.out.size))
            have O4 := Lib.hid (O3.out.below b3)
            clear b3 L3 V3 VA v0 v1 v2
            have k0 := L4.out.cell 0 (.bool false) rfl
            have k1 := L4.out.cell 1 (.slice none 0 0) rfl
            have k2 := L4.out.cell 2 (.string ByteArray.empty) rfl
            have g0 := L4.out.frozen 0
            have g1 := L4.out.frozen 1
            have g2 := L4.out.frozen 2
            have v0 := V4.out.cell 0 (.bool true) rfl
            have v1 := V4.out.cell 1 (.slice G hs.length cg) rfl
            have v2 := V4.out.cell 2 (.string q) rfl
            have mm : Mod w.heap.size (w.heap.size + 1) w3 (((w3.setCell ⟨w.heap.size, 0, none⟩ (.bool true)).setCell ⟨w.heap.size, 1, none⟩ (.slice G hs.length cg)).setCell ⟨w.heap.size, 2, none⟩ (.string q)) := ((Mod.set _ (p := ⟨w.heap.size, 0, none⟩) (Nat.le_refl _) (Nat.lt_succ_self _) _).trans (Mod.set _ (p := ⟨w.heap.size, 1, none⟩) (Nat.le_refl _) (Nat.lt_succ_self _) _)).trans (Mod.set _ (p := ⟨w.heap.size, 2, none⟩) (Nat.le_refl _) (Nat.lt_succ_self _) _)
            have FF := Lib.hid (show GaveArgO w (some (true, hs, q)) (.returned (.tuple #[.agg #[.bool true, .slice G hs.length cg, .string q], .bool true])) _ from ⟨G, cg, rfl, (O4.out.keep mm (Or.inr (Nat.le_refl _))).wider (by omega) (Nat.le_trans O4.out.1 mm.size) (Nat.le_refl _), ((B4.out.setCell (p := ⟨w.heap.size, 0, none⟩) (Nat.le_refl _) _).setCell (p := ⟨w.heap.size, 1, none⟩) (Nat.le_refl _) _).setCell (p := ⟨w.heap.size, 2, none⟩) (Nat.le_refl _) _⟩)
            have HZ := Lib.hid (((B4.out.setCell (p := ⟨w.heap.size, 0, none⟩) (Nat.le_refl _) (.bool false)).setCell (p := ⟨w.heap.size, 1, none⟩) (Nat.le_refl _) (.slice none 0 0)).setCell (p := ⟨w.heap.size, 2, none⟩) (Nat.le_refl _) (.string ⟨#[]⟩))
            clear mm
            generalize argV (true, hs, q) = t at *
            cases t with
            | false =>
              have HPN := Lib.hid (show progA s.data.toList = none by rw [HPA.out]; simp)
              clear HPA
              go_wp2
              refine bodyPost_ret (v := .tuple #[.agg #[.bool false, .slice none 0 0, .string ByteArray.empty], .bool false]) (by simp [results, Tryz.results7, go_sem, k0, k1, k2]; try rfl) rfl ?_
              rw [HPN.out]
              exact gaveA_none HZ.out
            | true =>
              have HPS := Lib.hid (show progA s.data.toList = some (true, hs, q) by rw [HPA.out]; simp)
              clear HPA
              go_wp2
              refine bodyPost_ret (v := .tuple #[.agg #[.bool true, .slice G hs.length cg, .string q], .bool true]) (by simp [results, Tryz.results7, go_sem, k0, k1, k2]; try rfl) rfl ?_
              rw [HPS.out]
              exact FF.out
    | false =>
      have HF := Lib.hid (show formP (ArgSp.spl s.data.toList) = (false, ByteArray.empty, P.map (fun p => p.data.toList)) by rw [HP.out, formP, HLA.out, if_neg hnil, show (⟨q.data.toList.toArray⟩ : ByteArray) = q by simp, if_neg (by rw [hln]; exact Bool.noConfusion)])
      clear hln
      go_wp2
      have HS0 := Lib.hid (show headsP (((P).take 0).map fun p => p.data.toList) = some [] from by simp [headsP])
      have RW := Lib.hid (show StrK.SRow w3 (some ⟨bw, ow, none⟩) (P) from HR.out.below B23.out)
      have HRD := Lib.hid (show Reading w w3 false ByteArray.empty [] (.slice none 0 0) w3 from ⟨V3.out, Owned.nil _ _ _ _, B3.out, L3.out, Mod.refl _ _ _⟩)
      have HWS := Lib.hid (show w.heap.size + 2 ≤ (w3).heap.size from by have := B23.out.size; omega)
      have HQL := Lib.hid (show (P).length = (n + 1) from hn)
      have HQZ := Lib.hid (fun q (h : q ∈ (P)) => show q.size ≤ 1048576 from HQS.out q h)
      generalize w3 = wS at *
      clear v0 v1 v2 f0 f1 f2
      generalize (P) = Q at *
      go_loopw [43] (fun i wr => ∃ (k : Nat) (hs : List Sm) (u : Value), k ≤ (n + 1) ∧ i = .int .i64 k ∧ headsP ((Q.take k).map fun p => p.data.toList) = some hs ∧ Reading w wS false ByteArray.empty hs u wr) (fun i _ => (n + 1) - (intOf i).toNat)
      case atStart => exact ⟨0, [], _, Nat.zero_le _, rfl, HS0.out, HRD.out⟩
      case round =>
        obtain ⟨k, hs, u, hk, rfl, hh, hR⟩ := hrel
        have HH := Lib.hid hh
        have HR := Lib.hid hR
        have RWr := Lib.hid (srow_modS RW.out hR.2.2.2.2 (fun a e => by injection e with e; subst e; exact GW.out))
        have hsz := hR.2.2.2.2.size
        have v0 := hR.1.cell 0 (.bool false) rfl
        have v1 := hR.1.cell 1 u rfl
        have v2 := hR.1.cell 2 (.string ByteArray.empty) rfl
        clear hh hR HS0 HRD
        by_cases hlt : k < (n + 1)
        · have hlt' : k < Q.length := by rw [HQL.out]; exact hlt
          obtain ⟨bq, oq, eq, hbq, hcq⟩ := RWr.out.at_ hlt'
          injection eq with eq; injection eq with eq1 eq2; subst eq1; subst eq2
          have hqz := HQZ.out _ (List.getElem_mem hlt')
          have HTK := Lib.hid (show (Q.take (k + 1)).map (fun p => p.data.toList) = (Q.take k).map (fun p => p.data.toList) ++ [Q[k].data.toList] by rw [take_snoc hlt', List.map_append]; rfl)
          have HMQ := Lib.hid (show Q[k].data.toList ∈ Q.map (fun p => p.data.toList) from List.mem_map.2 ⟨_, List.getElem_mem hlt', rfl⟩)
          have hi0 : (0 : Int) ≤ (k : Int) := by omega
          have hi1 : (k : Int) < ((n + 1) : Int) := by omega
          generalize Q[k] = q2 at *
          have PS := Lib.hid (parseSum q2 wr hqz (henv.below HR.out.2.2.1))
          unfold GaveSumO at PS
          cases hp : parseS q2.data.toList with
          | none =>
            have HPN := Lib.hid (show progA s.data.toList = none by unfold progA; rw [HF.out]; simp only; rw [headsP_bad HMQ.out hp])
            rw [hp] at PS
            simp only [Option.getD_none, Option.isSome_none] at PS
            go_wp2_with fail
            refine (Calls.mono PS.out) ?_
            rintro e w3 ⟨G, cg, rfl, hO, b3⟩
            have HR3 := Lib.hid (HR.out.below b3)
            clear hO b3 HR PS v0 v1 v2
            have k0 := HR3.out.2.2.2.1.cell 0 (.bool false) rfl
            have k1 := HR3.out.2.2.2.1.cell 1 (.slice none 0 0) rfl
            have k2 := HR3.out.2.2.2.1.cell 2 (.string ByteArray.empty) rfl
            have g0 := HR3.out.2.2.2.1.frozen 0
            have g1 := HR3.out.2.2.2.1.frozen 1
            have g2 := HR3.out.2.2.2.1.frozen 2
            have klt := HR3.out.2.2.2.1.lt
            have FL := ((((HR3.out.2.2.2.1).set 0 (.bool false)).set 1 (.slice none 0 0)).set 2 (.string ⟨#[]⟩)).alloc (Obj.cells #[Value.int IntKind.i64 0, Value.slice G 0 cg] 50)
            have m0 := FL.cell 0 (.bool false) rfl
            have m1 := FL.cell 1 (.slice none 0 0) rfl
            have m2 := FL.cell 2 (.string ⟨#[]⟩) rfl
            clear FL
            go_wp2
            refine bodyPost_ret (v := .tuple #[.agg #[.bool false, .slice none 0 0, .string ByteArray.empty], .bool false]) (by simp [results, Tryz.results7, go_sem, m0, m1, m2]; try rfl) rfl ?_
            rw [HPN.out]
            refine gaveA_none ?_
            have hs9 := HR3.out.2.2.1.size
            repeat first
              | exact HR3.out.2.2.1
              | refine Below.setCell ?_ (by simp <;> omega) _
              | refine Below.alloc ?_ (by simp <;> omega) _
          | some x =>
            obtain ⟨z, xs⟩ := x
            have HSN := Lib.hid (show headsP ((Q.take (k + 1)).map fun p => p.data.toList) = some (hs ++ [(z, xs)]) by rw [HTK.out]; exact headsP_snoc HH.out hp)
            rw [hp] at PS
            simp only [Option.getD_some, Option.isSome_some] at PS
            go_wp2_with fail
            refine (Calls.mono PS.out) ?_
            rintro e w3 ⟨G, cg, rfl, hO, b3⟩
            have ta := (Below.refl w3.heap.size w3).alloc (Nat.le_refl _) (Obj.cells #[Value.int .i64 z, Value.slice G xs.length cg] 50)
            have VH := Lvar.new w3 #[Value.int .i64 z, Value.slice G xs.length cg] 50
            have R4 := Lib.hid ((HR.out.below b3).below ta)
            have O4 := Lib.hid (hO.below ta)
            have D4 := Lib.hid (b3.trans (ta.mono b3.size))
            have hz3 := b3.size
            have HHL := Lib.hid (show hs.length ≤ 1048578 by
              have h1 := congrArg List.length (headsP_some HH.out).1
              have h2 := HQL.out
              rw [List.length_map, List.length_map, List.length_take] at h1
              omega)
            clear v0 v1 v2 b3 ta PS hO
            go_upto_region 14 with fail
            generalize w3.alloc (Obj.cells #[Value.int .i64 z, Value.slice G xs.length cg] 50) = w4 at *
            obtain ⟨es, hes, hown, he, hn9, hog, hdj⟩ := HR.out.2.1
            have hown : wr.ownsRow 0 50 2 u hs.length (cells es) := hown
            have c0 := VH.cell 0 (.int .i64 z) rfl
            have c1 := VH.cell 1 (.slice G xs.length cg) rfl
            have v0 := R4.out.1.cell 0 (.bool false) rfl
            have v1 := R4.out.1.cell 1 u rfl
            have v2 := R4.out.1.cell 2 (.string ByteArray.empty) rfl
            have p1 := R4.out.1.frozen 1
            have HO4 := Lib.hid ((hown.kept (StrK.only_below D4.out none) (by by_cases hv : u.ownBlock = none; exact Or.inl hv; exact Or.inr hv)).alloc (Obj.cells #[Value.int .i64 z, Value.slice G xs.length cg] 50))
            have NXT := Lib.hid (fun w5 v5 ho hg hw => Reading.more (x := (z, xs)) (G := G) (c := cg) (v := v5) (w5 := w5) HR.out HWS.out (D4.out.trans (((Below.refl w4.heap.size w4).alloc (Nat.le_refl _) (Obj.cells #[Value.int .i64 z, Value.slice G xs.length cg] 50)).mono D4.out.size)) hes he hn9 hog hdj hown (O4.out.below ((Below.refl w4.heap.size w4).alloc (Nat.le_refl _) (Obj.cells #[Value.int .i64 z, Value.slice G xs.length cg] 50))) (Nat.le_refl _) ho hg hw)
            have hhl := HHL.out
            clear hes hown he hn9 hog hdj VH
            go_wp2_with (at_builtin; refine wpList_append_where rfl (.tmp 56) (.tmp 58) 24 rfl 0 50 i1 (.agg #[.int .i64 0, .slice none 0 0]) 2 32 HU.out HI.out HZ0.out HZ1.out HZ2.out rfl (by decide) _ _ _ rfl HO4.out ⟨w4.heap.size, 0, none⟩ 1 1 [.int .i64 z, .slice G xs.length cg] rfl rfl (cell_two_new _ _ _ _) (by simp [Value.oneCell']) (by unfold maxLen; omega) (by omega) (Nat.zero_le _) ?_; intro v5 w5 hown5 hgrow5 hwh5; (obtain ⟨A5, c5, rfl, _, _, _, _⟩ := RowK.of_own hown5); (have NX := NXT.out w5 _ hown5 hgrow5 hwh5); (have q0 := NX.2.cell 0 (.bool false) rfl); (have q1 := NX.2.cell 1 u rfl); (have qp := NX.2.frozen 1); (have F := Lib.hid NX.1); clear NX hown5 hgrow5 hwh5)
            go_roundw
            case rel => exact ⟨k + 1, _, _, by omega, by go_num, HSN.out, F.out⟩
            case measure => simp [intOf]; omega
        · obtain rfl : k = (n + 1) := by omega
          have HHE := Lib.hid (show headsP (Q.map fun p => p.data.toList) = some hs by have := HH.out; rwa [List.take_of_length_le (by rw [HQL.out]; exact Nat.le_refl _)] at this)
          have hsv := (headsP_some HHE.out).2
          have hhl : hs.length ≤ 1048578 := by
            have h1 := congrArg List.length (headsP_some HHE.out).1
            have h2 := HQL.out
            rw [List.length_map, List.length_map] at h1
            omega
          have hsl : hs.length + szs ssl hs ≤ 1000000000 := by
            have gen : ∀ zs : List Sm, (∀ h ∈ zs, h.2.length ≤ 4) → szs ssl zs ≤ 4 * zs.length := by
              intro zs
              induction zs with
              | nil => intro _; exact Nat.le_refl _
              | cons x zs ih =>
                intro hx
                have h4 := ih (fun t ht => hx t (List.mem_cons_of_mem _ ht))
                have h5 := hx x List.mem_cons_self
                rw [szs_cons, List.length_cons]
                unfold ssl at h4 ⊢
                omega
            have := gen hs (fun h hm => (sumV_iff.1 (hsv h hm).1).2.1)
            omega
          have hss : ∀ x ∈ hs, ∀ t ∈ x.2, t.2.size ≤ 9223372036854775807 := fun x hx t ht => by
            have := (valid_shape (intName_valid (termV_iff.1 ((sumV_iff.1 (hsv x hx).1).2.2.1 t ht)).2.2)).2
            omega
          obtain ⟨h1, h2, h3, h4, h5⟩ := HR.out
          obtain ⟨G, cg, rfl, hO⟩ := h2.ownS (lo := w.heap.size + 1) (by decide) (fun g hg => by have := HWS.out; omega)
          have VA := Lib.hid (validArg false G cg hs ByteArray.empty wr hO.arg hsl hss (by decide))
          have O3 := Lib.hid hO
          have V3 := Lib.hid h1
          have L3 := Lib.hid h4
          have B3 := Lib.hid h3
          clear h1 h2 h3 h4 h5 hO HR hsv hsl hss v0 v1 v2
          have v0 := V3.out.cell 0 (.bool false) rfl
          have v1 := V3.out.cell 1 (.slice G hs.length cg) rfl
          have v2 := V3.out.cell 2 (.string ByteArray.empty) rfl
          have HPA := Lib.hid (show progA s.data.toList = if argV (false, hs, ByteArray.empty) = true then some (false, hs, ByteArray.empty) else none by unfold progA; rw [HF.out]; simp only; rw [HHE.out])
          go_wp2_with fail
          refine (Calls.mono VA.out) ?_
          rintro e w3 ⟨rfl, b3⟩
          have L4 := Lib.hid (L3.out.below b3)
          have V4 := Lib.hid (V3.out.below b3)
          have B4 := Lib.hid (B3.out.trans (b3.mono B3.out.size))
          have O4 := Lib.hid (O3.out.below b3)
          clear b3 L3 V3 VA v0 v1 v2
          have k0 := L4.out.cell 0 (.bool false) rfl
          have k1 := L4.out.cell 1 (.slice none 0 0) rfl
          have k2 := L4.out.cell 2 (.string ByteArray.empty) rfl
          have g0 := L4.out.frozen 0
          have g1 := L4.out.frozen 1
          have g2 := L4.out.frozen 2
          have v0 := V4.out.cell 0 (.bool false) rfl
          have v1 := V4.out.cell 1 (.slice G hs.length cg) rfl
          have v2 := V4.out.cell 2 (.string ByteArray.empty) rfl
          have mm : Mod w.heap.size (w.heap.size + 1) w3 (((w3.setCell ⟨w.heap.size, 0, none⟩ (.bool false)).setCell ⟨w.heap.size, 1, none⟩ (.slice G hs.length cg)).setCell ⟨w.heap.size, 2, none⟩ (.string ByteArray.empty)) := ((Mod.set _ (p := ⟨w.heap.size, 0, none⟩) (Nat.le_refl _) (Nat.lt_succ_self _) _).trans (Mod.set _ (p := ⟨w.heap.size, 1, none⟩) (Nat.le_refl _) (Nat.lt_succ_self _) _)).trans (Mod.set _ (p := ⟨w.heap.size, 2, none⟩) (Nat.le_refl _) (Nat.lt_succ_self _) _)
          have FF := Lib.hid (show GaveArgO w (some (false, hs, ByteArray.empty)) (.returned (.tuple #[.agg #[.bool false, .slice G hs.length cg, .string ByteArray.empty], .bool true])) _ from ⟨G, cg, rfl, (O4.out.keep mm (Or.inr (Nat.le_refl _))).wider (by omega) (Nat.le_trans O4.out.1 mm.size) (Nat.le_refl _), ((B4.out.setCell (p := ⟨w.heap.size, 0, none⟩) (Nat.le_refl _) _).setCell (p := ⟨w.heap.size, 1, none⟩) (Nat.le_refl _) _).setCell (p := ⟨w.heap.size, 2, none⟩) (Nat.le_refl _) _⟩)
          have HZ := Lib.hid (((B4.out.setCell (p := ⟨w.heap.size, 0, none⟩) (Nat.le_refl _) (.bool false)).setCell (p := ⟨w.heap.size, 1, none⟩) (Nat.le_refl _) (.slice none 0 0)).setCell (p := ⟨w.heap.size, 2, none⟩) (Nat.le_refl _) (.string ⟨#[]⟩))
          clear mm
          generalize argV (false, hs, ByteArray.empty) = t at *
          cases t with
          | false =>
            have HPN := Lib.hid (show progA s.data.toList = none by rw [HPA.out]; simp)
            clear HPA
            go_wp2
            refine bodyPost_ret (v := .tuple #[.agg #[.bool false, .slice none 0 0, .string ByteArray.empty], .bool false]) (by simp [results, Tryz.results7, go_sem, k0, k1, k2]; try rfl) rfl ?_
            rw [HPN.out]
            exact gaveA_none HZ.out
          | true =>
            have HPS := Lib.hid (show progA s.data.toList = some (false, hs, ByteArray.empty) by rw [HPA.out]; simp)
            clear HPA
            go_wp2
            refine bodyPost_ret (v := .tuple #[.agg #[.bool false, .slice G hs.length cg, .string ByteArray.empty], .bool true]) (by simp [results, Tryz.results7, go_sem, k0, k1, k2]; try rfl) rfl ?_
            rw [HPS.out]
            exact FF.out
end ArgI
end Go.Proofs.YtiilopfhlmeaoaaGreatDoor
