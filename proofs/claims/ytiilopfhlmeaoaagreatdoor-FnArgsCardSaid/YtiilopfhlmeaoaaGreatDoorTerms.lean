import Derived.Test.YtiilopfhlmeaoaaGreatDoorCut2
import Derived.Test.YtiilopfhlmeaoaaGreatDoorParseImpl
import Derived.Test.YtiilopfhlmeaoaaGreatDoorRepGen
import Derived.Lib.Replace
import Derived.Lib.IndexBytes
/-
  impl.scanTerm: one term of a text.
-/
namespace Go.Proofs.YtiilopfhlmeaoaaGreatDoor
open Go.RowKit
namespace CutI
open TextM TextI NameM

theorem pre45 (l : List UInt8) : Lib.hasPrefix l [45] = decide (l.head? = some 45) ∧ Lib.trimPrefix l [45] = NumM.body l := by
  unfold Lib.trimPrefix Lib.hasPrefix NumM.body
  cases l with
  | nil => exact ⟨rfl, rfl⟩
  | cons c r =>
    by_cases h : c = 45
    · subst h; simp [List.isPrefixOf]
    · have h2 : ((45 : UInt8) == c) = false := by rw [beq_eq_false_iff_ne]; exact fun e => h e.symm
      simp [List.isPrefixOf, h, h2]
theorem pre43 (l : List UInt8) : Lib.trimPrefix l [43] = strip43 l := by
  unfold Lib.trimPrefix Lib.hasPrefix strip43
  cases l with
  | nil => rfl
  | cons c r =>
    by_cases h : c = 43
    · subst h; simp [List.isPrefixOf]
    · have h2 : ((43 : UInt8) == c) = false := by rw [beq_eq_false_iff_ne]; exact fun e => h e.symm
      simp [List.isPrefixOf, h, h2]
theorem cutNeg (s : ByteArray) (w : World) :
    Calls Tryz.prog 85 #[.string s, .string ⟨#[45]⟩] w fun e w' => e = .returned (.tuple #[.string ⟨(NumM.body s.data.toList).toArray⟩, .bool (decide (s.data.toList.head? = some 45))]) ∧ w = w' :=
  (Tryz.strings_CutPrefix s ⟨#[45]⟩ w).mono fun e w' ⟨h1, h2⟩ => ⟨by rw [h1, show (ByteArray.mk #[45]).data.toList = [45] from rfl, (pre45 _).1, (pre45 _).2], h2.symm⟩
theorem trimPlus (l : List UInt8) (w : World) :
    Calls Tryz.prog 87 #[.string ⟨l.toArray⟩, .string ⟨#[43]⟩] w fun e w' => e = .returned (.string ⟨(strip43 l).toArray⟩) ∧ w = w' :=
  (Tryz.strings_TrimPrefix ⟨l.toArray⟩ ⟨#[43]⟩ w).mono fun e w' ⟨h1, h2⟩ => ⟨by rw [h1, show (ByteArray.mk #[43]).data.toList = [43] from rfl, show (ByteArray.mk l.toArray).data.toList = l from rfl, pre43], h2.symm⟩
theorem body_len (l : List UInt8) : (NumM.body l).length ≤ l.length := by unfold NumM.body; split <;> simp
theorem strip43_len (l : List UInt8) : (strip43 l).length ≤ l.length := by unfold strip43; split <;> simp
theorem readT_eq (l : List UInt8) : readT 999999 l = (if (decide (l.head? = some 45)) = true then -(if (strip43 (NumM.body l)).takeWhile digit = [] then 1 else (NumM.rd 0 999999 ((strip43 (NumM.body l)).takeWhile digit)).getD 0) else (if (strip43 (NumM.body l)).takeWhile digit = [] then 1 else (NumM.rd 0 999999 ((strip43 (NumM.body l)).takeWhile digit)).getD 0), ⟨((strip43 (NumM.body l)).dropWhile digit).toArray⟩) := by
  unfold readT readW
  simp only [decide_eq_true_eq]

/-- A term has been handed back. -/
def GaveT (w : World) (t : TItem) (e : Ending) (w' : World) : Prop := e = .returned (.agg #[.int .i64 t.1, .string t.2]) ∧ Below w.heap.size w w'

set_option maxHeartbeats 1000000 in
set_option maxRecDepth 100000 in
theorem scanT (s : ByteArray) (hs : s.size ≤ 1048576) (w : World) (henv : ParseI.Env w) :
    Calls Tryz.prog 64 #[.string s] w (GaveT w (readT 999999 s.data.toList)) := by
  have s0 : Below w.heap.size w (w.alloc (Obj.cells #[Value.int IntKind.i64 0, Value.string ⟨#[]⟩] 95)) := (Below.refl _ _).alloc (Nat.le_refl _) _
  have HR := Lib.hid (readT_eq s.data.toList)
  have CN := Lib.hid (cutNeg s)
  have hb1 : (NumM.body s.data.toList).length ≤ 1048576 := by have := body_len s.data.toList; rw [size_list] at this; omega
  generalize NumM.body s.data.toList = B at *
  generalize decide (s.data.toList.head? = some 45) = ng at *
  have TP := Lib.hid (trimPlus B)
  have hv1 : (strip43 B).length ≤ 1048576 := by have := strip43_len B; omega
  generalize strip43 B = v at *
  have DG := Lib.hid (fun W => digits ⟨v.toArray⟩ (by rw [size_mk]; exact hv1) W)
  unfold Two at DG
  have hD : (v.takeWhile digit).length ≤ 1048576 := by have := (List.takeWhile_sublist (l := v) digit).length_le; omega
  have e0 : (ByteArray.mk v.toArray).data.toList = v := rfl
  rw [e0] at DG
  generalize v.takeWhile digit = D at *
  generalize v.dropWhile digit = N at *
  have PN := Lib.hid (fun W (h : Below w.heap.size w W) => ParseI.ParseNumber_any ⟨D.toArray⟩ (by rw [size_mk]; exact hD) W (henv.below h))
  have e1 : (ByteArray.mk D.toArray).data.toList = D := rfl
  rw [e1] at PN
  have hr : ∀ n, NumM.rd 0 999999 D = some n → 0 ≤ n ∧ n ≤ 999999 := fun n h => rd_small h
  have hr2 : 0 ≤ (NumM.rd 0 999999 D).getD 0 ∧ (NumM.rd 0 999999 D).getD 0 ≤ 999999 := by
    cases h : NumM.rd 0 999999 D with
    | none => simp
    | some n => exact hr n h
  generalize (NumM.rd 0 999999 D).getD 0 = a at *
  generalize (NumM.rd 0 999999 D).isSome = q at *
  have B0 := Lib.hid s0
  have L0 := Lib.hid (RowK.Lvar.new w #[Value.int IntKind.i64 0, Value.string ⟨#[]⟩] 95)
  clear e0 e1 hr s0 hb1 hv1 hD
  have hcs : D = [] ∨ (D.isEmpty = false ∧ D ≠ []) := by cases D <;> simp
  rcases hcs with rfl | ⟨hD, hD2⟩
  · rw [if_pos rfl] at HR
    cases ng
    all_goals
      simp only [if_true, Bool.false_eq_true, if_false] at HR
      go_enter Tryz.func64, Tryz.ntmps64
      go_wp2_with fail
      refine (CN.out _).mono ?_
      rintro e w' ⟨rfl, rfl⟩
      go_wp2_with fail
      refine (TP.out _).mono ?_
      rintro e w' ⟨rfl, rfl⟩
      go_wp2_with fail
      refine (Calls.mono (DG.out _)) ?_
      rintro e w1 ⟨rfl, b1⟩
      have B1 := Lib.hid (B0.out.trans (b1.mono B0.out.size))
      have L1 := Lib.hid (L0.out.below b1)
      have l0 := L1.out.cell 0 (.int .i64 0) rfl
      have l1 := L1.out.cell 1 (.string ⟨#[]⟩) rfl
      have p0 := L1.out.frozen 0
      have p1 := L1.out.frozen 1
      clear b1
      go_wp2
      refine bodyPost_ret (v := .agg #[.int .i64 (readT 999999 s.data.toList).1, .string (readT 999999 s.data.toList).2]) (by rw [HR.out]; simp [results, Tryz.results64, go_sem, l0, l1]) rfl ⟨rfl, ?_⟩
      exact (B1.out.setCell (by simp) _).setCell (by simp) _
  · rw [if_neg hD2] at HR
    clear hD2
    cases ng
    all_goals
      simp only [if_true, Bool.false_eq_true, if_false] at HR
      go_enter Tryz.func64, Tryz.ntmps64
      go_wp2_with fail
      refine (CN.out _).mono ?_
      rintro e w' ⟨rfl, rfl⟩
      go_wp2_with fail
      refine (TP.out _).mono ?_
      rintro e w' ⟨rfl, rfl⟩
      go_wp2_with fail
      refine (Calls.mono (DG.out _)) ?_
      rintro e w1 ⟨rfl, b1⟩
      have B1 := Lib.hid (B0.out.trans (b1.mono B0.out.size))
      have L1 := Lib.hid (L0.out.below b1)
      clear b1
      go_wp2_with fail
      refine (Calls.mono (PN.out _ B1.out)) ?_
      rintro e w2 ⟨rfl, b2⟩
      have B2 := Lib.hid (B1.out.trans (b2.mono B1.out.size))
      have L2 := Lib.hid (L1.out.below b2)
      have l0 := L2.out.cell 0 (.int .i64 0) rfl
      have l1 := L2.out.cell 1 (.string ⟨#[]⟩) rfl
      have p0 := L2.out.frozen 0
      have p1 := L2.out.frozen 1
      clear b2
      go_wp2
      refine bodyPost_ret (v := .agg #[.int .i64 (readT 999999 s.data.toList).1, .string (readT 999999 s.data.toList).2]) (by rw [HR.out]; simp [results, Tryz.results64, go_sem, l0, l1]) rfl ⟨rfl, ?_⟩
      exact (B2.out.setCell (by simp) _).setCell (by simp) _
end CutI
end Go.Proofs.YtiilopfhlmeaoaaGreatDoor

/-
  impl.scanTerms: the terms of a text.
-/
namespace Go.Proofs.YtiilopfhlmeaoaaGreatDoor
open Go.RowKit
namespace CutI
open TextM TextI NameM

theorem replace_none : ∀ (l : List UInt8), 32 ∉ l → (l.filter fun c => c != 32) = l := fun l h =>
  List.filter_eq_self.2 fun c hc => by
    have : c ≠ 32 := fun e => h (e ▸ hc)
    simpa using this
theorem replaceK_filter : ∀ (k : Nat) (l : List UInt8), l.count 32 = k → Lib.replaceK [32] [] k l = l.filter fun c => c != 32
  | 0, l, h => by rw [replace_none l (List.count_eq_zero.1 h)]; rfl
  | k + 1, l, h => by
    obtain ⟨a, r, rfl, ha⟩ := SplitM.first_occ 32 l (List.count_pos_iff.1 (by omega))
    have hc : r.count 32 = k := by
      rw [List.count_append, List.count_cons_self, List.count_eq_zero.2 ha] at h
      omega
    have hi : Lib.index (a ++ 32 :: r) [32] = (a.length : Int) := by rw [Lib.index_one, SplitM.indexByte_hit 32 a r ha]
    rw [Lib.replaceK_hit [32] [] k _ a.length hi]
    have e : (a ++ 32 :: r).drop (a.length + 1) = r := by
      rw [← List.drop_drop, List.drop_left]; rfl
    have e2 : (a ++ 32 :: r).take a.length = a := List.take_left
    simp only [List.length_cons, List.length_nil, Nat.zero_add, e, e2, List.append_nil]
    rw [replaceK_filter k r hc, List.filter_append, replace_none a ha, List.filter_cons_of_neg (by simp)]
theorem replaceAll_filter (l : List UInt8) : Lib.replaceAll l [32] [] = l.filter fun c => c != 32 := by
  unfold Lib.replaceAll Lib.replace
  rw [if_neg (by decide)]
  have : Lib.replaceNum l [32] (-1) = l.count 32 := by
    unfold Lib.replaceNum
    rw [if_pos (Or.inl (by omega)), Lib.count_one]
  rw [this]
  exact replaceK_filter _ l rfl

/-- What the program's variables hold, those of the library among them. -/
structure Env (w : World) : Prop where
  par : ParseI.Env w
  len : ∃ m, w.cell? ⟨0, 0, none⟩ = some (.int .i64 m)
theorem Env.below {w w' : World} (h : Env w) (hb : Below w.heap.size w w') : Env w' :=
  ⟨h.par.below hb, let ⟨m, hm⟩ := h.len
    have hlt := World.block_lt_of_cell? w _ hm
    ⟨m, by rw [hb.cell (by exact hlt)]; exact hm⟩⟩
theorem Env.of_shaped {w : World} (h : w.ShapedOpen Tryz.prog) (hp : ParseI.Env w) : Env w := ⟨hp, Tryz.laysM155.s1_3 w h⟩

/-- The text without its blanks. -/
theorem blanks (s : ByteArray) (hs : s.size ≤ 1048576) (w : World) (h : Env w) :
    Calls Tryz.prog 63 #[.string s, .string ⟨#[32]⟩, .string ⟨#[]⟩] w fun e w' => e = .returned (.string ⟨(s.data.toList.filter fun c => c != 32).toArray⟩) ∧ Below w.heap.size w w' := by
  obtain ⟨m, hm⟩ := h.len
  refine (Tryz.strings_ReplaceAll s ⟨#[32]⟩ ⟨#[]⟩ m w (by omega) hm (by decide) (by
    have : (ByteArray.mk #[]).size = 0 := rfl
    rw [this]; omega)).mono fun e w' ⟨h1, h2⟩ => ⟨?_, h2⟩
  rw [h1, show (ByteArray.mk #[32]).data.toList = [32] from rfl, show (ByteArray.mk #[]).data.toList = [] from rfl, replaceAll_filter]

/-- The slice holds these terms. -/
def TRow (w : World) (A : Option Addr) (ts : List TItem) : Prop :=
  ts ≠ [] → ∃ b o, A = some ⟨b, o, none⟩ ∧ b < w.heap.size ∧ ∀ j t, ts[j]? = some t → w.cell? ⟨b, o + j * 2, none⟩ = some (.int .i64 t.1) ∧ w.cell? ⟨b, o + j * 2 + 1, none⟩ = some (.string t.2)
theorem TRow.below {w w' : World} {A : Option Addr} {ts : List TItem} (h : TRow w A ts) (hb : Below w.heap.size w w') : TRow w' A ts := fun hn => by
  obtain ⟨b, o, rfl, hlt, hc⟩ := h hn
  exact ⟨b, o, rfl, Nat.lt_of_lt_of_le hlt hb.size, fun j t hj => ⟨by rw [hb.cell (by exact hlt)]; exact (hc j t hj).1, by rw [hb.cell (by exact hlt)]; exact (hc j t hj).2⟩⟩
def tcells (ts : List TItem) : List Value := ts.flatMap fun t => [.int .i64 t.1, .string t.2]
theorem tcells_get : ∀ (ts : List TItem) (j : Nat) (t : TItem), ts[j]? = some t → (tcells ts)[j * 2]? = some (.int .i64 t.1) ∧ (tcells ts)[j * 2 + 1]? = some (.string t.2)
  | [], j, t, h => by simp at h
  | u :: ts, 0, t, h => by
    obtain rfl : u = t := by simpa using h
    exact ⟨rfl, rfl⟩
  | u :: ts, j + 1, t, h => by
    have := tcells_get ts j t (by simpa using h)
    rw [show (j + 1) * 2 = j * 2 + 1 + 1 by omega]
    simpa [tcells] using this
theorem trow_own {w : World} {base : Nat} {e : TypeId} {v : Value} {ts : List TItem} (h : w.ownsRow base e 2 v ts.length (tcells ts)) :
    ∃ A cap, v = .slice A ts.length cap ∧ TRow w A ts ∧ ts.length ≤ cap := by
  rcases h.2 with ⟨rfl, h0⟩ | ⟨g, cap, cur, rfl, hg, hh, hnc, _⟩
  · have h0' : ts = [] := List.eq_nil_of_length_eq_zero h0
    subst h0'
    exact ⟨none, 0, rfl, fun h => absurd rfl h, Nat.le_refl _⟩
  · refine ⟨_, _, rfl, fun _ => ⟨g, 0, rfl, (Array.getElem?_eq_some_iff.1 hh).1, fun j t hj => ?_⟩, hnc⟩
    have hjl := (List.getElem?_eq_some_iff.1 hj).1
    obtain ⟨h1, h2⟩ := tcells_get ts j t hj
    rw [Nat.zero_add, h.cellAt (j * 2) (by omega), h.cellAt (j * 2 + 1) (by omega)]
    exact ⟨h1, h2⟩

/-- The terms of a text have been handed back. -/
def Scanned (s : ByteArray) (w : World) (e : Ending) (w' : World) : Prop :=
  ∃ (ts : List TItem) (A : Option Addr) (cap : Nat), e = .returned (.slice A ts.length cap) ∧ TRow w' A ts ∧ ts.length ≤ 1048577 ∧ (∀ t ∈ ts, t.2.size ≤ 1048576) ∧ Scans s.data.toList ts ∧ Below w.heap.size w w'

theorem readT_name (l : List UInt8) : (readT 999999 l).2.size ≤ l.length := by
  unfold readT readW
  simp only
  rw [size_mk]
  have h1 := (List.dropWhile_sublist (l := strip43 (NumM.body l)) digit).length_le
  have h2 := strip43_len (NumM.body l)
  have h3 := body_len l
  omega
theorem sgn_asc (a b : Bool) : ∀ c ∈ sgn a b, c.toNat < 128 := by cases a <;> cases b <;> decide
theorem word_asc {hi : Int} {t : TItem} (h : TextM.Good hi t) : ∀ c ∈ word t.1 t.2, c.toNat < 128 := fun c hc => by
  have hn : ∀ c ∈ t.2.data.toList, c.toNat < 128 := fun c hc => by
    rcases h.2 with h0 | h0
    · rw [size_zero h0] at hc; cases hc
    · obtain ⟨a, r, e, h1, h2⟩ := shape_head h0
      rw [e] at hc
      have hl : ∀ d, (letter d || NameM.digit d) = true → d.toNat < 128 := fun d hd => by
        simp only [letter, digit, Bool.or_eq_true, Bool.and_eq_true, decide_eq_true_eq] at hd
        omega
      rcases List.mem_cons.1 hc with rfl | hc
      · exact hl _ (by rw [h1]; rfl)
      · exact hl c (h2 c hc)
  unfold word at hc
  split at hc
  · exact hn c hc
  · rw [itoa_nat] at hc
    rcases List.mem_append.1 hc with hc | hc
    · have := digits_digit _ c hc
      simp only [digit, Bool.and_eq_true, decide_eq_true_eq] at this
      omega
    · exact hn c hc
/-- A representation is plain text. -/
theorem rest_asc {hi : Int} : ∀ l : List TItem, (∀ t ∈ l, TextM.Good hi t) → ∀ c ∈ rest l, c.toNat < 128
  | [], _, c, h => by cases h
  | p :: r, h, c, hc => by
    rw [show rest (p :: r) = sgn (decide (p.1 < 0)) false ++ (word p.1 p.2 ++ rest r) from rfl] at hc
    rcases List.mem_append.1 hc with hc | hc
    · exact sgn_asc _ _ c hc
    · rcases List.mem_append.1 hc with hc | hc
      · exact word_asc (h p List.mem_cons_self) c hc
      · exact rest_asc r (fun t ht => h t (List.mem_cons_of_mem _ ht)) c hc
theorem render_asc {hi : Int} {l : List TItem} (h : ∀ t ∈ l, TextM.Good hi t) : ∀ c ∈ render l, c.toNat < 128 := fun c hc => by
  cases l with
  | nil => cases hc
  | cons p r =>
    rw [show render (p :: r) = sgn (decide (p.1 < 0)) true ++ (word p.1 p.2 ++ rest r) from rfl] at hc
    rcases List.mem_append.1 hc with hc | hc
    · exact sgn_asc _ _ c hc
    · rcases List.mem_append.1 hc with hc | hc
      · exact word_asc (h p List.mem_cons_self) c hc
      · exact rest_asc r (fun t ht => h t (List.mem_cons_of_mem _ ht)) c hc
/-- .. of the parts that were read. -/
theorem scans_of {l : List UInt8} {P : List ByteArray} (h : (∀ c ∈ l, c.toNat < 128) → P.map (fun p => p.data.toList) = cutGo [] (l.filter fun c => c != 32)) : Scans l (P.map fun p => readT 999999 p.data.toList) := by
  refine ⟨fun t ht => ?_, fun its h1 h2 h3 => ?_⟩
  · obtain ⟨p, _, rfl⟩ := List.mem_map.1 ht
    exact readT_small (by omega) _
  · have ha : ∀ c ∈ l, c.toNat < 128 := by rw [← h3]; exact render_asc h2
    have := (scansI l).2 its h1 h2 h3
    rw [← this, scanI, ← h ha, List.map_map]
    rfl

theorem termInfo : (Tryz.prog.info? 95).map (fun i => (i.zero, i.size, i.bytes)) = some (some (.agg #[.int .i64 0, .string ByteArray.empty]), 2, 24) := by kernel_rfl

set_option maxHeartbeats 2000000 in
set_option maxRecDepth 100000 in
theorem scanAll (s : ByteArray) (hs : s.size ≤ 1048576) (w : World) (henv : Env w) :
    Calls Tryz.prog 42 #[.string s] w (Scanned s w) := by
  obtain ⟨i0, hi, hz0, hz1, hz2⟩ := info_parts termInfo
  have BL := Lib.hid (blanks s hs w henv)
  have hfl : (s.data.toList.filter fun c => c != 32).length ≤ 1048576 := by
    have := List.length_filter_le (fun c : UInt8 => c != 32) s.data.toList
    rw [size_list] at this
    omega
  have AS := Lib.hid (fun W => atSigns ⟨(s.data.toList.filter fun c => c != 32).toArray⟩ (by rw [size_mk]; exact hfl) W)
  have HS := Lib.hid (fun P h => scans_of (l := s.data.toList) (P := P) h)
  have hasc : (∀ c ∈ s.data.toList, c.toNat < 128) → Asc ⟨(s.data.toList.filter fun c => c != 32).toArray⟩ := fun h c hc => h c (List.mem_filter.1 hc).1
  unfold Parts at AS
  have e0 : (ByteArray.mk (s.data.toList.filter fun c => c != 32).toArray).data.toList = s.data.toList.filter fun c => c != 32 := rfl
  rw [e0] at AS
  have HA := Lib.hid hasc
  clear hasc e0
  have hsz : (ByteArray.mk (s.data.toList.filter fun c => c != 32).toArray).size ≤ 1048576 := by rw [size_mk]; exact hfl
  go_enter Tryz.func42, Tryz.ntmps42
  go_wp2_with fail
  refine (Calls.mono BL.out) ?_
  rintro e w1 ⟨rfl, b1⟩
  go_wp2_with fail
  refine (Calls.mono (AS.out _)) ?_
  rintro e w2 ⟨P, ⟨A, cap, rfl, rA, fA, b2, hA, hcap⟩, hPl, hPs, hPc⟩
  have hPl2 : P.length ≤ 1048577 := by omega
  have HPS := Lib.hid (fun p hp => Nat.le_trans (hPs p hp) hsz)
  have HSC := Lib.hid (HS.out P (fun h => hPc (HA.out h)))
  have B2 := Lib.hid (b1.trans (b2.mono b1.size))
  have E2 := Lib.hid ((henv.below b1).below b2)
  have RA := Lib.hid rA
  clear rA fA b1 b2 hA hcap hPl hPs hPc HS HA AS BL hsz hfl henv
  go_wp2
  go_loopw [3, 10] (fun v i wr => ∃ (k : Nat) (ts : List TItem), k ≤ P.length ∧ i = .int .i64 k ∧ ts = (P.take k).map (fun p => readT 999999 p.data.toList) ∧ ts.length = k ∧
      wr.ownsRow w2.heap.size 95 2 v ts.length (tcells ts) ∧ Below w2.heap.size w2 wr) (fun _ i _ => P.length - (intOf i).toNat)
  case atStart => exact ⟨0, [], Nat.zero_le _, rfl, by simp, rfl, World.ownsRow_nil _ _ _ _, Below.refl _ _⟩
  case round =>
    obtain ⟨k, ts, hk, rfl, hts, hlen, hown, hb⟩ := hrel
    have HT := Lib.hid hts
    have HL := Lib.hid hlen
    have HW := Lib.hid hown
    have HB := Lib.hid hb
    clear hts hown hb
    by_cases hlt : k < P.length
    · obtain ⟨b, o, rfl, hbl, hc⟩ := (RA.out.below HB.out).at_ hlt
      have hg := List.getElem?_eq_getElem hlt
      have hps := HPS.out P[k] (List.getElem_mem hlt)
      generalize P[k] = p at *
      have HN := Lib.hid (show ts ++ [readT 999999 p.data.toList] = (P.take (k + 1)).map (fun p => readT 999999 p.data.toList) by
        rw [List.take_add_one, hg, List.map_append, ← HT.out]; rfl)
      have ST := Lib.hid (scanT p hps wr (E2.out.par.below HB.out))
      unfold GaveT at ST
      generalize readT 999999 p.data.toList = t at *
      have hk0 : (0 : Int) ≤ (k : Int) := by omega
      have hk1 : (k : Int) < (P.length : Int) := by omega
      have hkl : ts.length ≤ 1048577 := by omega
      clear hg hps hlen HT
      go_wp2_with fail
      refine (Calls.mono ST.out) ?_
      rintro e w3 ⟨rfl, b3⟩
      have HB3 := Lib.hid (HB.out.trans (b3.mono HB.out.size))
      have HW3 := Lib.hid (HW.out.kept (row := none) ⟨b3.os, b3.tape, b3.output, b3.size, fun j hj _ => b3.block j hj⟩ (by
        by_cases h : u3.ownBlock = none
        · exact Or.inl h
        · exact Or.inr h))
      clear b3
      go_wp2_with (at_builtin; go_loud (refine wpList_append_own _ rfl (.tmp 14) (.tmp 17) 77 rfl w2.heap.size 95 i0 (.agg #[.int .i64 0, .string ByteArray.empty]) 2 24 Tryz.underlying77 hi hz0 hz1 hz2 rfl (by decide) _ _ _ rfl (HW3.out.alloc _) ⟨w3.heap.size, 0, none⟩ 1 1 [.int .i64 t.1, .string t.2] rfl rfl (cell_two_new _ _ _ _) (by intro u hu; simp at hu; rcases hu with rfl | rfl <;> rfl) (by unfold maxLen; omega) (by omega) (by have := HB3.out.size; simp; omega) ?_); intro v4 w4 hown4 hgrow _)
      have hb4 : Below w2.heap.size w2 w4 := (HB3.out.alloc HB3.out.size _).grown hgrow (by have := HB3.out.size; simp; omega) (fun j hj => (HW3.out.lt j hj).1)
      have hown5 : w4.ownsRow w2.heap.size 95 2 v4 (ts ++ [t]).length (tcells (ts ++ [t])) := by simpa [tcells] using hown4
      have hl5 : (ts ++ [t]).length = k + 1 := by have := HL.out; simp; omega
      have HN5 := Lib.hid hl5
      have HO5 := Lib.hid hown5
      have HB5 := Lib.hid hb4
      clear hown4 hgrow hown5 hl5 hb4
      generalize ts ++ [t] = ts2 at *
      go_wp2
      go_roundw
      case rel => exact ⟨k + 1, ts2, by omega, by go_num, HN.out, HN5.out, HO5.out, HB5.out⟩
      case measure => simp [intOf]; omega
    · have hk' : k = P.length := by omega
      have HF := Lib.hid (show ts = P.map (fun p => readT 999999 p.data.toList) by rw [HT.out, hk', List.take_length])
      have BR := Lib.hid (B2.out.trans (HB.out.mono B2.out.size))
      have hge : decide ((k : Int) < (P.length : Int)) = false := decide_eq_false (by omega)
      go_wp2
      go_ret
      obtain ⟨A', cap, rfl, h1, h2⟩ := trow_own HW.out
      refine ⟨ts, A', cap, rfl, h1, by omega, fun t ht => ?_, by rw [HF.out]; exact HSC.out, BR.out⟩
      rw [HF.out] at ht
      obtain ⟨p, hp, rfl⟩ := List.mem_map.1 ht
      have h1 := readT_name p.data.toList
      have h2 := HPS.out p hp
      rw [size_list] at h1
      omega
end CutI
end Go.Proofs.YtiilopfhlmeaoaaGreatDoor
