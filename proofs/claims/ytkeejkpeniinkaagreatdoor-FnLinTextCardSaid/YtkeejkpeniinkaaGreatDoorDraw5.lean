import Derived.Test.YtkeejkpeniinkaaGreatDoorTextFmtS
import Derived.Test.YtkeejkpeniinkaaGreatDoorDraw4b
import Derived.Test.YtkeejkpeniinkaaGreatDoorDrawOnce
/-
  FormatConstraint, the program's and the model's.
-/
namespace Go.Proofs.YtkeejkpeniinkaaGreatDoor
open Go.RowKit
namespace TextI
open TextM RowK

theorem terms_len : ∀ (ps : List TItem) (t : List UInt8), (∀ p ∈ ps, p.1.natAbs ≤ 1000000000 ∧ p.2.size ≤ 8) → (ps.foldl addU t).length ≤ t.length + 21 * ps.length
  | [], t, _ => by simp
  | p :: ps, t, h => by
    have h1 := addU_len t p (h p List.mem_cons_self).1 (h p List.mem_cons_self).2
    have h2 := terms_len ps (addU t p) (fun q hq => h q (List.mem_cons_of_mem _ hq))
    simp only [List.foldl_cons, List.length_cons]
    omega
/-- A representation is short. -/
theorem F_len (ss : List ByteArray) (z : Int) (zs : List Int) : (F (okB ss) ss z zs).length ≤ 190 := by
  unfold F
  split
  · rename_i h
    have hs8 := okB_small h.1
    have HV := LinM.vldB_iff.1 h.2
    have hm : ∀ p ∈ mk ss z zs, p.1.natAbs ≤ 1000000000 ∧ p.2.size ≤ 8 := fun p hp => by
      unfold mk at hp
      rcases List.mem_append.1 hp with hp | hp
      · have := zip_mem hp
        exact ⟨inC_abs (HV.2.2.2 _ this.1), hs8 _ this.2⟩
      · rw [List.mem_singleton.1 hp]
        exact ⟨inC_abs HV.2.2.1, by show ByteArray.empty.size ≤ 8; decide⟩
    have h1 := terms_len (mk ss z zs) [] hm
    have h2 : (mk ss z zs).length ≤ 9 := by
      unfold mk
      rw [List.length_append, List.length_zip]
      simp; omega
    unfold fmt
    split
    · decide
    · show (List.foldl addU [] (mk ss z zs)).length ≤ 190
      simp only [List.length_nil] at h1
      omega
  · simp
/-- What is written of a constraint. -/
def C (t : List UInt8) : List UInt8 := if t = [] then [] else t ++ [32, 62, 61, 32, 48]

theorem endI (e t : List UInt8) (h : t.isEmpty = false) : C t = t ++ [32, 62, 61, 32, 48] := if_neg (by rintro rfl; cases h)

set_option maxHeartbeats 1000000 in
set_option maxRecDepth 100000 in
theorem cons (lo hi : Nat) (z : Int) (A B : Option Addr) (c d : Nat) (zs : List Int) (ss : List ByteArray) (w : World) (hA : Row lo hi w A (IntK.iv zs)) (hB : StrK.SRow w B ss) (hl : zs.length ≤ 1000000000) (hl2 : ss.length ≤ 1000000000)
    (hs : ∀ s ∈ ss, s.size ≤ 9223372036854775807) (htab : FmtI.Pow w) :
    Calls Tryz.prog 17 #[.agg #[.int .i64 z, .slice A zs.length c], .slice B ss.length d] w fun e w' => e = .returned (.string ⟨(C (F (okB ss) ss z zs)).toArray⟩) ∧ Below w.heap.size w w' := by
  have s0 : Below w.heap.size w (w.alloc (Obj.cells #[Value.int IntKind.i64 z, Value.slice A zs.length c] 26)) := (Below.refl _ _).alloc (Nat.le_refl _) _
  have FO := Lib.hid (format lo hi z A B c d zs ss _ (hA.below s0) (hB.below s0) hl hl2 hs (htab.below s0))
  have B0 := Lib.hid s0
  have hF := F_len ss z zs
  generalize F (okB ss) ss z zs = T at *
  have hcs : T = [] ∨ T.isEmpty = false := by cases T <;> simp
  have had := fun W => add W T [32, 62, 61, 32, 48] (by simp; omega)
  clear s0
  rcases hcs with rfl | hcs
  · go_enter Tryz.func17, Tryz.ntmps17
    go_wp2_with fail
    refine (Calls.mono FO.out) ?_
    rintro e w1 ⟨rfl, b1⟩
    have B1 := Lib.hid (B0.out.trans (b1.mono B0.out.size))
    go_wp2
    go_ret
    exact ⟨rfl, B1.out⟩
  · have HC := Lib.hid (endI [] T hcs)
    go_enter Tryz.func17, Tryz.ntmps17
    go_wp2_with fail
    refine (Calls.mono FO.out) ?_
    rintro e w1 ⟨rfl, b1⟩
    have B1 := Lib.hid (B0.out.trans (b1.mono B0.out.size))
    go_wp2
    go_ret
    exact ⟨ret_str HC.out.symm, B1.out⟩

set_option maxHeartbeats 1000000 in
set_option maxRecDepth 100000 in
theorem consS (lo hi : Nat) (z : Int) (A B : Option Addr) (c d : Nat) (zs : List Int) (ss : List ByteArray) (w : World) (hA : Row lo hi w A (IntK.iv zs)) (hB : StrK.SRow w B ss) (hl : zs.length ≤ 1000000000) (hl2 : ss.length ≤ 1000000000) (hcap : ss.length ≤ d)
    (hs : ∀ s ∈ ss, s.size ≤ 9223372036854775807) :
    Calls Tryz.prog 45 #[.agg #[.int .i64 z, .slice A zs.length c], .slice B ss.length d] w fun e w' => e = .returned (.string ⟨(C (F (okB ss) ss z zs)).toArray⟩) ∧ Below w.heap.size w w' := by
  have s0 : Below w.heap.size w (w.alloc (Obj.cells #[Value.int IntKind.i64 z, Value.slice A zs.length c] 26)) := (Below.refl _ _).alloc (Nat.le_refl _) _
  have FO := Lib.hid (TextS.format lo hi z A B c d zs ss _ (hA.below s0) (hB.below s0) hl hl2 hcap hs)
  have B0 := Lib.hid s0
  have hF := F_len ss z zs
  generalize F (okB ss) ss z zs = T at *
  have hcs : T = [] ∨ T.isEmpty = false := by cases T <;> simp
  have had := fun W => add W T [32, 62, 61, 32, 48] (by simp; omega)
  clear s0
  rcases hcs with rfl | hcs
  · go_enter Tryz.func45, Tryz.ntmps45
    go_wp2_with fail
    refine (Calls.mono FO.out) ?_
    rintro e w1 ⟨rfl, b1⟩
    have B1 := Lib.hid (B0.out.trans (b1.mono B0.out.size))
    go_wp2
    go_ret
    exact ⟨rfl, B1.out⟩
  · have HC := Lib.hid (endI [] T hcs)
    go_enter Tryz.func45, Tryz.ntmps45
    go_wp2_with fail
    refine (Calls.mono FO.out) ?_
    rintro e w1 ⟨rfl, b1⟩
    have B1 := Lib.hid (B0.out.trans (b1.mono B0.out.size))
    go_wp2
    go_ret
    exact ⟨ret_str HC.out.symm, B1.out⟩
end TextI
end Go.Proofs.YtkeejkpeniinkaaGreatDoor

/-
  The draws of the fifth chapter: names, expressions beside names, texts.
-/
namespace Go.Proofs.YtkeejkpeniinkaaGreatDoor
open Go.RowKit
namespace Draw
open RowK

theorem srow_mod {lo hi : Nat} {w w' : World} {B : Option Addr} {ss : List ByteArray} (h : StrK.SRow w B ss) (m : Mod lo hi w w') (hd : ∀ a, B = some a → a.block < lo ∨ hi ≤ a.block) : StrK.SRow w' B ss := fun hn => by
  obtain ⟨b, o, rfl, hlt, hc⟩ := h hn
  have hb := hd _ rfl
  simp only at hb
  exact ⟨b, o, rfl, Nat.lt_of_lt_of_le hlt m.size, fun j s hj => by rw [World.cell?_of_block (w := w) (m.block b hlt (by omega))]; exact hc j s hj⟩
theorem srow_take {w : World} {B : Option Addr} {ss : List ByteArray} (h : StrK.SRow w B ss) (k : Nat) : StrK.SRow w B (ss.take k) := fun hn => by
  obtain ⟨b, o, e, hlt, hc⟩ := h (fun e => hn (by rw [e]; simp))
  exact ⟨b, o, e, hlt, fun j s hj => hc j s (by
    rw [List.getElem?_take] at hj
    split at hj
    · exact hj
    · cases hj)⟩

def bads5 : List ByteArray := [⟨#[110]⟩, ⟨#[110]⟩, ⟨#[105, 102]⟩, ⟨#[]⟩]
def goods5 : List ByteArray := [⟨#[110]⟩, ⟨#[109]⟩, ⟨#[120, 115]⟩, ⟨#[107]⟩]
theorem bads5_size : ∀ s ∈ bads5, s.size ≤ 2 := by decide
theorem goods5_size : ∀ s ∈ goods5, s.size ≤ 2 := by decide
/-- A few short names in new memory. -/
def Some5 (w : World) (g : Nat) (A : Option Addr) (n c : Nat) (e : Ending) (w' : World) : Prop :=
  ∃ ss B d, ss.length ≤ 4 ∧ ss.length ≤ d ∧ (∀ s ∈ ss, s.size ≤ 2) ∧ e = .returned (.slice B ss.length d) ∧ StrK.SRow w' B ss ∧ (∀ a, B = some a → w.heap.size ≤ a.block) ∧ Kept w g A n c w'
theorem some5_fin {w w2 w3 : World} {g n c : Nat} {A : Option Addr} (ls : List ByteArray) (h4 : ls.length = 4) (hs : ∀ s ∈ ls, s.size ≤ 2) (j : Nat) (hj : j ≤ 4) (hL : Left w g A n c w2)
    (hL2 : Left (w2.alloc (.cells (ls.map Value.string).toArray 9)) g A n c w3) : Some5 w g A n c (.returned (.slice (some ⟨w2.heap.size, 0, none⟩) j 4)) w3 := by
  have hl : (ls.take j).length = j := by rw [List.length_take, h4]; omega
  have hgl := hL.1.lt
  refine ⟨ls.take j, some ⟨w2.heap.size, 0, none⟩, 4, by omega, by omega, fun s h => hs s (List.mem_of_mem_take h), by rw [hl], srow_take ((row_new w2 ls 9).only hL2.2 (fun a y e e' => by injection e with e; injection e' with e'; subst e; subst e'; show w2.heap.size ≠ g; omega)) j, fun a e => by injection e with e; subst e; exact hL.2.size, (hL.trans (left_keep hgl ((Below.refl _ _).alloc (Nat.le_refl _) _) hL2)).kept⟩

set_option maxHeartbeats 1000000 in
set_option maxRecDepth 100000 in
theorem some5 (g : Nat) (A : Option Addr) (n c : Nat) (w : World) (hC : Cur w g A n c) :
    Calls Tryz.prog 26 #[.pointer (some ⟨g, 0, none⟩)] w (Some5 w g A n c) := by
  go_enter Tryz.func26, Tryz.ntmps26
  go_wp2_with fail
  refine (once g A n c 12 (by omega) _ hC).mono ?_
  rintro e w2 ⟨b, rfl, hL⟩
  cases b
  · go_wp2_with fail
    have hba : Below w2.heap.size w2 (w2.alloc (.cells (goods5.map Value.string).toArray 9)) := (Below.refl _ _).alloc (Nat.le_refl _) _
    refine ((below g A n c 5 (by omega) (w2.alloc (.cells (goods5.map Value.string).toArray 9)) (hL.1.keep hba))).mono ?_
    rintro e w3 ⟨x, hx0, hx1, _, rfl, hL2⟩
    have hx5 := hx1 (by omega)
    obtain ⟨j, rfl⟩ := Int.eq_ofNat_of_zero_le hx0
    have hj4 : (j : Int) ≤ 4 := by omega
    have hj4n : j ≤ 4 := by omega
    have F := Lib.hid (some5_fin goods5 rfl goods5_size j (by omega) hL hL2)
    clear hx1 hx0 hL2 hL hba
    go_wp2
    go_ret
    exact F.out
  · go_wp2_with fail
    have hba : Below w2.heap.size w2 (w2.alloc (.cells (bads5.map Value.string).toArray 9)) := (Below.refl _ _).alloc (Nat.le_refl _) _
    refine ((below g A n c 5 (by omega) (w2.alloc (.cells (bads5.map Value.string).toArray 9)) (hL.1.keep hba))).mono ?_
    rintro e w3 ⟨x, hx0, hx1, _, rfl, hL2⟩
    have hx5 := hx1 (by omega)
    obtain ⟨j, rfl⟩ := Int.eq_ofNat_of_zero_le hx0
    have hj4 : (j : Int) ≤ 4 := by omega
    have hj4n : j ≤ 4 := by omega
    have F := Lib.hid (some5_fin bads5 rfl bads5_size j (by omega) hL hL2)
    clear hx1 hx0 hL2 hL hba
    go_wp2
    go_ret
    exact F.out

/-- A text of at most so many bytes, in the cursor's world. -/
def Turned (m : Nat) (w : World) (g : Nat) (A : Option Addr) (n c : Nat) (e : Ending) (w' : World) : Prop := ∃ s : ByteArray, s.size ≤ m ∧ e = .returned (.string s) ∧ Left w g A n c w'
theorem drew_left {w w' : World} {g : Nat} {A : Option Addr} {n c : Nat} (h : Left w.drew g A n c w') : Left w g A n c w' := ⟨h.1, ⟨h.2.os, h.2.tape, h.2.output, h.2.size, h.2.block⟩⟩

set_option maxHeartbeats 2000000 in
set_option maxRecDepth 100000 in
theorem turned (g : Nat) (A : Option Addr) (n c : Nat) (s : ByteArray) (hs : s.size ≤ 1000) (B : Option Addr) (k d : Nat) (ls : List ByteArray) (hk : ls.length = k) (hne : ls ≠ []) (hmax : k ≤ 1000000) (hm : ∀ x ∈ ls, x.size ≤ 4) (w : World) (hC : Cur w g A n c) (hB : StrK.SRow w B ls) (hg : ∀ b, B = some b → b.block ≠ g) :
    Calls Tryz.prog 44 #[.pointer (some ⟨g, 0, none⟩), .string s, .slice B k d] w (Turned (s.size + 4) w g A n c) := by
  have HS := Lib.hid hs
  go_enter Tryz.func44, Tryz.ntmps44
  go_wp2_with fail
  refine (below g A n c ((s.size : Int) + 1) (by omega) _ hC).mono ?_
  rintro e w1 ⟨x, hx0, hx1, _, rfl, hL1⟩
  have hx2 := hx1 (by omega)
  obtain ⟨j, rfl⟩ := Int.eq_ofNat_of_zero_le hx0
  have hj : (j : Int) ≤ (s.size : Int) := by omega
  have hjn : j ≤ s.size := by omega
  have R1 := hB.only hL1.2 (fun a y e e' => by injection e' with e'; subst e'; exact hg a e)
  clear hx1 hx2 hx0
  go_wp2_with fail
  refine (below g A n c 6 (by omega) _ hL1.1).mono ?_
  rintro e w2 ⟨y, hy0, hy1, _, rfl, hL2⟩
  have R2 := Lib.hid (R1.only hL2.2 (fun a y e e' => by injection e' with e'; subst e'; exact hg a e))
  have HL := Lib.hid (hL1.trans hL2)
  have h1 : (s.extract 0 j).size = j := by rw [ByteArray.size_extract]; omega
  have h2 : (s.extract j s.size).size = s.size - j := by rw [ByteArray.size_extract]; omega
  clear hy1 R1 hL1 hL2
  by_cases y0 : y = 0
  · subst y0
    have HJ := Lib.hid (And.intro h1 h2)
    have PK := Lib.hid (pick g A n c B k d ls hk hne hmax w2.drew (HL.out.1.keep (Below.refl _ _).drew) (R2.out.below (Below.refl _ _).drew) hg)
    have HM := Lib.hid hm
    have hcat : ∀ (t : ByteArray) (W : World), t.size ≤ 4 → Sem.run Tryz.prog (Op.stringOp .add (s.extract 0 j) t) W = .ok (.string (s.extract 0 j ++ t)) W ∧ Sem.run Tryz.prog (Op.stringOp .add (s.extract 0 j ++ t) (s.extract j s.size)) W = .ok (.string (s.extract 0 j ++ t ++ s.extract j s.size)) W := fun t W ht =>
      ⟨run_string_add_sum W _ _ (by rw [HJ.out.1]; omega), run_string_add_sum W _ _ (by rw [ByteArray.size_append, HJ.out.1, HJ.out.2]; omega)⟩
    have HCT := Lib.hid hcat
    clear h1 h2 hs hk hne hmax hm hcat hB hC
    go_wp2_with fail
    go_region_law (first
      | (go_simp; go_at_call 71; refine (Calls.mono PK.out) ?_; rintro e w4 ⟨t, ht, rfl, hL⟩; (have ht := HM.out t ht); (have c1 := fun W => (HCT.out t W ht).1); (have c2 := fun W => (HCT.out t W ht).2)))
    all_goals
      have F := Lib.hid (show Turned (s.size + 4) w g A n c (.returned (.string (s.extract 0 j ++ t ++ s.extract j s.size))) w4 from ⟨_, by rw [ByteArray.size_append, ByteArray.size_append, HJ.out.1, HJ.out.2]; omega, rfl, HL.out.trans (drew_left hL)⟩)
      clear c1 c2 ht hL
      go_wp2
      go_ret
      exact F.out
  · have y0' : (y == 0) = false := by simpa using y0
    by_cases y1 : y = 1
    · subst y1
      have F := Lib.hid (show Turned (s.size + 4) w g A n c (.returned (.string (s.extract 0 j))) w2 from ⟨_, by rw [h1]; omega, rfl, HL.out⟩)
      clear h1 h2 y0
      go_wp2
      go_ret
      exact F.out
    · have y1' : (y == 1) = false := by simpa using y1
      have F := Lib.hid (show Turned (s.size + 4) w g A n c (.returned (.string s)) w2 from ⟨_, by omega, rfl, HL.out⟩)
      clear h1 h2 y0 y1
      go_wp2
      go_ret
      exact F.out

/-- An expression and names. -/
def LinNames (w : World) (e : Ending) (w' : World) : Prop :=
  ∃ z zs B d ss C f lo hi, e = .returned (.tuple #[.agg #[.int .i64 z, .slice B zs.length d], .slice C ss.length f]) ∧ Any4 z zs d ∧ zs.length ≤ d ∧ ss.length ≤ 4 ∧ ss.length ≤ f ∧ (∀ s ∈ ss, s.size ≤ 2) ∧ Row lo hi w' B (IntK.iv zs) ∧ StrK.SRow w' C ss ∧ Below w.heap.size w w'
theorem names_fin {w wr : World} {lo hi d f : Nat} {B C : Option Addr} {z : Int} {zs : List Int} {ss : List ByteArray} (hb : Below w.heap.size w wr) (hB : Row lo hi wr B (IntK.iv zs)) (h1 : w.heap.size + 1 ≤ lo) (hC : StrK.SRow wr C ss) (h2 : ∀ a, C = some a → w.heap.size + 1 ≤ a.block) (hP : Any4 z zs d) (hd : zs.length ≤ d) (h4 : ss.length ≤ 4) (hf : ss.length ≤ f) (hs : ∀ s ∈ ss, s.size ≤ 2) :
    LinNames w (.returned (.tuple #[.agg #[.int .i64 z, .slice B zs.length d], .slice C ss.length f])) ((wr.setCell ⟨w.heap.size, 0, none⟩ (.int .i64 z)).setCell ⟨w.heap.size, 1, none⟩ (.slice B zs.length d)) := by
  have mm : Mod w.heap.size (w.heap.size + 1) wr ((wr.setCell ⟨w.heap.size, 0, none⟩ (.int .i64 z)).setCell ⟨w.heap.size, 1, none⟩ (.slice B zs.length d)) := (Mod.set _ (p := ⟨w.heap.size, 0, none⟩) (Nat.le_refl _) (Nat.lt_succ_self _) _).trans (Mod.set _ (p := ⟨w.heap.size, 1, none⟩) (Nat.le_refl _) (Nat.lt_succ_self _) _)
  exact ⟨z, zs, B, d, ss, C, f, lo, hi, rfl, hP, hd, h4, hf, hs, hB.keep mm (Or.inr h1), srow_mod hC mm (fun a e => Or.inr (h2 a e)), (hb.setCell (by simp) _).setCell (by simp) _⟩
theorem small_any {m d : Nat} {z : Int} {zs : List Int} (hm : m ≤ 4) (h : Small4 m z zs d) : Any4 z zs d := by
  obtain ⟨h1, h2, _, h3⟩ := h
  exact ⟨⟨by omega, by omega⟩, by omega, fun x hx => ⟨by have := h3 x hx; omega, by have := h3 x hx; omega⟩⟩

set_option maxHeartbeats 2000000 in
set_option maxRecDepth 100000 in
theorem lin5 (A : Option Addr) (n c : Nat) (hn : n ≤ 1048576) (w : World) (hc : Code w A n) :
    Calls Tryz.prog 7 #[.slice A n c] w (LinNames w) := by
  have b0 : Below w.heap.size w (w.alloc (Obj.cells #[Value.int IntKind.i64 0, Value.slice none 0 0] 26)) := (Below.refl _ _).alloc (Nat.le_refl _) _
  have B0 := Lib.hid b0
  have La := Lib.hid (Lvar.new w #[Value.int IntKind.i64 0, Value.slice none 0 0] 26)
  clear b0
  go_enter Tryz.func7, Tryz.ntmps7
  go_wp2_with fail
  refine (new A n c hn _ (hc.keep B0.out)).mono ?_
  rintro e w1 ⟨g, rfl, hC, hg, hb⟩
  simp only [World.size_alloc] at hg
  have B1 := Lib.hid (B0.out.trans (hb.mono B0.out.size))
  have La1 := Lib.hid (La.out.below hb)
  have hgl := hC.lt
  have hl1 := La1.out.lt
  clear hb La B0
  go_wp2_with fail
  refine (some5 g A n c _ hC).mono ?_
  rintro e w2 ⟨ss, C, f, h4, hf, hs2, rfl, rC, hCa, hK⟩
  have m2 := hK.2
  have hz2 := m2.size
  have K2 := Lib.hid hK
  have La2 := Lib.hid (La1.out.keep m2 (by omega))
  have RC2 := Lib.hid rC
  have HCA := Lib.hid hCa
  have HF := Lib.hid hf
  have HS2 := Lib.hid hs2
  clear hK m2 rC hCa hf hs2 La1
  go_wp2_with fail
  refine (once g A n c 6 (by omega) _ K2.out.1).mono ?_
  rintro e w3 ⟨q, rfl, hL⟩
  have m3 := hL.kept.2
  have hz3 := m3.size
  have K3 := Lib.hid (K2.out.trans hL.kept)
  have La3 := Lib.hid (La2.out.keep m3 (by omega))
  have RC3 := Lib.hid (srow_mod RC2.out m3 (fun a e => Or.inr (by have := HCA.out a e; omega)))
  clear hL m3 K2 La2 RC2
  cases q with
  | false =>
    go_wp2_with fail
    refine (draw4 g A n c ss.length (by omega) _ K3.out.1).mono ?_
    rintro e w4 ⟨z, zs, B, d, rfl, hP, hd, hO, hK⟩
    have m4 := hK.2
    have La4 := Lib.hid (La3.out.keep m4 (by omega))
    have RC4 := srow_mod RC3.out m4 (fun a e => Or.inr (by have := HCA.out a e; omega))
    have l0 := La4.out.cell 0 (.int .i64 0) rfl
    have l1 := La4.out.cell 1 (.slice none 0 0) rfl
    have p0 := La4.out.frozen 0
    have p1 := La4.out.frozen 1
    have F := Lib.hid (names_fin (f := f) (kept_new B1.out (by omega) (K3.out.trans hK)) hO.1 (by omega) RC4 (fun a e => by have := HCA.out a e; omega) (small_any h4 hP) hd h4 HF.out HS2.out)
    clear hP hd hO hK m4 RC4
    go_wp2
    exact bodyPost_ret (v := .tuple #[.agg #[.int .i64 z, .slice B zs.length d], .slice C ss.length f]) (by simp [results, Tryz.results7, go_sem, l0, l1]) rfl F.out
  | true =>
    go_wp2_with fail
    refine (bent4 g A n c _ K3.out.1).mono ?_
    rintro e w4 ⟨z, zs, B, d, rfl, hP, hd, hO, hK⟩
    have m4 := hK.2
    have La4 := Lib.hid (La3.out.keep m4 (by omega))
    have RC4 := srow_mod RC3.out m4 (fun a e => Or.inr (by have := HCA.out a e; omega))
    have l0 := La4.out.cell 0 (.int .i64 0) rfl
    have l1 := La4.out.cell 1 (.slice none 0 0) rfl
    have p0 := La4.out.frozen 0
    have p1 := La4.out.frozen 1
    have F := Lib.hid (names_fin (f := f) (kept_new B1.out (by omega) (K3.out.trans hK)) hO.1 (by omega) RC4 (fun a e => by have := HCA.out a e; omega) hP hd h4 HF.out HS2.out)
    clear hP hd hO hK m4 RC4
    go_wp2
    exact bodyPost_ret (v := .tuple #[.agg #[.int .i64 z, .slice B zs.length d], .slice C ss.length f]) (by simp [results, Tryz.results7, go_sem, l0, l1]) rfl F.out

/-- A text and names. -/
def TextNames (w : World) (e : Ending) (w' : World) : Prop :=
  ∃ s ss C f, e = .returned (.tuple #[.string s, .slice C ss.length f]) ∧ s.size ≤ 200 ∧ ss.length ≤ 4 ∧ ss.length ≤ f ∧ (∀ x ∈ ss, x.size ≤ 2) ∧ StrK.SRow w' C ss ∧ Below w.heap.size w w'
def turns5 : List ByteArray := [⟨#[32]⟩, ⟨#[45]⟩, ⟨#[32, 43, 32, 49]⟩, ⟨#[110]⟩, ⟨#[48]⟩, ⟨#[50]⟩, ⟨#[32, 32]⟩]
theorem turns5_size : ∀ s ∈ turns5, s.size ≤ 4 := by decide
def turns5c : List ByteArray := [⟨#[32]⟩, ⟨#[61]⟩, ⟨#[62, 61, 32, 48]⟩, ⟨#[110]⟩, ⟨#[48]⟩]
theorem turns5c_size : ∀ s ∈ turns5c, s.size ≤ 4 := by decide
theorem C_len (t : List UInt8) (h : t.length ≤ 190) : (TextI.C t).length ≤ 195 := by
  unfold TextI.C
  split
  · simp
  · simp; omega

set_option maxHeartbeats 2000000 in
set_option maxRecDepth 100000 in
theorem parse5 (A : Option Addr) (n c : Nat) (hn : n ≤ 1048576) (w : World) (hc : Code w A n) :
    Calls Tryz.prog 13 #[.slice A n c] w (TextNames w) := by
  go_enter Tryz.func13, Tryz.ntmps13
  go_wp2_with fail
  refine (lin5 A n c hn _ hc).mono ?_
  rintro e w1 ⟨z, zs, B, d, ss, C, f, lo, hi, rfl, hP, hd, h4, hf, hs2, rB, rC, b1⟩
  have hz9 : zs.length ≤ 9 := hP.2.1
  have s2 : Below w1.heap.size w1 (w1.alloc (Obj.cells #[Value.int IntKind.i64 z, Value.slice B zs.length d] 26)) := (Below.refl _ _).alloc (Nat.le_refl _) _
  have Ll := Lib.hid (Lvar.new w1 #[Value.int IntKind.i64 z, Value.slice B zs.length d] 26)
  have hcc := Lib.hid ((hc.keep b1).keep s2)
  have FO := Lib.hid (fun W (h : Below w1.heap.size w1 W) => TextS.format lo hi z B C d f zs ss W (rB.below h) (rC.below h) (by omega) (by omega) hf (fun s hs => by have := hs2 s hs; omega))
  have hFl := TextI.F_len ss z zs
  have RC := Lib.hid rC
  have B1 := Lib.hid b1
  have S2 := Lib.hid s2
  have HSS := Lib.hid hs2
  have HFF := Lib.hid hf
  generalize TextI.F (TextI.okB ss) ss z zs = T at *
  clear hP hd hf hs2 rB rC b1 s2 hc
  go_wp2_with fail
  refine (new A n c hn _ hcc.out).mono ?_
  rintro e w2 ⟨g, rfl, hC, hg, hb⟩
  simp only [World.size_alloc] at hg
  have B2 := Lib.hid (S2.out.trans (hb.mono S2.out.size))
  have HC := Lib.hid hC
  have v0 := (Ll.out.below hb).cell 0 (.int .i64 z) rfl
  have v1 := (Ll.out.below hb).cell 1 (.slice B zs.length d) rfl
  clear hb hC S2 hcc Ll
  go_wp2_with fail
  refine (Calls.mono (FO.out _ B2.out)) ?_
  rintro e w3 ⟨rfl, b3⟩
  have hgl := HC.out.lt
  have hz3 := b3.size
  have hba : Below w3.heap.size w3 (w3.alloc (.cells (turns5.map Value.string).toArray 9)) := (Below.refl _ _).alloc (Nat.le_refl _) _
  have B3 := Lib.hid (B2.out.trans ((b3.mono B2.out.size).trans (hba.mono (Nat.le_trans B2.out.size hz3))))
  have TU := Lib.hid (turned g A n c ⟨T.toArray⟩ (by rw [TextI.size_mk]; omega) (some ⟨w3.heap.size, 0, none⟩) 7 7 turns5 rfl (by decide) (by omega) turns5_size _ ((HC.out.keep b3).keep hba) (row_new w3 turns5 9) (fun b e => by injection e with e; subst e; show w3.heap.size ≠ g; omega))
  clear b3 hba v0 v1 FO
  go_wp2_with fail
  refine (Calls.mono TU.out) ?_
  rintro e w4 ⟨s, hs, rfl, hL⟩
  rw [TextI.size_mk T] at hs
  have b4 := below_left B3.out (by omega) hL
  have F := Lib.hid (show TextNames w (.returned (.tuple #[.string s, .slice C ss.length f])) w4 from ⟨s, ss, C, f, rfl, by omega, h4, HFF.out, HSS.out, RC.out.below b4, B1.out.trans (b4.mono B1.out.size)⟩)
  clear hs hL b4 TU
  go_wp2
  go_ret2
  exact F.out

set_option maxHeartbeats 2000000 in
set_option maxRecDepth 100000 in
theorem cons5 (A : Option Addr) (n c : Nat) (hn : n ≤ 1048576) (w : World) (hc : Code w A n) :
    Calls Tryz.prog 14 #[.slice A n c] w (TextNames w) := by
  go_enter Tryz.func14, Tryz.ntmps14
  go_wp2_with fail
  refine (lin5 A n c hn _ hc).mono ?_
  rintro e w1 ⟨z, zs, B, d, ss, C, f, lo, hi, rfl, hP, hd, h4, hf, hs2, rB, rC, b1⟩
  have hz9 : zs.length ≤ 9 := hP.2.1
  have s2 : Below w1.heap.size w1 (w1.alloc (Obj.cells #[Value.int IntKind.i64 z, Value.slice B zs.length d] 26)) := (Below.refl _ _).alloc (Nat.le_refl _) _
  have Ll := Lib.hid (Lvar.new w1 #[Value.int IntKind.i64 z, Value.slice B zs.length d] 26)
  have hcc := Lib.hid ((hc.keep b1).keep s2)
  have FO := Lib.hid (fun W (h : Below w1.heap.size w1 W) => TextI.consS lo hi z B C d f zs ss W (rB.below h) (rC.below h) (by omega) (by omega) hf (fun s hs => by have := hs2 s hs; omega))
  have hFl := C_len _ (TextI.F_len ss z zs)
  have RC := Lib.hid rC
  have B1 := Lib.hid b1
  have S2 := Lib.hid s2
  have HSS := Lib.hid hs2
  have HFF := Lib.hid hf
  generalize TextI.C (TextI.F (TextI.okB ss) ss z zs) = T at *
  clear hP hd hf hs2 rB rC b1 s2 hc
  go_wp2_with fail
  refine (new A n c hn _ hcc.out).mono ?_
  rintro e w2 ⟨g, rfl, hC, hg, hb⟩
  simp only [World.size_alloc] at hg
  have B2 := Lib.hid (S2.out.trans (hb.mono S2.out.size))
  have HC := Lib.hid hC
  have v0 := (Ll.out.below hb).cell 0 (.int .i64 z) rfl
  have v1 := (Ll.out.below hb).cell 1 (.slice B zs.length d) rfl
  clear hb hC S2 hcc Ll
  go_wp2_with fail
  refine (Calls.mono (FO.out _ B2.out)) ?_
  rintro e w3 ⟨rfl, b3⟩
  have hgl := HC.out.lt
  have hz3 := b3.size
  have hba : Below w3.heap.size w3 (w3.alloc (.cells (turns5c.map Value.string).toArray 9)) := (Below.refl _ _).alloc (Nat.le_refl _) _
  have B3 := Lib.hid (B2.out.trans ((b3.mono B2.out.size).trans (hba.mono (Nat.le_trans B2.out.size hz3))))
  have TU := Lib.hid (turned g A n c ⟨T.toArray⟩ (by rw [TextI.size_mk]; omega) (some ⟨w3.heap.size, 0, none⟩) 5 5 turns5c rfl (by decide) (by omega) turns5c_size _ ((HC.out.keep b3).keep hba) (row_new w3 turns5c 9) (fun b e => by injection e with e; subst e; show w3.heap.size ≠ g; omega))
  clear b3 hba v0 v1 FO
  go_wp2_with fail
  refine (Calls.mono TU.out) ?_
  rintro e w4 ⟨s, hs, rfl, hL⟩
  rw [TextI.size_mk T] at hs
  have b4 := below_left B3.out (by omega) hL
  have F := Lib.hid (show TextNames w (.returned (.tuple #[.string s, .slice C ss.length f])) w4 from ⟨s, ss, C, f, rfl, by omega, h4, HFF.out, HSS.out, RC.out.below b4, B1.out.trans (b4.mono B1.out.size)⟩)
  clear hs hL b4 TU
  go_wp2
  go_ret2
  exact F.out
end Draw
end Go.Proofs.YtkeejkpeniinkaaGreatDoor
