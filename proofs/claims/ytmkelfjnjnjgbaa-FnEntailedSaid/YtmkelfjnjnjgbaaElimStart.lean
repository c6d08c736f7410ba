import Derived.Test.YtmkelfjnjnjgbaaElimJoin
import Derived.Deep.CutRange
import Derived.Deep.AppendLies
import Derived.Test.YtmkelfjnjnjgbaaLinImpl2
/-
  The model's elimination: a variable disappears.
-/
namespace Go.Proofs.Ytmkelfjnjnjgbaa
open Go.RowKit
namespace ElimS
open RowK Mem ElimM ArithM LinM

theorem drInfo : (Try.prog.info? 76).map (fun i => (i.zero, i.size, i.bytes)) = some (some (.agg #[.int .i64 0, .slice none 0 0, .slice none 0 0]), 3, 56) := by kernel_rfl
/-- Derived rows that are only read. -/
def GaveL (w : World) (M : List DR) (e : Ending) (w' : World) : Prop := ∃ A c fp, e = .returned (.slice A M.length c) ∧ drs.rep false w' fp [.slice A M.length c] M ∧ Below w.heap.size w w'
/-- Behind the combination's statement. -/
def AfterD (w : World) (r : Option DR) (s t : Value) (wx : World) : Prop :=
  ∃ b z A n a B m c, s = .pointer (some ⟨b, 0, none⟩) ∧ t = .bool r.isSome ∧ w.heap.size ≤ b ∧ Lvar wx b #[.int .i64 z, .slice A n a, .slice B m c] ∧ (∀ d, r = some d → z = d.1.1 ∧ n = d.1.2.length ∧ m = d.2.length ∧ n ≤ a ∧ m ≤ c ∧ Row w.heap.size wx.heap.size wx A (IntK.iv d.1.2) ∧ Row w.heap.size wx.heap.size wx B (IntK.iv d.2)) ∧ Below w.heap.size w wx
theorem afterD_new {w w5 : World} {r : Option DR} {lo n a m c : Nat} {z : Int} {A B : Option Addr} {t : TypeId} (hd : Below w.heap.size w w5) (hr : ∀ d, r = some d → z = d.1.1 ∧ n = d.1.2.length ∧ m = d.2.length ∧ n ≤ a ∧ m ≤ c ∧ Row lo w5.heap.size w5 A (IntK.iv d.1.2) ∧ Row lo w5.heap.size w5 B (IntK.iv d.2)) (hlo : w.heap.size ≤ lo) :
    AfterD w r (.pointer (some ⟨w5.heap.size, 0, none⟩)) (.bool r.isSome) (w5.alloc (Obj.cells #[.int .i64 z, .slice A n a, .slice B m c] t)) := by
  have b : Below w5.heap.size w5 (w5.alloc (Obj.cells #[.int .i64 z, .slice A n a, .slice B m c] t)) := (Below.refl _ _).alloc (Nat.le_refl _) _
  refine ⟨_, z, A, n, a, B, m, c, rfl, rfl, hd.size, Lvar.new _ _ _, fun d h => ?_, hd.alloc hd.size _⟩
  obtain ⟨h1, h2, h3, h4, h5, h6, h7⟩ := hr d h
  exact ⟨h1, h2, h3, h4, h5, (h6.below b).wider hlo b.size (Nat.le_refl _), (h7.below b).wider hlo b.size (Nat.le_refl _)⟩
theorem afterD_old {w w5 : World} {r : Option DR} {lo n a m c b : Nat} {z : Int} {A B : Option Addr} {u1 u2 u3 : Value} (hd : Below w.heap.size w w5) (v : Lvar w5 b #[u1, u2, u3]) (hr : ∀ d, r = some d → z = d.1.1 ∧ n = d.1.2.length ∧ m = d.2.length ∧ n ≤ a ∧ m ≤ c ∧ Row lo w5.heap.size w5 A (IntK.iv d.1.2) ∧ Row lo w5.heap.size w5 B (IntK.iv d.2)) (hb : w.heap.size ≤ b) (hlo : b < lo) :
    AfterD w r (.pointer (some ⟨b, 0, none⟩)) (.bool r.isSome) (((w5.setCell ⟨b, 0, none⟩ (.int .i64 z)).setCell ⟨b, 1, none⟩ (.slice A n a)).setCell ⟨b, 2, none⟩ (.slice B m c)) := by
  have mm : Mod b (b + 1) w5 (((w5.setCell ⟨b, 0, none⟩ (.int .i64 z)).setCell ⟨b, 1, none⟩ (.slice A n a)).setCell ⟨b, 2, none⟩ (.slice B m c)) := ((Mod.set _ (p := ⟨b, 0, none⟩) (Nat.le_refl _) (Nat.lt_succ_self _) _).trans (Mod.set _ (p := ⟨b, 1, none⟩) (Nat.le_refl _) (Nat.lt_succ_self _) _)).trans (Mod.set _ (p := ⟨b, 2, none⟩) (Nat.le_refl _) (Nat.lt_succ_self _) _)
  have hv := ((v.set 0 (.int .i64 z)).set 1 (.slice A n a)).set 2 (.slice B m c)
  refine ⟨b, z, A, n, a, B, m, c, rfl, rfl, hb, by simpa using hv, fun d h => ?_, ((hd.setCell hb _).setCell hb _).setCell hb _⟩
  obtain ⟨h1, h2, h3, h4, h5, h6, h7⟩ := hr d h
  exact ⟨h1, h2, h3, h4, h5, (h6.keep mm (Or.inr hlo)).wider (by omega) mm.size (Nat.le_refl _), (h7.keep mm (Or.inr hlo)).wider (by omega) mm.size (Nat.le_refl _)⟩

def ListR (w : World) (v : Value) (M : List DR) (wr : World) : Prop := Listed dr 76 w.heap.size wr v M ∧ Below w.heap.size w wr
def Rel1 (w : World) (i : Nat) (L : List DR) (v s : Value) (wr : World) : Prop := ∃ k : Nat, k ≤ L.length ∧ s = .int .i64 k ∧ ListR w v (zeros i (L.take k)) wr
def Rel2 (w : World) (i : Nat) (L : List DR) (v s : Value) (wr : World) : Prop := ∃ k : Nat, k ≤ L.length ∧ s = .int .i64 k ∧ ListR w v (zeros i L ++ combs i (L.take k) L) wr
def Rel3 (w : World) (i k : Nat) (L : List DR) (x : DR) (v s : Value) (wr : World) : Prop := ∃ j : Nat, j ≤ L.length ∧ (0 < cf x i ∨ j = 0) ∧ s = .int .i64 j ∧ ListR w v (zeros i L ++ combs i (L.take k) L ++ pairs i x (L.take j)) wr
theorem listed_lt {α : Type} {r : Rep α} {e : TypeId} {base : Nat} {w : World} {v : Value} {xs : List α} (h : Listed r e base w v xs) : ∀ g, v.ownBlock = some g → base ≤ g ∧ g < w.heap.size := by
  obtain ⟨es, _, h2, _⟩ := h
  exact fun g e => h2.lt g e
theorem zeros_len (i : Nat) (L : List DR) : (zeros i L).length ≤ L.length := List.length_filter_le _ _
theorem lens {i k j : Nat} {L : List DR} {x : DR} (h : L.length ≤ 60) : (zeros i L ++ combs i (L.take k) L ++ pairs i x (L.take j)).length ≤ 4000 := by
  have h1 := zeros_len i L
  have h2 := combs_len i (L.take k) L
  have h3 := pairs_len i x (L.take j)
  have h4 : (L.take k).length ≤ 60 := by rw [List.length_take]; omega
  have h5 : (L.take j).length ≤ 60 := by rw [List.length_take]; omega
  have h6 : (L.take k).length * L.length ≤ 60 * 60 := Nat.mul_le_mul h4 h
  simp only [List.length_append]
  omega
/-- One more, read from the list or made anew. -/
theorem listR_snoc {w wr w5 : World} {v v5 : Value} {M : List DR} {z : Int} {n a m c : Nat} {A B : Option Addr} {r : DR} {f : List Nat} {es : List (El DR)}
    (hes : vals es = M) (he : ∀ y ∈ es, dr.rep false wr y.1 y.2.1 y.2.2) (hd : ∀ b ∈ fps es, v.ownBlock ≠ some b) (hb : Below w.heap.size w wr)
    (hown : wr.ownsRow w.heap.size 76 3 v M.length (cells es)) (hx : dr.rep false wr f [.int .i64 z, .slice A n a, .slice B m c] r) (hxd : ∀ b ∈ f, v.ownBlock ≠ some b) (o : Obj)
    (h5 : w5.ownsRow w.heap.size 76 3 v5 (M.length + 1) (cells es ++ [.int .i64 z, .slice A n a, .slice B m c])) (hg : (wr.alloc o).grownBy w5 v.ownBlock) (hw : v5.ownBlock = v.ownBlock ∨ ∀ g, v5.ownBlock = some g → (wr.alloc o).heap.size ≤ g) : ListR w v5 (M ++ [r]) w5 := by
  have ta : Below wr.heap.size wr (wr.alloc o) := (Below.refl _ _).alloc (Nat.le_refl _) _
  refine ⟨Listed.snoc (w := wr.alloc o) hes (fun y hy => Rep.below (he y hy) ta) hd (Rep.below hx ta) hxd h5 hg hw, ?_⟩
  exact (hb.alloc hb.size o).grown hg (by have := hb.size; simp; omega) (fun j hj => (hown.lt j hj).1)
end ElimS
end Go.Proofs.Ytmkelfjnjnjgbaa

/-
  The model's elimination: the list without a variable.
-/
namespace Go.Proofs.Ytmkelfjnjnjgbaa
open Go.RowKit
namespace ElimS
open RowK Mem ElimM ArithM LinM

set_option maxHeartbeats 8000000 in
set_option maxRecDepth 100000 in
theorem eliminate {N : Int} {m : Nat} (q : Bool) (fp : List Nat) (A : Option Addr) (c i : Nat) (L : List DR) (w : World) (hok : ∀ r ∈ L, okD N m r) (hm : m ≤ 1000) (hi : (i : Int) < N) (hL : L.length ≤ 60) (hA : drs.rep q w fp [.slice A L.length c] L) :
    Calls Try.prog 47 #[.slice A L.length c, .int .i64 i] w (GaveL w (elimD L i)) := by
  obtain ⟨i0, hi0, hz0, hz1, hz2⟩ := info_parts drInfo
  have HI := Lib.hid hi0
  have HZ0 := Lib.hid hz0
  have HZ1 := Lib.hid hz1
  have HZ2 := Lib.hid hz2
  have hu := Lib.hid Try.underlying74
  have HA := Lib.hid hA
  have HFP := Lib.hid (drs.lt hA)
  have HOK := Lib.hid hok
  have HLEN := Lib.hid (fun r (h : r ∈ L) => (show i < r.1.2.length from by have := (vldB_iff.1 (hok r h).1).2.1; omega))
  have START := Lib.hid (show ListR w (.slice (some ⟨w.heap.size, 0, none⟩) 0 0) [] (w.alloc (.cells #[] 76)) from ⟨Listed.empty _ _ _, (Below.refl _ _).alloc (Nat.le_refl _) _⟩)
  clear hi0 hz0 hz1 hz2 hA hok hi
  go_enter Try.func47, Try.ntmps47
  go_wp2
  go_loopw [5, 6] (fun v s wr => Rel1 w i L v s wr) (fun _ s _ => L.length - (intOf s).toNat)
  case atStart => exact ⟨0, Nat.zero_le _, rfl, START.out⟩
  case round =>
    obtain ⟨k, hk, rfl, hLi, hb⟩ := hrel
    clear START
    by_cases hlt : k < L.length
    · have HZT := Lib.hid (filter_take (fun x => cf x i == 0) hlt)
      obtain ⟨es, hes, hown, he, hd⟩ := hLi
      have HES := Lib.hid hes
      have HOW := Lib.hid hown
      have HEL := Lib.hid he
      have HD := Lib.hid hd
      have HBB := Lib.hid hb
      obtain ⟨bk, ok, fk, Bk, dk, Ck, ek, lok, hik, lok', hik', rfl, hblk, c0k, c1k, c2k, hdk, hek, r1k, r2k, hrepk, hfk⟩ := drs_at (Rep.below HA.out HBB.out) hlt
      have hokk := HOK.out _ (List.getElem_mem hlt)
      have hlik := HLEN.out _ (List.getElem_mem hlt)
      have hcf := cf_get hlik
      have HLN := Lib.hid (show (zeros i (L.take k)).length ≤ 4000 from by have := zeros_len i (L.take k); rw [List.length_take] at this; omega)
      generalize L[k] = x at *
      obtain ⟨⟨z, zs⟩, ms⟩ := x
      simp only at c0k c1k c2k hdk hek r1k r2k hlik hcf hrepk
      obtain ⟨bz, oz, rfl, _, cz⟩ := IntK.at_ r1k hlik
      rw [← hcf] at cz
      have hi0' : (0 : Int) ≤ (k : Int) := by omega
      have hi1' : (k : Int) < (L.length : Int) := by omega
      have hi2' : (0 : Int) ≤ (i : Int) := by omega
      have hi3' : (i : Int) < (zs.length : Int) := by omega
      clear hcf
      obtain ⟨y, hy⟩ : ∃ y : Int, cf ((z, zs), ms) i = y := ⟨_, rfl⟩
      rw [hy] at cz
      by_cases h0 : y = 0
      · have hyb : (y == 0) = true := by simpa using h0
        have HT := Lib.hid (show zeros i (L.take (k + 1)) = zeros i (L.take k) ++ [((z, zs), ms)] from by unfold zeros; rw [HZT.out, hy, if_pos hyb])
        clear hy HZT h0
        go_wp2_with (at_builtin; go_loud (refine wpList_append_where rfl (.tmp 28) (.tmp 33) 74 rfl w.heap.size 76 i0 (.agg #[.int .i64 0, .slice none 0 0, .slice none 0 0]) 3 56 hu.out HI.out HZ0.out HZ1.out HZ2.out rfl (by decide) _ _ _ rfl (HOW.out.alloc _) ⟨wr.heap.size, 0, none⟩ 1 1 [.int .i64 z, .slice (some ⟨bz, oz, none⟩) zs.length dk, .slice Ck ms.length ek] rfl rfl (World.news_of_block (cs := #[.int .i64 z, .slice (some ⟨bz, oz, none⟩) zs.length dk, .slice Ck ms.length ek]) (heap_alloc_new wr _)) (by simp [Value.oneCell']) (by unfold maxLen; have := HLN.out; omega) (by have := HLN.out; omega) (by have := HBB.out.size; simp <;> omega) ?_); intro v4 w4 hown4 hgrow hwh)
        have hxd := Lib.hid (fun b (hb' : b ∈ fk) => (show _ ≠ some b from fun e => by have h7 := HFP.out b (hfk b hb'); have h8 := (HOW.out.lt b e).1; omega))
        have hn := Lib.hid (listR_snoc HES.out HEL.out HD.out HBB.out HOW.out (dr.loose hrepk) hxd.out _ hown4 hgrow hwh)
        rw [← HT.out] at hn
        clear hown4 hgrow hwh c0k c1k c2k r1k r2k cz hrepk
        go_wp2
        go_roundw
        case rel => exact ⟨k + 1, by omega, by go_num, hn.out⟩
        case measure => simp [intOf]; omega
      · have hyb : (y == 0) = false := by simpa using h0
        have HT := Lib.hid (show zeros i (L.take (k + 1)) = zeros i (L.take k) from by unfold zeros; rw [HZT.out, hy, if_neg (by rw [hyb]; simp), List.append_nil])
        have hn := Lib.hid (show ListR w _ (zeros i (L.take (k + 1))) wr from by rw [HT.out]; exact ⟨⟨es, HES.out, HOW.out, HEL.out, HD.out⟩, HBB.out⟩)
        clear hy HZT h0
        go_wp2
        go_roundw
        case rel => exact ⟨k + 1, by omega, by go_num, hn.out⟩
        case measure => simp [intOf]; omega
    · obtain rfl : k = L.length := by omega
      have S2 := Lib.hid (show ListR w _ (zeros i L ++ combs i (L.take 0) L) wr from by
        rw [List.take_length] at hLi
        rw [show combs i (L.take 0) L = [] from rfl, List.append_nil]
        exact ⟨hLi, hb⟩)
      clear hLi hb
      go_wp2
      obtain ⟨w1, rfl⟩ : ∃ w1 : World, w1 = wr := ⟨_, rfl⟩
      go_loopw [5, 7] (fun v s wr => Rel2 w i L v s wr) (fun _ s _ => L.length - (intOf s).toNat)
      case atStart => exact ⟨0, Nat.zero_le _, rfl, S2.out⟩
      case round =>
        obtain ⟨k, hk, rfl, hLi, hb⟩ := hrel
        obtain ⟨w2, rfl⟩ : ∃ w2 : World, w2 = wr := ⟨_, rfl⟩
        clear S2
        by_cases hlt : k < L.length
        · obtain ⟨x, hx⟩ : ∃ x : DR, L[k] = x := ⟨_, rfl⟩
          have HX := Lib.hid hx
          have S3 := Lib.hid (show ListR w _ (zeros i L ++ combs i (L.take k) L ++ pairs i x (L.take 0)) w2 from by
            rw [show pairs i x (L.take 0) = [] from rfl, List.append_nil]
            exact ⟨hLi, hb⟩)
          have HCT := Lib.hid (show combs i (L.take (k + 1)) L = combs i (L.take k) L ++ (if 0 < cf x i then pairs i x L else []) from by rw [← hx]; exact flatMap_take (fun x => if 0 < cf x i then pairs i x L else []) hlt)
          have hi0' : (0 : Int) ≤ (k : Int) := by omega
          have hi1' : (k : Int) < (L.length : Int) := by omega
          clear hLi hb hx
          go_wp2
          go_loopw [5, 8] (fun v s wr => Rel3 w i k L x v s wr) (fun _ s _ => L.length - (intOf s).toNat)
          case atStart => exact ⟨0, Nat.zero_le _, Or.inr rfl, rfl, S3.out⟩
          case round =>
            obtain ⟨j, hj, hpos, rfl, hLi, hb⟩ := hrel
            clear S3
            by_cases hj2 : j < L.length
            · have hj0 : (0 : Int) ≤ (j : Int) := by omega
              have hj1 : (j : Int) < (L.length : Int) := by omega
              have HLI := Lib.hid hLi
              have VLT := Lib.hid (listed_lt hLi)
              have HBB := Lib.hid hb
              have HLN := Lib.hid (lens (i := i) (k := k) (j := j) (x := x) hL)
              clear hLi hb
              obtain ⟨bk, ok, fk, Bk, dk, Ck, ek, lok, hik, lok', hik', rfl, hblk, c0k, c1k, c2k, hdk, hek, r1k, r2k, hrepk, hfk⟩ := drs_at (Rep.below HA.out HBB.out) hlt
              have hokk := HOK.out _ (List.getElem_mem hlt)
              have hlik := HLEN.out _ (List.getElem_mem hlt)
              simp only [HX.out] at c0k c1k c2k hdk hek r1k r2k hokk hlik
              obtain ⟨bz, oz, rfl, _, cz⟩ := IntK.at_ r1k hlik
              rw [← cf_get hlik] at cz
              have hi2' : (0 : Int) ≤ (i : Int) := by omega
              have hi3' : (i : Int) < (x.1.2.length : Int) := by omega
              obtain ⟨p, hp⟩ : ∃ p : Int, cf x i = p := ⟨_, rfl⟩
              rw [hp] at cz hpos
              by_cases hpp : 0 < p
              · have hpd : decide (0 < p) = true := decide_eq_true hpp
                have HPP := Lib.hid (show 0 < cf x i by rw [hp]; exact hpp)
                obtain ⟨bj, oj, fj, Bj, dj, Cj, ej, loj, hij, loj', hij', eA, hblj, c0j, c1j, c2j, hdj, hej, r1j, r2j, hrepj, hfj⟩ := drs_at (Rep.below HA.out HBB.out) hj2
                injection eA with eA
                injection eA with e1 e2
                subst e1
                subst e2
                have hokj := HOK.out _ (List.getElem_mem hj2)
                have hlij := HLEN.out _ (List.getElem_mem hj2)
                have HPT := Lib.hid (show pairs i x (L.take (j + 1)) = pairs i x (L.take j) ++ (if cf L[j] i < 0 then joinD x L[j] i else none).toList from filterMap_take (fun y => if cf y i < 0 then joinD x y i else none) hj2)
                generalize L[j] = y at *
                obtain ⟨by', oy, rfl, _, cy⟩ := IntK.at_ r1j hlij
                rw [← cf_get hlij] at cy
                have hi4' : (i : Int) < (y.1.2.length : Int) := by omega
                obtain ⟨u, hu2⟩ : ∃ u : Int, cf y i = u := ⟨_, rfl⟩
                rw [hu2] at cy HPT
                by_cases hneg : u < 0
                · have hnd : decide (0 ≤ u) = false := decide_eq_false (by omega)
                  rw [if_pos hneg] at HPT
                  have JO := Lib.hid (fun W (h : Below wr.heap.size wr W) => join lok hik lok' hik' loj hij loj' hij' (some ⟨bz, oz, none⟩) Ck (some ⟨by', oy, none⟩) Cj dk ek dj ej i x y W hokk hokj hm hlik (r1k.below h) (r2k.below h) (r1j.below h) (r2j.below h))
                  have HPOS := Lib.hid hpos
                  generalize joinD x y i = r at *
                  have KS := Lib.hid (fun W (h : Below wr.heap.size wr W) => (show W.cell? ⟨bk, ok + k * 3, none⟩ = some (Value.int .i64 x.1.1) ∧ W.cell? ⟨bk, ok + k * 3 + 1, none⟩ = some (Value.slice (some ⟨bz, oz, none⟩) x.1.2.length dk) ∧ W.cell? ⟨bk, ok + k * 3 + 2, none⟩ = some (Value.slice Ck x.2.length ek) ∧ W.cell? ⟨bk, ok + j * 3, none⟩ = some (Value.int .i64 y.1.1) ∧ W.cell? ⟨bk, ok + j * 3 + 1, none⟩ = some (Value.slice (some ⟨by', oy, none⟩) y.1.2.length dj) ∧ W.cell? ⟨bk, ok + j * 3 + 2, none⟩ = some (Value.slice Cj y.2.length ej) from
                    ⟨(h.cell (p := ⟨bk, ok + k * 3, none⟩) hblk).trans c0k, (h.cell (p := ⟨bk, ok + k * 3 + 1, none⟩) hblk).trans c1k, (h.cell (p := ⟨bk, ok + k * 3 + 2, none⟩) hblk).trans c2k, (h.cell (p := ⟨bk, ok + j * 3, none⟩) hblk).trans c0j, (h.cell (p := ⟨bk, ok + j * 3 + 1, none⟩) hblk).trans c1j, (h.cell (p := ⟨bk, ok + j * 3 + 2, none⟩) hblk).trans c2j⟩))
                  clear hp hu2 hokk hokj hdk hek hdj hej hrepk hrepj hneg
                  go_upto_region 14 with fail
                  clear r1k r2k r1j r2j cz cy c0k c1k c2k c0j c1j c2j
                  obtain ⟨k0, k1, k2, k3, k4, k5⟩ := KS.out wr (Below.refl _ _)
                  go_cut [9, 10] from 41 to 86 (fun s t wx => AfterD wr r s t wx)
                  case first =>
                    go_region_held3 (fun w' => w'.cell? ⟨bk, ok + k * 3, none⟩ = some (Value.int .i64 x.1.1) ∧ w'.cell? ⟨bk, ok + k * 3 + 1, none⟩ = some (Value.slice (some ⟨bz, oz, none⟩) x.1.2.length dk) ∧ w'.cell? ⟨bk, ok + k * 3 + 2, none⟩ = some (Value.slice Ck x.2.length ek) ∧ w'.cell? ⟨bk, ok + j * 3, none⟩ = some (Value.int .i64 y.1.1) ∧ w'.cell? ⟨bk, ok + j * 3 + 1, none⟩ = some (Value.slice (some ⟨by', oy, none⟩) y.1.2.length dj) ∧ w'.cell? ⟨bk, ok + j * 3 + 2, none⟩ = some (Value.slice Cj y.2.length ej))
                      (first | with_reducible exact KS.out _ hd5 | with_reducible exact KS.out _ (Below.refl _ _).drew | with_reducible exact KS.out _ (hd5.alloc hd5.size _) | with_reducible exact KS.out _ ((Below.refl _ _).alloc (Nat.le_refl _) _).drew | with_reducible exact KS.out _ (((hd5.setCell (by first | exact Nat.le_refl _ | exact hd5.size) _).setCell (by first | exact Nat.le_refl _ | exact hd5.size) _).setCell (by first | exact Nat.le_refl _ | exact hd5.size) _))
                      (first
                        | (go_at_call 84; refine (Calls.mono (JO.out _ (by first | with_reducible exact (Below.refl _ _).drew | with_reducible exact ((Below.refl _ _).alloc (Nat.le_refl _) _).drew))) ?_; rintro e u5 ⟨z5, A5, n5, a5, B5, m5, c5, rfl, hr5, b5⟩; (have hd5 : Below wr.heap.size wr u5 := by first | exact ((Below.refl wr.heap.size wr).drew).trans (b5.mono ((Below.refl wr.heap.size wr).drew).size) | exact (((Below.refl wr.heap.size wr).alloc (Nat.le_refl _) _).drew).trans (b5.mono (((Below.refl wr.heap.size wr).alloc (Nat.le_refl _) _).drew).size)); (try (have v5 : Lvar u5 wr.heap.size #[Value.int .i64 0, Value.slice none 0 0, Value.slice none 0 0] := ((Lvar.new wr _ _).below (Below.refl _ _).drew).below b5)); (try (have z0 := v5.cell 0 (Value.int .i64 0) rfl)); (try (have z1 := v5.cell 1 (Value.slice none 0 0) rfl)); (try (have z2 := v5.cell 2 (Value.slice none 0 0) rfl)); (try (have y0 := v5.frozen 0)); (try (have y1 := v5.frozen 1)); (try (have y2 := v5.frozen 2))))
                    all_goals (go_wp2_with fail)
                    all_goals go_meet
                    all_goals first | exact afterD_new hd5 hr5 (by first | exact Nat.le_refl _ | (simp; done)) | exact afterD_old hd5 v5 hr5 (Nat.le_refl _) (by first | (simp; done) | (simp; omega))
                  case rest =>
                    obtain ⟨w3, rfl⟩ : ∃ w3 : World, w3 = wc := ⟨_, rfl⟩
                    obtain ⟨b9, z9, A9, n9, a9, B9, m9, c9, rfl, e10, hb9, V9, hr9, d9⟩ := hcut
                    have hL9 := HLI.out.below d9
                    have hB9 := HBB.out.trans (d9.mono HBB.out.size)
                    have hs9 := d9.size
                    clear k0 k1 k2 k3 k4 k5 KS JO d9
                    cases r with
                    | none =>
                      have e10 := (show _ = Value.bool false from e10)
                      subst e10
                      have HT := Lib.hid (show pairs i x (L.take (j + 1)) = pairs i x (L.take j) from by rw [HPT.out]; exact List.append_nil _)
                      have hn := Lib.hid (show ListR w _ (zeros i L ++ combs i (L.take k) L ++ pairs i x (L.take (j + 1))) w3 from by rw [HT.out]; exact ⟨hL9, hB9⟩)
                      clear hr9 hL9 hB9 V9
                      go_wp2
                      go_roundw
                      case rel => exact ⟨j + 1, by omega, Or.inl HPP.out, by go_num, hn.out⟩
                      case measure => simp [intOf]; omega
                    | some dd =>
                      have e10 := (show _ = Value.bool true from e10)
                      subst e10
                      obtain ⟨rfl, rfl, rfl, hna, hmc, rA, rB⟩ := hr9 dd rfl
                      have HT := Lib.hid (show zeros i L ++ combs i (L.take k) L ++ pairs i x (L.take (j + 1)) = (zeros i L ++ combs i (L.take k) L ++ pairs i x (L.take j)) ++ [dd] from by rw [HPT.out, ← List.append_assoc]; rfl)
                      obtain ⟨fd, hrd, hfd⟩ := dr_close (z := dd.1.1) rA rB hna hmc
                      have v90 := V9.cell 0 (.int .i64 dd.1.1) rfl
                      have v91 := V9.cell 1 (.slice A9 dd.1.2.length a9) rfl
                      have v92 := V9.cell 2 (.slice B9 dd.2.length c9) rfl
                      have v9l := V9.lt
                      obtain ⟨es, hes, hown, he, hd⟩ := hL9
                      have HES := Lib.hid hes
                      have HOW := Lib.hid hown
                      have HEL := Lib.hid he
                      have HD := Lib.hid hd
                      have HBB := Lib.hid hB9
                      clear hes hown he hd hB9 hr9 V9
                      go_wp2_with (at_builtin; go_loud (refine wpList_append_where rfl (.tmp 83) (.tmp 85) 74 rfl w.heap.size 76 i0 (.agg #[.int .i64 0, .slice none 0 0, .slice none 0 0]) 3 56 hu.out HI.out HZ0.out HZ1.out HZ2.out rfl (by decide) _ _ _ rfl (HOW.out.alloc _) ⟨w3.heap.size, 0, none⟩ 1 1 [.int .i64 dd.1.1, .slice A9 dd.1.2.length a9, .slice B9 dd.2.length c9] rfl rfl (World.news_of_block (cs := #[.int .i64 dd.1.1, .slice A9 dd.1.2.length a9, .slice B9 dd.2.length c9]) (heap_alloc_new w3 _)) (by simp [Value.oneCell']) (by unfold maxLen; have := HLN.out; omega) (by have := HLN.out; omega) (by have := HBB.out.size; simp <;> omega) ?_); intro v4 w4 hown4 hgrow hwh)
                      have hxd := Lib.hid (fun b (hb' : b ∈ fd) => (show _ ≠ some b from fun e => by have h7 := hfd b hb'; have h8 := (VLT.out b e).2; omega))
                      have hn := Lib.hid (listR_snoc HES.out HEL.out HD.out HBB.out HOW.out hrd hxd.out _ hown4 hgrow hwh)
                      rw [← HT.out] at hn
                      clear hown4 hgrow hwh v90 v91 v92 rA rB hrd
                      go_wp2
                      go_roundw
                      case rel => exact ⟨j + 1, by omega, Or.inl HPP.out, by go_num, hn.out⟩
                      case measure => simp [intOf]; omega
                · have hnd : decide (0 ≤ u) = true := decide_eq_true (by omega)
                  have HT := Lib.hid (show pairs i x (L.take (j + 1)) = pairs i x (L.take j) from by rw [HPT.out, if_neg hneg]; exact List.append_nil _)
                  have hn := Lib.hid (show ListR w _ (zeros i L ++ combs i (L.take k) L ++ pairs i x (L.take (j + 1))) wr from by rw [HT.out]; exact ⟨HLI.out, HBB.out⟩)
                  clear hp hu2 hokk hokj hdk hek hdj hej hrepk hrepj hneg
                  go_wp2
                  go_roundw
                  case rel => exact ⟨j + 1, by omega, Or.inl HPP.out, by go_num, hn.out⟩
                  case measure => simp [intOf]; omega
              · have hpd : decide (0 < p) = false := decide_eq_false hpp
                have hj00 : j = 0 := by omega
                subst hj00
                have hn := Lib.hid (show ListR w _ (zeros i L ++ combs i (L.take (k + 1)) L) wr from by
                  have h := HLI.out
                  rw [show pairs i x (L.take 0) = [] from rfl, List.append_nil] at h
                  rw [HCT.out, hp, if_neg hpp, List.append_nil]
                  exact ⟨h, HBB.out⟩)
                clear hp hokk hdk hek hrepk
                go_wp2
                go_roundw
                case rel => exact ⟨k + 1, by omega, by go_num, hn.out⟩
                case measure => simp [intOf]; omega
            · obtain rfl : j = L.length := by omega
              have hlz : decide ((L.length : Int) < (L.length : Int)) = false := by simp
              have hn := Lib.hid (show ListR w _ (zeros i L ++ combs i (L.take (k + 1)) L) wr from by
                rw [List.take_length] at hLi
                have hp : 0 < cf x i := by rcases hpos with h | h; exact h; omega
                rw [HCT.out, if_pos hp, ← List.append_assoc]
                exact ⟨hLi, hb⟩)
              clear hLi hb
              go_wp2
              go_roundw
              case rel => exact ⟨k + 1, by omega, by go_num, hn.out⟩
              case measure => simp [intOf]; omega
        · obtain rfl : k = L.length := by omega
          have HF := hLi
          rw [List.take_length] at HF
          obtain ⟨G, g, fg, rfl, hG⟩ := Listed.rep HF (by decide)
          have HB := Lib.hid hb
          have HG := Lib.hid hG
          clear hLi HF hb hG
          go_wp2
          go_ret
          exact ⟨G, g, fg, rfl, HG.out, HB.out⟩
end ElimS
end Go.Proofs.Ytmkelfjnjnjgbaa

/-
  The model's search: its first rows.
-/
namespace Go.Proofs.Ytmkelfjnjnjgbaa
open Go.RowKit
namespace ElimM
open LinM ArithM FarkM
theorem unit_len (m k : Nat) : (unit m k).length = m + 1 := by simp [unit]
theorem rows_len (m : Nat) (xs : List (Int × List Int)) : (rowsD m xs).length = xs.length := by simp [rowsD]
theorem rows_take {m k : Nat} {xs : List (Int × List Int)} (h : k < xs.length) : (rowsD m xs).take (k + 1) = (rowsD m xs).take k ++ [(xs[k], unit m k)] := by
  rw [List.take_add_one, List.getElem?_eq_getElem (by rw [rows_len]; exact h)]
  simp [rowsD]
theorem negT_vld {N : Int} {t g : Int × List Int} (hN : cntB N = true) (h : negT N t = some g) : vldB g.1 g.2 N = true := by
  unfold negT at h
  have h1 := addS_vld h
  have h2 : ((constL (-1) N).2.length : Int) = N := by
    unfold constL
    rw [if_pos ⟨hN, by decide⟩]
    have := cntB_iff.1 hN
    simp
    omega
  rwa [h2] at h1
theorem start_ok {N : Int} {xs : List (Int × List Int)} {g : Int × List Int} (hs : SysS.sysV N xs = true) (hg : vldB g.1 g.2 N = true) : ∀ r ∈ rowsD xs.length xs ++ [(g, unit xs.length xs.length)], okD N (xs.length + 1) r := fun r hr => by
  rcases List.mem_append.1 hr with hr | hr
  · unfold rowsD at hr
    obtain ⟨k, hk, rfl⟩ := List.mem_mapIdx.1 hr
    unfold SysS.sysV at hs
    simp only [Bool.and_eq_true, List.all_eq_true] at hs
    exact ⟨hs.1 _ (List.getElem_mem hk), unit_len _ _⟩
  · rw [List.mem_singleton.1 hr]
    exact ⟨hg, unit_len _ _⟩
theorem start_len {N : Int} {xs : List (Int × List Int)} {g : Int × List Int} (hs : SysS.sysV N xs = true) : (rowsD xs.length xs ++ [(g, unit xs.length xs.length)]).length ≤ 60 := by
  unfold SysS.sysV at hs
  simp only [Bool.and_eq_true, decide_eq_true_eq] at hs
  rw [List.length_append, rows_len]
  simp
  omega
end ElimM
namespace ElimS
open RowK Mem ElimM ArithM LinM

theorem unit_made (W : World) (m k : Nat) (hk : k ≤ m) (hm : m ≤ 1000) :
    (W.alloc (.cells (madeCells #[.int .i64 0] (m + 1)) 3)).cell? ⟨W.heap.size, k, none⟩ = some (.int .i64 0) ∧ (W.alloc (.cells (madeCells #[.int .i64 0] (m + 1)) 3)).frozen? ⟨W.heap.size, k, none⟩ = false ∧
      Row W.heap.size (W.heap.size + 1) ((W.alloc (.cells (madeCells #[.int .i64 0] (m + 1)) 3)).setCell ⟨W.heap.size, k, none⟩ (.int .i64 1)) (some ⟨W.heap.size, 0, none⟩) (IntK.iv (unit m k)) := by
  obtain ⟨h1, h2⟩ := LinI.made W (m + 1) (by omega)
  have hk2 : k < (List.replicate (m + 1) (0 : Int)).length := by simp; omega
  obtain ⟨b, o, e, _, hc⟩ := IntK.at_ h1 hk2
  injection e with e
  injection e with e1 e2
  subst e1
  subst e2
  have h3 := LinI.store_iv h1 hk2 1
  rw [Nat.zero_add] at hc h3
  have hf := h2 (by omega) _ _ rfl k (by omega)
  rw [Nat.zero_add] at hf
  refine ⟨by simpa using hc, hf, ?_⟩
  have h4 : Row W.heap.size (W.heap.size + 1) _ _ _ := h3.wider (Nat.le_refl _) (by simp) (by simp [World.setCell])
  exact h4
theorem alloc_set (W : World) (cs : Array Value) (t : TypeId) (k : Nat) (v : Value) : (W.alloc (.cells cs t)).setCell ⟨W.heap.size, k, none⟩ v = W.alloc (.cells (cs.setIfInBounds k v) t) := World.setCell_alloc_at _ _ _ _ _ rfl
theorem run_mk1 (m : Nat) (hm : m ≤ 1000) (u : World) : (Instr.makeSlice 27 (.int .i64 ((m : Int) + 1)) (.int .i64 ((m : Int) + 1))).run Try.prog u =
    .ok (.slice (some ⟨u.heap.size, 0, none⟩) (m + 1) (m + 1)) (u.alloc (.cells (madeCells #[.int .i64 0] (m + 1)) 3)) := by
  have h := IntK.run_mk (m + 1) (by omega) u
  rw [Int.natCast_add] at h
  exact h
end ElimS
end Go.Proofs.Ytmkelfjnjnjgbaa
