/- Texts that lay in modules of their own: IntsB, IntSE, IntSC, ScW. -/
import Derived.Test.YtgnpgkkjcloghaaGreatKm1
set_option maxRecDepth 100000
set_option maxHeartbeats 800000
set_option linter.unusedVariables false
namespace Go.Proofs.YtgnpgkkjcloghaaGreat.DOk
open Lib
open Go.RowKit Bytes
def iv (zs : List Int) : List Value := zs.map (Value.int .i64)
def RdI (w : World) (B : Nat) (A : Option Addr) (zs : List Int) : Prop :=
  0 < zs.length → ∃ b o, A = some ⟨b, o, none⟩ ∧ b < B ∧ ∀ k (h : k < zs.length), w.cell? ⟨b, o + k, none⟩ = some (.int .i64 zs[k])
def OwnI (w : World) (base : Nat) (A : Option Addr) (n c : Nat) (zs : List Int) : Prop := w.ownsRow base 3 1 (.slice A n c) n (iv zs)
theorem RdI.below {w w' : World} {B B' : Nat} {A : Option Addr} {zs : List Int} (h : RdI w B A zs) (hB : B ≤ B') (hb : Below B' w w') : RdI w' B A zs := by
  intro hn
  obtain ⟨b, o, e, hlt, hc⟩ := h hn
  exact ⟨b, o, e, hlt, fun k hk => (hb.cell (p := ⟨b, o + k, none⟩) (Nat.lt_of_lt_of_le hlt hB)).trans (hc k hk)⟩
theorem RdI.more {w : World} {B B' : Nat} {A : Option Addr} {zs : List Int} (h : RdI w B A zs) (hB : B ≤ B') : RdI w B' A zs := by
  intro hn
  obtain ⟨b, o, e, hlt, hc⟩ := h hn
  exact ⟨b, o, e, Nat.lt_of_lt_of_le hlt hB, hc⟩
theorem RdI.at_ {w : World} {B : Nat} {A : Option Addr} {zs : List Int} (h : RdI w B A zs) {k : Nat} (hk : k < zs.length) : ∃ b o, A = some ⟨b, o, none⟩ ∧ b < B ∧ w.cell? ⟨b, o + k, none⟩ = some (.int .i64 zs[k]) := by
  obtain ⟨b, o, e, hlt, hc⟩ := h (by omega)
  exact ⟨b, o, e, hlt, hc k hk⟩
theorem RdI.take {w : World} {B : Nat} {A : Option Addr} {zs : List Int} (h : RdI w B A zs) (k : Nat) : RdI w B A (zs.take k) := by
  intro hn
  have hn' : 0 < zs.length := by rw [List.length_take] at hn; omega
  obtain ⟨b, o, e, hlt, hc⟩ := h hn'
  refine ⟨b, o, e, hlt, fun j hj => ?_⟩
  have hj' : j < zs.length := by rw [List.length_take] at hj; omega
  rw [hc j hj', List.getElem_take]
theorem OwnI.len {w : World} {base : Nat} {A : Option Addr} {n c : Nat} {zs : List Int} (h : OwnI w base A n c zs) : zs.length = n := by
  have := h.1; simpa [iv] using this
theorem OwnI.cap {w : World} {base : Nat} {A : Option Addr} {n c : Nat} {zs : List Int} (h : OwnI w base A n c zs) : n ≤ c := by
  rcases h.2 with ⟨hv, h0⟩ | ⟨g, cap, cur, hv, _, _, hnc, _⟩
  · omega
  · injection hv with e1 e2 e3
    omega
theorem OwnI.rd {w : World} {base : Nat} {A : Option Addr} {n c : Nat} {zs : List Int} (h : OwnI w base A n c zs) : RdI w w.heap.size A zs := by
  intro hn
  have hl := h.len
  rcases h.2 with ⟨_, hz⟩ | ⟨g, cap, cur, hv, hb, hg, hnc, hm, hs, ht⟩
  · omega
  · injection hv with e1 e2 e3
    subst e1 e3
    refine ⟨g, 0, rfl, (Array.getElem?_eq_some_iff.1 hg).1, fun k hk => ?_⟩
    rw [Nat.zero_add, World.ownsRow.cellAt (h := h) k (by omega)]
    simp [iv, hk]
theorem OwnI.blk {w : World} {base : Nat} {A : Option Addr} {n c : Nat} {zs : List Int} (h : OwnI w base A n c zs) : ∀ g, (Value.slice A n c).ownBlock = some g → base ≤ g ∧ g < w.heap.size := World.ownsRow.lt h
theorem OwnI.alloc {w : World} {base : Nat} {A : Option Addr} {n c : Nat} {zs : List Int} (h : OwnI w base A n c zs) (o : Obj) : OwnI (w.alloc o) base A n c zs := World.ownsRow.alloc h o
theorem OwnI.below {w w' : World} {base B : Nat} {A : Option Addr} {n c : Nat} {zs : List Int} (h : OwnI w base A n c zs) (hB : w.heap.size ≤ B) (hb : Below B w w') : OwnI w' base A n c zs := by
  refine ⟨h.1, ?_⟩
  rcases h.2 with h0 | ⟨g, cap, cur, hv, hbb, hg, rest⟩
  · exact .inl h0
  · have hlt : g < w.heap.size := (Array.getElem?_eq_some_iff.1 hg).1
    exact .inr ⟨g, cap, cur, hv, hbb, by rw [hb.block g (by omega)]; exact hg, rest⟩
theorem OwnI.more {w : World} {base base' : Nat} {A : Option Addr} {n c : Nat} {zs : List Int} (h : OwnI w base A n c zs) (hB : base' ≤ base) : OwnI w base' A n c zs := by
  refine ⟨h.1, ?_⟩
  rcases h.2 with h0 | ⟨g, cap, cur, hv, hbb, rest⟩
  · exact .inl h0
  · exact .inr ⟨g, cap, cur, hv, by omega, rest⟩
theorem intInfo : (Tryz.prog.info? 3).map (fun i => (i.zero, i.size, i.bytes)) = some (some (.int .i64 0), 1, 8) := by kernel_rfl
theorem OwnI.stored {w : World} {base g n c : Nat} {zs : List Int} (h : OwnI w base (some ⟨g, 0, none⟩) n c zs) (k : Nat) (z : Int) :
    OwnI (w.setCell ⟨g, k, none⟩ (.int .i64 z)) base (some ⟨g, 0, none⟩) n c (zs.set k z) ∧ w.grownBy (w.setCell ⟨g, k, none⟩ (.int .i64 z)) (some g) := by
  have hs := World.ownsRow.stored (h := h) k (.int .i64 z)
  refine ⟨?_, hs.2⟩
  have e : iv (zs.set k z) = (iv zs).set k (.int .i64 z) := by simp [iv]
  unfold OwnI; rw [e]; exact hs.1
theorem eqIntS_yes (A A' : Option Addr) (n c c' : Nat) (xs : List Int) (w : World) (hx : RdI w w.heap.size A xs) (hy : RdI w w.heap.size A' xs) (hl : xs.length = n) (hn : n ≤ 2097152) :
    Calls Tryz.prog 10 #[.slice A n c, .slice A' n c'] w fun e w' => e = .returned (.bool true) ∧ Below w.heap.size w w' := by
  have HL := hid hl
  have HX := hid hx
  have HY := hid hy
  clear hl hx hy
  go_enter Tryz.func10, Tryz.ntmps10
  go_wp2
  go_loopw [5] (fun i wr => ∃ k j : Nat, k ≤ n ∧ i = .int .i64 k ∧ wr = w.drewN j) (fun i _ => n - (intOf i).toNat)
  case atStart => exact ⟨0, 0, Nat.zero_le _, rfl, rfl⟩
  case round =>
    obtain ⟨k, j, hk, rfl, rfl⟩ := hrel
    by_cases hlt : k < n
    · have hlt' : k < xs.length := by rw [HL.out]; exact hlt
      obtain ⟨b, o, rfl, hB, hc⟩ := HX.out.at_ hlt'
      obtain ⟨b', o', rfl, hB', hc'⟩ := HY.out.at_ hlt'
      generalize xs[k] = z at *
      have hne : (z != z) = false := by simp
      go_wp2
      go_quiet (fail)
      go_wp2
      exact ⟨⟨k + 1, _, by omega, by go_num, rfl⟩, by simp [intOf]; omega⟩
    · obtain rfl : n = k := by omega
      go_wp2
      go_ret
      exact ⟨rfl, below_drewN (Below.refl _ _) j⟩
def partI (zs : List Int) (n k : Nat) : List Int := zs.take k ++ List.replicate (n - k) 0
theorem partI_set {zs : List Int} {n k : Nat} (hl : zs.length = n) (hk : k < n) : (partI zs n k).set k (zs[k]'(by omega)) = partI zs n (k + 1) := by
  unfold partI
  rw [List.set_append_right _ _ (by rw [List.length_take]; omega), List.length_take, show k - min k zs.length = 0 by omega, show n - k = (n - (k + 1)) + 1 by omega, List.replicate_succ, List.set_cons_zero, List.take_succ_eq_append_getElem (by omega), List.append_assoc]
  rfl
theorem partI_end {zs : List Int} {n : Nat} (hl : zs.length = n) : partI zs n n = zs := by
  unfold partI; rw [Nat.sub_self, List.replicate_zero, List.append_nil, List.take_of_length_le (by omega)]
theorem partI_len {zs : List Int} {n k : Nat} (hl : zs.length = n) (hk : k ≤ n) : (partI zs n k).length = n := by
  unfold partI; rw [List.length_append, List.length_take, List.length_replicate]; omega
theorem toIntS_any (A : Option Addr) (n c : Nat) (zs : List Int) (w : World) (hr : RdI w w.heap.size A zs) (hl : zs.length = n) (hn : n ≤ 2097152) :
    Calls Tryz.prog 7 #[.slice A n c] w fun e w' => ∃ A' c', e = .returned (.slice A' n c') ∧ OwnI w' w.heap.size A' n c' zs ∧ Below w.heap.size w w' := by
  obtain ⟨i0, hi, hz0, hz1, hz2⟩ := info_parts intInfo
  have hm : n ≤ maxLen := by unfold maxLen; omega
  have HL := hid hl
  have HR := hid hr
  clear hl hr
  go_enter Tryz.func7, Tryz.ntmps7
  go_wp2_with (at_make; refine wpList_make_full _ rfl _ _ 27 rfl w.heap.size 3 i0 (.int .i64 0) 1 Tryz.underlying27 hi hz0 hz1 _ _ _ _ n rfl rfl rfl rfl ?c1 hm (Nat.le_refl _) ?_)
  case c1 => rw [hz2]; omega
  intro w1 hown hgrow
  have hown' : OwnI w1 w.heap.size (some ⟨w.heap.size, 0, none⟩) n n (partI zs n 0) := by
    unfold OwnI
    have e : iv (partI zs n 0) = (madeCells #[Value.int .i64 0] n).toList := by
      simp [iv, partI, toList_madeCells_one]
    rw [e]; exact hown
  have hb1 : Below w.heap.size w w1 := (Below.refl _ _).grown hgrow (Nat.le_refl _) (by simp)
  clear hown hgrow
  go_wp2
  go_loopw [4] (fun i wr => ∃ k : Nat, k ≤ n ∧ i = .int .i64 k ∧ OwnI wr w.heap.size (some ⟨w.heap.size, 0, none⟩) n n (partI zs n k) ∧ Below w.heap.size w wr) (fun i _ => n - (intOf i).toNat)
  case atStart => exact ⟨0, Nat.zero_le _, rfl, hown', hb1⟩
  case round =>
    obtain ⟨k, hk, rfl, ho, hb⟩ := hrel
    clear hown' hb1
    by_cases hlt : k < n
    · have hlt' : k < zs.length := by rw [HL.out]; exact hlt
      obtain ⟨b, o, rfl, hB, hc⟩ := (HR.out.below (Nat.le_refl _) hb).at_ hlt'
      have hf := World.ownsRow.frozenAt (h := ho) k
      obtain ⟨u, hu⟩ : ∃ u, wr.cell? ⟨w.heap.size, k, none⟩ = some u := by
        rw [World.ownsRow.cellAt (h := ho) k (by omega)]; exact ⟨_, List.getElem?_eq_getElem (by have := partI_len HL.out (Nat.le_of_lt hlt); simp [iv]; omega)⟩
      have hs := ho.stored k zs[k]
      rw [partI_set HL.out hlt] at hs
      have HS := hid hs.1
      have HB := hid hb
      clear hs ho hb
      generalize zs[k] = z at *
      go_wp2
      go_roundw
      case rel => exact ⟨k + 1, by omega, by go_num, HS.out, HB.out.setCell (by simp) _⟩
      case measure => simp [intOf]; omega
    · obtain rfl : n = k := by omega
      rw [partI_end HL.out] at ho
      have HO := hid ho
      have HB := hid hb
      clear ho hb
      go_wp2
      go_ret
      exact ⟨_, _, rfl, HO.out, HB.out⟩
end Go.Proofs.YtgnpgkkjcloghaaGreat.DOk
namespace Go.Proofs.YtgnpgkkjcloghaaGreat.Sc
open Lib
open Go.RowKit Bytes Rows_ RowK Gr DOk Opq
structure SlC where
  A : Option Addr
  c : Nat
  cs : List CellD
instance : Inhabited SlC := ⟨⟨none, 0, []⟩⟩
def SlC.v (x : SlC) : Value := .slice x.A x.cs.length x.c
def rowR (x : SlC) : List Value := [.slice x.A x.cs.length x.c]
def blkS (x : SlC) : Option Nat := (Value.slice x.A x.cs.length x.c).ownBlock
def Apart (a b : SlC) : Prop := ∀ g, blkS a = some g → blkS b ≠ some g
def RdR (w : World) (B : Nat) (A : Option Addr) (rs : List SlC) : Prop := RdK 1 w B A (rs.map rowR)
def RdCs (w : World) (B : Nat) (rs : List SlC) : Prop := ∀ r ∈ rs, RdC w B r.A r.cs
def OwnR (w : World) (base : Nat) (A : Option Addr) (n c : Nat) (rs : List SlC) : Prop :=
  rs.length = n ∧ ((A = none ∧ n = 0 ∧ c = 0) ∨ ∃ g p cur, A = some ⟨g, p, none⟩ ∧ base ≤ g ∧ w.heap[g]? = some (.cells cur 71 (0, 0)) ∧ n ≤ c ∧ p + c ≤ cur.size ∧ cur.size ≤ maxLen ∧ ∀ (i : Nat) (r : SlC), rs[i]? = some r → cur[p + i]? = some (.slice r.A r.cs.length r.c))
def OwnCs (w : World) (base : Nat) (rs : List SlC) : Prop := (∀ r ∈ rs, OwnC w base r.A r.cs.length r.c r.cs) ∧ rs.Pairwise Apart
theorem row_len : ∀ (rs : List SlC), ∀ r ∈ rs.map rowR, r.length = 1 := by
  intro rs r hr; simp at hr; obtain ⟨_, _, rfl⟩ := hr; rfl
theorem rowInfo : (Tryz.prog.info? 71).map (fun i => (i.zero, i.size, i.bytes)) = some (some (.agg #[.slice none 0 0]), 1, 24) := by kernel_rfl
section
variable {w w' : World} {B B' base base' : Nat} {A : Option Addr} {n c : Nat} {rs : List SlC}
theorem RdR.below (h : RdR w B A rs) (hB : B ≤ B') (hb : Below B' w w') : RdR w' B A rs := RdK.below h hB hb
theorem RdR.more (h : RdR w B A rs) (hB : B ≤ B') : RdR w B' A rs := RdK.more h hB
theorem RdR.at_ (h : RdR w B A rs) {i : Nat} (hi : i < rs.length) : ∃ b o, A = some ⟨b, o, none⟩ ∧ b < B ∧ w.cell? ⟨b, o + i, none⟩ = some (.slice rs[i].A rs[i].cs.length rs[i].c) := by
  obtain ⟨b, o, e, hlt, hc⟩ := RdK.at_ h (i := i) (r := rowR rs[i]) (by simp [hi])
  refine ⟨b, o, e, hlt, ?_⟩
  have := hc 0 _ rfl
  rwa [Nat.mul_one, Nat.add_zero] at this
theorem RdCs.below (h : RdCs w B rs) (hB : B ≤ B') (hb : Below B' w w') : RdCs w' B rs := fun r hr => (h r hr).below hB hb
theorem RdCs.more (h : RdCs w B rs) (hB : B ≤ B') : RdCs w B' rs := fun r hr => (h r hr).more hB
theorem rowR_at {rs : List SlC} {i : Nat} {r : SlC} (h : rs[i]? = some r) : (rs.map rowR).flatten[i]? = some (.slice r.A r.cs.length r.c) := by
  have := flat_at 1 (rs.map rowR) (row_len rs) i (rowR r) (by rw [List.getElem?_map, h]; rfl) 0 _ rfl
  rwa [Nat.mul_one, Nat.add_zero] at this
theorem OwnR.of (h : w.ownsRow base 71 1 (.slice A n c) n (rs.map rowR).flatten) : OwnR w base A n c rs := by
  have hl : rs.length = n := by
    have := h.1; rw [flat_len 1 _ (row_len rs)] at this; simp at this; omega
  refine ⟨hl, ?_⟩
  rcases h.2 with ⟨hv, h0⟩ | ⟨g, cap, cur, hv, hb, hg, hnc, hm, hs, ht⟩
  · injection hv with e1 e2 e3
    exact .inl ⟨e1, h0, e3⟩
  · injection hv with e1 e2 e3
    subst e1 e3
    refine .inr ⟨g, 0, cur, rfl, hb, hg, hnc, by omega, by omega, fun i r hr => ?_⟩
    have hi : i < n := by rw [← hl]; exact (List.getElem?_eq_some_iff.1 hr).1
    have h1 := rowR_at hr
    rw [← ht, List.getElem?_take, if_pos (by omega), Array.getElem?_toList] at h1
    rw [Nat.zero_add]; exact h1
theorem OwnR.len (h : OwnR w base A n c rs) : rs.length = n := h.1
theorem OwnR.rd (h : OwnR w base A n c rs) : RdR w w.heap.size A rs := by
  intro hn
  rw [List.length_map, h.1] at hn
  rcases h.2 with ⟨_, h0, _⟩ | ⟨g, p, cur, rfl, hb, hg, hnc, hm, hs, ht⟩
  · omega
  · refine ⟨g, p, rfl, (Array.getElem?_eq_some_iff.1 hg).1, fun i r hr j v hv => ?_⟩
    rw [List.getElem?_map] at hr
    obtain ⟨x, hx, rfl⟩ := Option.map_eq_some_iff.1 hr
    have hc := ht i x hx
    cases j with
    | zero =>
      simp [rowR] at hv; subst hv
      simp only [World.cell?, hg, Nat.mul_one, Nat.add_zero]; exact hc
    | succ j => simp [rowR] at hv
theorem OwnR.blk (h : OwnR w base A n c rs) : ∀ g, (Value.slice A n c).ownBlock = some g → base ≤ g ∧ g < w.heap.size := by
  intro g hg
  rcases h.2 with ⟨rfl, _, _⟩ | ⟨g', p, cur, rfl, hb, hg', _⟩
  · cases hg
  · simp [Value.ownBlock] at hg; subst hg; exact ⟨hb, (Array.getElem?_eq_some_iff.1 hg').1⟩
theorem OwnR.keep (h : OwnR w base A n c rs) (hk : ∀ g, (Value.slice A n c).ownBlock = some g → w'.heap[g]? = w.heap[g]?) : OwnR w' base A n c rs := by
  refine ⟨h.1, ?_⟩
  rcases h.2 with h0 | ⟨g, p, cur, rfl, hb, hg, hr⟩
  · exact .inl h0
  · exact .inr ⟨g, p, cur, rfl, hb, by rw [hk g rfl]; exact hg, hr⟩
theorem OwnR.below (h : OwnR w base A n c rs) (hB : w.heap.size ≤ B) (hb : Below B w w') : OwnR w' base A n c rs := h.keep fun g hg => hb.block g (by have := (h.blk g hg).2; omega)
theorem OwnR.more (h : OwnR w base A n c rs) (hB : base' ≤ base) : OwnR w base' A n c rs := by
  refine ⟨h.1, ?_⟩
  rcases h.2 with h0 | ⟨g, p, cur, e, hb, hr⟩
  · exact .inl h0
  · exact .inr ⟨g, p, cur, e, by omega, hr⟩
theorem OwnR.only {S : Nat → Prop} (h : OwnR w base A n c rs) (on : Only S w w') (hd : ∀ g, (Value.slice A n c).ownBlock = some g → ¬ S g) : OwnR w' base A n c rs := h.keep fun g hg => on.block g (h.blk g hg).2 (hd g hg)
theorem OwnR.setNe (h : OwnR w base A n c rs) (b i : Nat) (v : Value) (hb : (Value.slice A n c).ownBlock ≠ some b) : OwnR (w.setCell ⟨b, i, none⟩ v) base A n c rs := h.keep fun g hg => heap_setCell_other _ _ _ _ (fun e => hb (by have e2 : g = b := e; rw [← e2]; exact hg))
theorem OwnR.set_ (h : OwnR w base A n c rs) (b i : Nat) (v : Value) (hb : b < base) : OwnR (w.setCell ⟨b, i, none⟩ v) base A n c rs := h.setNe b i v (fun e => by have := (h.blk b e).1; omega)
theorem OwnR.row_ (h : OwnR w base A n c rs) (b : Nat) (D : Array Value) (hb : b < base) : OwnR (w.setRow b D) base A n c rs := h.keep fun g hg => Go.setRow_other w b g D (by have := (h.blk g hg).1; omega)
theorem OwnR.nil (w : World) (base : Nat) : OwnR w base none 0 0 [] := ⟨rfl, .inl ⟨rfl, rfl, rfl⟩⟩
theorem OwnR.congr {rs' : List SlC} (h : OwnR w base A n c rs) (e : rs'.map rowR = rs.map rowR) : OwnR w base A n c rs' := by
  have hl : rs'.length = rs.length := by have := congrArg List.length e; simpa using this
  refine ⟨hl.trans h.1, ?_⟩
  rcases h.2 with h0 | ⟨g, p, cur, e1, hb, hg, hnc, hm, hs, ht⟩
  · exact .inl h0
  · refine .inr ⟨g, p, cur, e1, hb, hg, hnc, hm, hs, fun i r hr => ?_⟩
    have h1 : (rs'.map rowR)[i]? = some (rowR r) := by rw [List.getElem?_map, hr]; rfl
    rw [e, List.getElem?_map] at h1
    obtain ⟨x, hx, hxe⟩ := Option.map_eq_some_iff.1 h1
    rw [ht i x hx]
    unfold rowR at hxe
    injection hxe with h2
    rw [h2]
theorem OwnR.ne {K m : Nat} {E : TypeId} {v : Value} {xs : List Value} (h' : w.ownsRow base' E K v m xs) (h : OwnR w base A n c rs) (hE : E ≠ 71) : ∀ g, v.ownBlock = some g → (Value.slice A n c).ownBlock ≠ some g := by
  intro g hg hg'
  rcases h.2 with ⟨rfl, _, _⟩ | ⟨g0, p, cur, rfl, hb, hg0, _⟩
  · cases hg'
  · simp [Value.ownBlock] at hg'; subst hg'
    rcases h'.2 with ⟨rfl, _⟩ | ⟨g1, cap, cur1, rfl, hb1, hg1, _⟩
    · cases hg
    · simp [Value.ownBlock] at hg; subst hg
      rw [hg0] at hg1; injection hg1 with e; injection e with e1 e2; exact hE e2.symm
theorem OwnCs.below (h : OwnCs w base rs) (hB : w.heap.size ≤ B) (hb : Below B w w') : OwnCs w' base rs := ⟨fun r hr => (h.1 r hr).below hB hb, h.2⟩
theorem OwnCs.more (h : OwnCs w base rs) (hB : base' ≤ base) : OwnCs w base' rs := ⟨fun r hr => (h.1 r hr).more hB, h.2⟩
theorem OwnCs.rd (h : OwnCs w base rs) : RdCs w w.heap.size rs := fun r hr => (h.1 r hr).rd
theorem OwnCs.nil (w : World) (base : Nat) : OwnCs w base [] := ⟨(fun r hr => by cases hr), List.Pairwise.nil⟩
theorem OwnCs.tail {x : SlC} (h : OwnCs w base (x :: rs)) : OwnCs w base rs := ⟨fun r hr => h.1 r (List.mem_cons_of_mem _ hr), (List.pairwise_cons.1 h.2).2⟩
theorem apart_of {w0 : World} {x y : SlC} (hx : OwnC w0 base x.A x.cs.length x.c x.cs) (hy : OwnC w base' y.A y.cs.length y.c y.cs) (hlt : w0.heap.size ≤ base') : Apart x y := by
  intro g hg hg'
  have h1 := hx.blk g hg
  have h2 := hy.blk g hg'
  omega
theorem Apart.symm {x y : SlC} (h : Apart x y) : Apart y x := fun g hg hg' => h g hg' hg
theorem OwnCs.set_ (h : OwnCs w base rs) (b i : Nat) (v : Value) (hb : b < base) : OwnCs (w.setCell ⟨b, i, none⟩ v) base rs := ⟨fun r hr => own_setK (h.1 r hr) b i v hb, h.2⟩
theorem OwnCs.only {S : Nat → Prop} (h : OwnCs w base rs) (on : Only S w w') (hd : ∀ r ∈ rs, ∀ g, blkS r = some g → ¬ S g) : OwnCs w' base rs := ⟨fun r hr => Only.own (h.1 r hr) on (hd r hr), h.2⟩
theorem OwnCs.blk (h : OwnCs w base rs) : ∀ r ∈ rs, ∀ g, blkS r = some g → base ≤ g ∧ g < w.heap.size := fun r hr g hg => (h.1 r hr).blk g hg
end
structure ScrS where
  w : Int
  h : Int
  mw : Int
  mh : Int
  M : SlC
  aw : Int
  ah : Int
  A : SlC
  onAlt : Bool
  x : Int
  y : Int
  wrap : Bool
  fg : Int
  bg : Int
  b : Bool
  u : Bool
  t : Bool
  top : Int
  bot : Int
  noWrap : Bool
  hide : Bool
  sx : Int
  sy : Int
  sfg : Int
  sbg : Int
  sb : Bool
  su : Bool
  st : Bool
  tA : Option Addr
  tk : Nat
  tabs : List Int
  lim : Int
  bA : Option Addr
  bk : Nat
  rows : List SlC
structure ScrD where
  w : Int
  h : Int
  mw : Int
  mh : Int
  M : List CellD
  aw : Int
  ah : Int
  A : List CellD
  onAlt : Bool
  x : Int
  y : Int
  wrap : Bool
  fg : Int
  bg : Int
  b : Bool
  u : Bool
  t : Bool
  top : Int
  bot : Int
  noWrap : Bool
  hide : Bool
  sx : Int
  sy : Int
  sfg : Int
  sbg : Int
  sb : Bool
  su : Bool
  st : Bool
  tabs : List Int
  lim : Int
  rows : List (List CellD)
def ScrS.data (s : ScrS) : ScrD := ⟨s.w, s.h, s.mw, s.mh, s.M.cs, s.aw, s.ah, s.A.cs, s.onAlt, s.x, s.y, s.wrap, s.fg, s.bg, s.b, s.u, s.t, s.top, s.bot, s.noWrap, s.hide, s.sx, s.sy, s.sfg, s.sbg, s.sb, s.su, s.st, s.tabs, s.lim, s.rows.map (·.cs)⟩
def scrL (s : ScrS) : List Value :=
  [.int .i64 s.w, .int .i64 s.h, .int .i64 s.mw, .int .i64 s.mh, .slice s.M.A s.M.cs.length s.M.c, .int .i64 s.aw, .int .i64 s.ah, .slice s.A.A s.A.cs.length s.A.c, .bool s.onAlt, .int .i64 s.x, .int .i64 s.y, .bool s.wrap,
   .int .i64 s.fg, .int .i64 s.bg, .bool s.b, .bool s.u, .bool s.t, .int .i64 s.top, .int .i64 s.bot, .bool s.noWrap, .bool s.hide, .int .i64 s.sx, .int .i64 s.sy, .int .i64 s.sfg, .int .i64 s.sbg, .bool s.sb, .bool s.su, .bool s.st,
   .slice s.tA s.tabs.length s.tk, .int .i64 s.lim, .slice s.bA s.rows.length s.bk]
def scrA (s : ScrS) : Array Value := (scrL s).toArray
theorem scrA_size (s : ScrS) : (scrA s).size = 31 := rfl
theorem scrA_one (s : ScrS) : (scrA s).all (·.oneCell') = true := by unfold scrA scrL; simp [Value.oneCell']
structure RdS (w : World) (B : Nat) (s : ScrS) : Prop where
  M : RdC w B s.M.A s.M.cs
  A : RdC w B s.A.A s.A.cs
  t : RdI w B s.tA s.tabs
  r : RdR w B s.bA s.rows
  rc : RdCs w B s.rows
structure OwnS (w : World) (base : Nat) (s : ScrS) : Prop where
  c : OwnCs w base (s.M :: s.A :: s.rows)
  t : OwnI w base s.tA s.tabs.length s.tk s.tabs
  r : OwnR w base s.bA s.rows.length s.bk s.rows
section
variable {w w' : World} {B B' base base' : Nat} {s : ScrS}
theorem RdS.below (h : RdS w B s) (hB : B ≤ B') (hb : Below B' w w') : RdS w' B s := ⟨h.M.below hB hb, h.A.below hB hb, h.t.below hB hb, h.r.below hB hb, h.rc.below hB hb⟩
theorem RdS.more (h : RdS w B s) (hB : B ≤ B') : RdS w B' s := ⟨h.M.more hB, h.A.more hB, h.t.more hB, h.r.more hB, h.rc.more hB⟩
theorem OwnS.m (h : OwnS w base s) : OwnC w base s.M.A s.M.cs.length s.M.c s.M.cs := h.c.1 s.M (by simp)
theorem OwnS.a (h : OwnS w base s) : OwnC w base s.A.A s.A.cs.length s.A.c s.A.cs := h.c.1 s.A (by simp)
theorem OwnS.rows (h : OwnS w base s) : OwnCs w base s.rows := h.c.tail.tail
theorem OwnS.rd (h : OwnS w base s) : RdS w w.heap.size s := ⟨h.m.rd, h.a.rd, h.t.rd, h.r.rd, h.rows.rd⟩
theorem OwnS.below (h : OwnS w base s) (hB : w.heap.size ≤ B) (hb : Below B w w') : OwnS w' base s := ⟨h.c.below hB hb, h.t.below hB hb, h.r.below hB hb⟩
theorem OwnS.more (h : OwnS w base s) (hB : base' ≤ base) : OwnS w base' s := ⟨h.c.more hB, h.t.more hB, h.r.more hB⟩
theorem OwnS.set_ (h : OwnS w base s) (b i : Nat) (v : Value) (hb : b < base) : OwnS (w.setCell ⟨b, i, none⟩ v) base s := ⟨h.c.set_ b i v hb, own_setK h.t b i v hb, h.r.set_ b i v hb⟩
theorem OwnS.row_ (h : OwnS w base s) (b : Nat) (D : Array Value) (hb : b < base) : OwnS (w.setRow b D) base s := ⟨⟨fun r hr => own_setRow (h.c.1 r hr) b D hb, h.c.2⟩, own_setRow h.t b D hb, h.r.row_ b D hb⟩
theorem OwnS.drew (h : OwnS w base s) : OwnS w.drew base s := ⟨⟨fun r hr => h.c.1 r hr, h.c.2⟩, h.t, h.r⟩
def SS (s : ScrS) (i : Nat) : Prop := (∃ r ∈ s.M :: s.A :: s.rows, blkS r = some i) ∨ (Value.slice s.tA s.tabs.length s.tk).ownBlock = some i ∨ (Value.slice s.bA s.rows.length s.bk).ownBlock = some i
theorem OwnS.blk (h : OwnS w base s) : ∀ i, SS s i → base ≤ i ∧ i < w.heap.size := by
  rintro i (⟨r, hr, hi⟩ | hi | hi)
  · exact h.c.blk r hr i hi
  · exact h.t.blk i hi
  · exact h.r.blk i hi
theorem OwnS.only {S : Nat → Prop} (h : OwnS w base s) (on : Only S w w') (hd : ∀ i, SS s i → ¬ S i) : OwnS w' base s :=
  ⟨h.c.only on (fun r hr g hg => hd g (.inl ⟨r, hr, hg⟩)), Only.own h.t on (fun g hg => hd g (.inr (.inl hg))), h.r.only on (fun g hg => hd g (.inr (.inr hg)))⟩
end
def AnsS (d : ScrD) (w : World) (e : Ending) (w' : World) : Prop := ∃ s, e = .returned (.agg (scrA s)) ∧ OwnS w' w.heap.size s ∧ s.data = d ∧ Below w.heap.size w w'
end Go.Proofs.YtgnpgkkjcloghaaGreat.Sc
