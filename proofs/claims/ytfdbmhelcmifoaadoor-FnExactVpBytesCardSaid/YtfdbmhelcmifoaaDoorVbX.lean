/- VpBytes in the program and in the model, in the letters that the law takes. -/
import Derived.Test.YtfdbmhelcmifoaaDoorVbF
namespace Go.Proofs.YtfdbmhelcmifoaaDoor.Vp
open Go.RowKit Go.Proofs.YtfdbmhelcmifoaaDoor.Bytes Go.Proofs.YtfdbmhelcmifoaaDoor.DOk Go.Proofs.YtfdbmhelcmifoaaDoor.Rune Go.Proofs.YtfdbmhelcmifoaaDoor.RowK Go.Proofs.YtfdbmhelcmifoaaDoor.Gr
set_option linter.unusedVariables false
theorem OwnF4.below {w w' : World} {base B : Nat} {F : Option Addr} {n c : Nat} {ds : List ActD} (h : OwnF4 w base F n c ds) (hB : w.heap.size ≤ B) (hb : Below B w w') : OwnF4 w' base F n c ds := own_belowK h hB hb
theorem blkAs_lt {w : World} {base : Nat} {ds : List ActD} (h : OwnAs w base ds) : ∀ i, BlkAs ds i → base ≤ i ∧ i < w.heap.size := fun i ⟨d, hd, hi⟩ => (h.own d hd).blk i hi
theorem blkF_lt {w : World} {base : Nat} {F : Option Addr} {n c : Nat} {ds : List ActD} (h : OwnF4 w base F n c ds) : ∀ i, Blk F n c i → base ≤ i ∧ i < w.heap.size := World.ownsRow.lt h
/-- what VpBytes answers, in letters -/
def AnsBL (w : World) (st : Int) (q : Bool) (zs bs : List Int) (as_ : List AS) (n1 n2 n3 : Nat) (e : Ending) (w' : World) : Prop :=
  ∃ A' ca' P' cp' F c ds, e = .returned (.tuple #[.agg #[.int .i64 st, .bool q, .slice A' n1 ca', .slice P' n2 cp'], .slice F n3 c]) ∧ OwnI w' w.heap.size A' n1 ca' zs ∧ Own w' w.heap.size P' n2 cp' bs ∧ OwnF4 w' w.heap.size F n3 c ds ∧ OwnAs w' w.heap.size ds ∧ ds.map ActD.a = as_ ∧ (∀ d ∈ ds, ∀ i, Blk d.A d.n d.c i → ¬ Blk A' n1 ca' i) ∧ Below w.heap.size w w'
theorem AnsBs.letters {w : World} {s' : VS} {as_ : List AS} {n1 n2 n3 : Nat} {e : Ending} {w' : World} (h : AnsBs w s' as_ e w') (h1 : s'.zs.length = n1) (h2 : s'.bs.length = n2) (h3 : as_.length = n3) : AnsBL w s'.st s'.q s'.zs s'.bs as_ n1 n2 n3 e w' := by
  obtain ⟨A', na', ca', P', np', cp', F, n, c, ds, he, i1, i2, i3, i4, i5, i6, i7⟩ := h
  have e1 := i1.len
  have e2 := i2.len
  have e3 := ownF4_len i3
  have e4 := congrArg List.length i5
  rw [List.length_map] at e4
  obtain rfl : na' = n1 := by omega
  obtain rfl : np' = n2 := by omega
  obtain rfl : n = n3 := by omega
  exact ⟨A', ca', P', cp', F, c, ds, he, i1, i2, i3, i4, i5, i6, i7⟩
theorem vbsV_small (s : VS) (ys : List Int) (hg : Rng s.bs) (hy : Rng ys) : (vbsV s ys).1.zs.length ≤ 8 ∧ (vbsV s ys).1.bs.length ≤ 2 ∧ (vbsV s ys).2.length ≤ ys.length ∧ ∀ a ∈ (vbsV s ys).2, a.zs.length ≤ 8 := by
  unfold vbsV
  split
  · rename_i h
    have hk : s.ok := ⟨h, hg⟩
    have h1 := runV_ok hk ys hy
    refine ⟨?_, ?_, runV_len ys, runV_small hk ys hy⟩
    · rcases ok_parts h1 with ⟨_, _, e, l⟩ | ⟨_, _, e, l⟩ | ⟨_, l, e, _⟩
      · rw [e]; simp
      · rw [e]; simp
      · exact l
    · rcases ok_parts h1 with ⟨_, _, e, l⟩ | ⟨_, _, e, l⟩ | ⟨_, l, e, _⟩
      · exact l
      · rw [l]; simp
      · rw [e]; simp
  · simp [vz]
theorem acts_n {w : World} {base : Nat} {ds : List ActD} {as_ : List AS} (h : OwnAs w base ds) (hm : ds.map ActD.a = as_) (h8 : ∀ a ∈ as_, a.zs.length ≤ 8) : ∀ d ∈ ds, d.n ≤ 8 ∧ d.zs.length ≤ 8 := fun d hd => by
  have h1 := h8 d.a (by rw [← hm]; exact List.mem_map_of_mem hd)
  have h2 := (h.own d hd).len
  have h3 : d.a.zs = d.zs := rfl
  rw [h3] at h1
  omega
theorem heldActS_bl (F : Option Addr) (n c base : Nat) (ds : List ActD) (m M : Int) (w : World) (hM : M = msum m ds) (h : OwnF4 w base F n c (markL m ds)) (hA : OwnAs w base (markL m ds)) (h8 : ∀ d ∈ ds, d.n ≤ 8) (hn : n ≤ 2097152) (h0 : 0 ≤ m) (h1 : m ≤ 1048576) :
    Calls Tryd.prog 28 #[.slice F n c, .int .i64 m] w fun e w' => e = .returned (.int .i64 M) ∧ Below w.heap.size w w' := by
  subst hM
  exact (heldActS_any F n c base ds m w h hA h8 hn h0 h1).mono fun e w' h => ⟨h.1, by rw [← h.2]; exact Below.refl _ _⟩
theorem vb_letters (st : Int) (mk : Bool) (na : Nat) (zs : List Int) (np : Nat) (bs : List Int) (ny : Nat) (ys : List Int) (hg : Rng bs) (hn : na + np ≤ 1048576) (hy : ys.length = ny) (hyn : ny ≤ 1048576) (hyr : Rng ys) :
    ∃ (s1 : Int) (s2 : Bool) (s3 s4 : List Int) (as_ : List AS) (n1 n2 n3 : Nat), (n1 ≤ 8 ∧ n2 ≤ 2 ∧ n3 ≤ 1048576 ∧ ∀ a ∈ as_, a.zs.length ≤ 8) ∧
      (∀ (W : World) (B B2 : Nat) (F : Option Addr) (d : Nat) (G : Option Addr) (d' : Nat) (Y : Option Addr) (cy : Nat), OwnV W B F na d zs G np d' bs → Own W B2 Y ny cy ys → Calls Tryd.prog 21 #[.agg #[.int .i64 st, .bool mk, .slice F na d, .slice G np d'], .slice Y ny cy] W (AnsBL W s1 s2 s3 s4 as_ n1 n2 n3)) ∧
      (∀ (W : World) (B B2 : Nat) (F : Option Addr) (d : Nat) (G : Option Addr) (d' : Nat) (Y : Option Addr) (cy : Nat), Dec.Tabs8 W → OwnV W B F na d zs G np d' bs → Own W B2 Y ny cy ys → Calls Tryd.prog 23 #[.agg #[.int .i64 st, .bool mk, .slice F na d, .slice G np d'], .slice Y ny cy] W (AnsBL W s1 s2 s3 s4 as_ n1 n2 n3)) := by
  have hs := vbsV_small ⟨st, mk, zs, bs⟩ ys hg hyr
  refine ⟨(vbsV ⟨st, mk, zs, bs⟩ ys).1.st, (vbsV ⟨st, mk, zs, bs⟩ ys).1.q, (vbsV ⟨st, mk, zs, bs⟩ ys).1.zs, (vbsV ⟨st, mk, zs, bs⟩ ys).1.bs, (vbsV ⟨st, mk, zs, bs⟩ ys).2, _, _, _, ⟨hs.1, hs.2.1, Nat.le_trans hs.2.2.1 (by omega), hs.2.2.2⟩, ?_, ?_⟩
  · intro W B B2 F d G d' Y cy h h2
    exact (spec_VpBytes_any st mk F na d zs G np d' bs Y ny cy ys W h.i.rd (own_noneK h.i) h.i.len (by omega) h.b.rd (own_none h.b) hg h.b.len (by omega) h.b.cap h2.rd h2.len (by omega) hyr).mono fun e w' h => AnsBs.letters h rfl rfl rfl
  · intro W B B2 F d G d' Y cy hT h h2
    exact (impl_VpBytes_any st mk F na d zs G np d' bs Y ny cy ys W hT h.i.rd (own_noneK h.i) h.i.len (by omega) h.b.rd (own_none h.b) hg h.b.len (by omega) h2.rd h2.len (by omega) hyr).mono fun e w' h => AnsBs.letters h rfl rfl rfl
end Go.Proofs.YtfdbmhelcmifoaaDoor.Vp
