/- The laws' helper that marks a whole disk. -/
import Derived.Test.YtckiloacbanbmaaGreatMarkRows
namespace Go.Proofs.YtckiloacbanbmaaGreat.DOk
open Go.RowKit Go.Proofs.YtckiloacbanbmaaGreat.Bytes Go.Proofs.YtckiloacbanbmaaGreat.Rows_
set_option linter.unusedVariables false

theorem Only.cell {S : Nat → Prop} {w w' : World} (h : Only S w w') {b o : Nat} {v : Value} (hc : w.cell? ⟨b, o, none⟩ = some v) (hn : ¬ S b) : w'.cell? ⟨b, o, none⟩ = some v :=
  (World.cell?_of_block (h.block b (World.block_lt_of_cell? w ⟨b, o, none⟩ hc) hn)).trans hc
/-- the blocks of a disk -/
def SD (F : Option Addr) (nf cf : Nat) (gs : List FileD) (K : Option Addr) (nk ck : Nat) (T : Option Addr) (nt ct : Nat) (i : Nat) : Prop := SF F nf cf gs i ∨ SK K nk ck i ∨ SK T nt ct i
/-- a disk of the call's own -/
structure OwnD (w : World) (base : Nat) (F : Option Addr) (nf cf : Nat) (gs : List FileD) (K : Option Addr) (nk ck : Nat) (ks : List LinkD) (T : Option Addr) (nt ct : Nat) (ts : List TurnD) : Prop where
  f : OwnF w base F nf cf gs
  b : OwnBs w base gs
  l : OwnL w base K nk ck ks
  t : OwnT w base T nt ct ts
section
variable {w : World} {base : Nat} {F : Option Addr} {nf cf : Nat} {gs : List FileD} {K : Option Addr} {nk ck : Nat} {ks : List LinkD} {T : Option Addr} {nt ct : Nat} {ts : List TurnD}
theorem OwnD.alloc (h : OwnD w base F nf cf gs K nk ck ks T nt ct ts) (o : Obj) : OwnD (w.alloc o) base F nf cf gs K nk ck ks T nt ct ts :=
  ⟨World.ownsRow.alloc h.f o, ⟨fun f hf => World.ownsRow.alloc (h.b.1 f hf) o, h.b.2⟩, World.ownsRow.alloc h.l o, World.ownsRow.alloc h.t o⟩
theorem OwnD.lt (h : OwnD w base F nf cf gs K nk ck ks T nt ct ts) : ∀ i, SD F nf cf gs K nk ck T nt ct i → base ≤ i ∧ i < w.heap.size := by
  rintro i ((h1 | ⟨f, hf, h1⟩) | h1 | h1)
  · exact World.ownsRow.lt h.f i h1
  · exact World.ownsRow.lt (h.b.1 f hf) i h1
  · exact World.ownsRow.lt h.l i h1
  · exact World.ownsRow.lt h.t i h1
theorem own_link_sf {v : Value} {n : Nat} {xs : List Value} {J : Nat} {E : TypeId} (hv : w.ownsRow base E J v n xs) (hE1 : E ≠ 65) (hE2 : E ≠ 5) (hf : OwnF w base F nf cf gs) (hb : OwnBs w base gs) : ∀ g, v.ownBlock = some g → ¬ SF F nf cf gs g := by
  rintro g hg (h1 | ⟨f, hm, h1⟩)
  · exact own_ne hv hf hE1 g hg h1
  · exact own_ne hv (hb.1 f hm) hE2 g hg h1
theorem markF_sf (k : Int) (gs : List FileD) (i : Nat) : SF F nf cf (markF k gs) i ↔ SF F nf cf gs i := by
  have e : ∀ l : List FileD, (∃ f ∈ l, blkF f = some i) ↔ some i ∈ l.map blkF := fun l => by simp [List.mem_map]
  unfold SF
  rw [e, e, markF_map]
end

set_option maxRecDepth 100000 in
set_option maxHeartbeats 3200000 in
theorem markDisk_any (room fuse next : Int) (base : Nat) (F : Option Addr) (nf cf : Nat) (K : Option Addr) (nk ck : Nat) (T : Option Addr) (nt ct : Nat) (gs : List FileD) (ks : List LinkD) (ts : List TurnD) (k : Nat) (w : World)
    (ho : OwnD w base F nf cf gs K nk ck ks T nt ct ts) (hf : gs.length = nf) (hk : ks.length = nk) (ht : ts.length = nt) (h0 : 1 ≤ k) (h1 : k + 2 * nf + usedD gs + 2 * nk + 4 * nt ≤ 1099511627776) :
    Calls Tryz.prog 13 #[.agg #[.int .i64 room, .int .i64 fuse, .int .i64 next, .slice F nf cf, .slice K nk ck, .slice T nt ct], .int .i64 k] w
      fun e w' => e = .returned (.int .i64 ((k + 2 * nf + usedD gs + 2 * nk + 4 * nt : Nat) : Int)) ∧
        OwnD w' base F nf cf (markF k gs) K nk ck (markL (k + 2 * nf + usedD gs) ks) T nt ct (markT (k + 2 * nf + usedD gs + 2 * nk) ts) ∧ Only (SD F nf cf gs K nk ck T nt ct) w w' := by
  have HE := Lib.hid (show endF k gs = ((k + 2 * nf + usedD gs : Nat) : Int) by unfold endF; rw [hf]; omega)
  have HLT := Lib.hid ho.lt
  have HO := Lib.hid (ho.alloc (.cells #[.int .i64 room, .int .i64 fuse, .int .i64 next, .slice F nf cf, .slice K nk ck, .slice T nt ct] 36))
  have HA := Lib.hid (show Only (SD F nf cf gs K nk ck T nt ct) w (w.alloc (.cells #[.int .i64 room, .int .i64 fuse, .int .i64 next, .slice F nf cf, .slice K nk ck, .slice T nt ct] 36)) from Only.below ((Below.refl w.heap.size w).alloc (Nat.le_refl _) _) (Nat.le_refl _))
  have HC := Lib.hid (show ∀ j v, #[Value.int .i64 room, .int .i64 fuse, .int .i64 next, .slice F nf cf, .slice K nk ck, .slice T nt ct][j]? = some v → (w.alloc (.cells #[.int .i64 room, .int .i64 fuse, .int .i64 next, .slice F nf cf, .slice K nk ck, .slice T nt ct] 36)).cell? ⟨w.heap.size, j, none⟩ = some v from fun j v h => by rw [World.cell?_alloc_at _ _ _ _ rfl]; exact h)
  have HN := Lib.hid (show ¬ SD F nf cf gs K nk ck T nt ct w.heap.size from fun h => by have := (HLT.out _ h).2; omega)
  have HF := Lib.hid (fun W (h : OwnD W base F nf cf gs K nk ck ks T nt ct ts) => markFileS_any F nf cf base gs k W h.f hf h.b (by omega) (by rw [HE.out]; omega))
  clear ho
  generalize hk1 : k + 2 * nf + usedD gs = k1 at *
  generalize hk2 : k1 + 2 * nk = k2 at *
  go_enter Tryz.func13, Tryz.ntmps13
  go_wp2_with fail
  refine (HF.out _ HO.out).mono ?_
  rintro e v1 ⟨rfl, hF1, hB1, on1⟩
  rw [HE.out]
  have HL1 := Lib.hid (Only.own HO.out.l on1 (own_link_sf HO.out.l (by decide) (by decide) HO.out.f HO.out.b))
  have HT1 := Lib.hid (Only.own HO.out.t on1 (own_link_sf HO.out.t (by decide) (by decide) HO.out.f HO.out.b))
  have HF1 := Lib.hid hF1
  have HB1 := Lib.hid hB1
  have ON1 := Lib.hid (HA.out.trans (on1.mono (fun i hi => Or.inl hi)))
  have c4 := on1.cell (HC.out 4 _ rfl) (fun h => HN.out (.inl h))
  have c5 := on1.cell (HC.out 5 _ rfl) (fun h => HN.out (.inl h))
  have HML := Lib.hid (by have h := markLinkS_any K nk ck base ks k1 v1 HL1.out hk (by omega) (by omega); rw [hk2] at h; exact h)
  clear hF1 hB1 on1 HO HC HA HF HLT
  have HX := Lib.hid (fun W (h : OwnT W base T nt ct ts) => markTurnS_any T nt ct base ts k2 W h ht (by omega) (by omega))
  go_wp2_with fail
  refine HML.out.mono ?_
  rintro e v2 ⟨rfl, hL2, on2⟩
  have hne : ∀ {E : TypeId} {J n : Nat} {v : Value} {xs : List Value}, E ≠ 97 → v1.ownsRow base E J v n xs → ∀ g, v.ownBlock = some g → ¬ SK K nk ck g := fun hE h g hg hs => own_ne h HL1.out hE g hg hs
  have HF2 := Lib.hid (Only.own HF1.out on2 (hne (by decide) HF1.out))
  have HB2 := Lib.hid (show OwnBs v2 base (markF k gs) from ⟨fun f hf => Only.own (HB1.out.1 f hf) on2 (hne (by decide) (HB1.out.1 f hf)), HB1.out.2⟩)
  have HT2 := Lib.hid (Only.own HT1.out on2 (hne (by decide) HT1.out))
  have HL2 := Lib.hid hL2
  have ON2 := Lib.hid (ON1.out.trans (on2.mono (fun i hi => Or.inr (.inl hi))))
  have d5 := on2.cell c5 (fun h => HN.out (.inr (.inl h)))
  clear hL2 on2 c4 c5 hne HF1 HB1 HT1 HL1 ON1 HML
  go_wp2_with fail
  refine (HX.out _ HT2.out).mono ?_
  rintro e v3 ⟨rfl, hT3, on3⟩
  have hne : ∀ {E : TypeId} {J n : Nat} {v : Value} {xs : List Value}, E ≠ 67 → v2.ownsRow base E J v n xs → ∀ g, v.ownBlock = some g → ¬ SK T nt ct g := fun hE h g hg hs => own_ne h HT2.out hE g hg hs
  have HF3 := Lib.hid (Only.own HF2.out on3 (hne (by decide) HF2.out))
  have HB3 := Lib.hid (show OwnBs v3 base (markF k gs) from ⟨fun f hf => Only.own (HB2.out.1 f hf) on3 (hne (by decide) (HB2.out.1 f hf)), HB2.out.2⟩)
  have HL3 := Lib.hid (Only.own HL2.out on3 (hne (by decide) HL2.out))
  have HT3 := Lib.hid hT3
  have ON3 := Lib.hid (ON2.out.trans (on3.mono (fun i hi => Or.inr (.inr hi))))
  clear hT3 on3 hne HF2 HB2 HL2 ON2 d5 HT2
  go_wp2_with fail
  go_ret
  exact ⟨ret_int (by omega), ⟨HF3.out, HB3.out, HL3.out, HT3.out⟩, ON3.out⟩
end Go.Proofs.YtckiloacbanbmaaGreat.DOk
