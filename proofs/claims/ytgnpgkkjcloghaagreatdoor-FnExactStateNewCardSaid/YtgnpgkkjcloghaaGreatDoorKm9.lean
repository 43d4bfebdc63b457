/- Texts that lay in modules of their own: AppOne, TrPn, HasI. -/
import Derived.Test.YtgnpgkkjcloghaaGreatDoorKiA
import Derived.Test.YtgnpgkkjcloghaaGreatDoorKm2
import Derived.Laws.AppendOwn
import Derived.Test.YtgnpgkkjcloghaaGreatDoorKm8
import Derived.Deep.QuietTactic
import Derived.BigQuiet
namespace Go.Proofs.YtgnpgkkjcloghaaGreatDoor.AppOne
open Go.RowKit Go.Proofs.YtgnpgkkjcloghaaGreatDoor.Bytes Go.Proofs.YtgnpgkkjcloghaaGreatDoor.DOk Go.Proofs.YtgnpgkkjcloghaaGreatDoor.RowK
set_option linter.unusedVariables false
theorem append_blkG {w : World} {base n c n1 c1 : Nat} {A : Option Addr} {ad : Addr} {sl E ty : TypeId} {i0 : TypeInfo} {z : Value} {bytes : Nat} {xs : List Value} {news : List Value}
    (hu : Tryz.prog.underlying sl = some (.slice E)) (hi : Tryz.prog.info? E = some i0) (hz0 : i0.zero = some z) (hz1 : i0.size = 1) (hz2 : i0.bytes = bytes) (hzs : z.cells.size = 1) (hby : bytes ≤ 48)
    (hown : w.ownsRow base E 1 (.slice A n c) n xs) (hl : news.length = n1) (hnews : ∀ j u, news[j]? = some u → w.cell? (ad.add j) = some u) (h1 : ∀ u ∈ news, u.oneCell' = true) (hn : n ≤ 1099511627776) (hn1 : n1 ≤ 1099511627776)
    {v' : Value} {w' : World} (hr : (Builtin.append_ #[sl, sl] ty #[.slice A n c, .slice (some ad) n1 c1]).run Tryz.prog w = .ok v' w') :
    ∀ g, v'.ownBlock = some g → (Value.slice A n c).ownBlock = some g ∨ w.heap.size ≤ g := by
  intro g hg
  have hmul : (n + n1) * bytes ≤ 140737488355328 := Nat.le_trans (Nat.mul_le_mul (Nat.add_le_add hn hn1) hby) (by decide)
  have hl' : news.length = n1 * i0.size := by rw [hz1]; omega
  rcases hown.2 with ⟨hv, h0⟩ | ⟨g0, cap, cur, hv, hbg, hgg, hnc, hcm, hcs, htake⟩
  · injection hv with e1 e2 e3
    subst e1 e2 e3
    by_cases hm : n1 = 0
    · subst hm
      obtain ⟨v2, w2, hr2, ho2, hg2, hiff⟩ := run_append_own (P := Tryz.prog) w 0 sl ty E i0 z 1 bytes hu hi hz0 hz1 hz2 hzs (by decide) (.slice none 0 0) 0 [] (World.ownsRow_nil w 0 _ _) ad 0 c1 news (by omega) hnews h1 (by unfold maxLen; omega) (by omega) (Nat.zero_le _)
      rw [hr] at hr2
      injection hr2 with e1 e2
      have := (hiff.2 ⟨rfl, rfl⟩)
      rw [← e1] at this
      rw [this] at hg; cases hg
    · have hr2 := run_append_nil (P := Tryz.prog) w sl ty E i0 z hu hi hz0 ad n1 c1 news hl' hnews (by omega) (by omega) (by rw [hz2]; exact Nat.le_trans (by rw [Nat.zero_add] at hmul; exact hmul) (by decide))
      rw [hr] at hr2
      injection hr2 with e1 e2
      subst e1
      simp [Value.ownBlock] at hg
      exact .inr (by omega)
  · injection hv with e1 e2 e3
    subst e1 e3
    by_cases hroom : n + n1 ≤ c
    · have hr2 := run_append_room (P := Tryz.prog) w sl ty E i0 hu hi g0 n c cur hgg ad n1 c1 news hl' hnews h1 hroom (by rw [hz1]; omega)
      rw [hr] at hr2
      injection hr2 with e1 e2
      subst e1
      exact .inl hg
    · have holds : ∀ j u, xs[j]? = some u → w.cell? ((⟨g0, 0, none⟩ : Addr).add j) = some u := World.ownsRow.cells hown (g := g0) rfl
      have hr2 := run_append_grow (P := Tryz.prog) w sl ty E i0 z hu hi hz0 ⟨g0, 0, none⟩ n c xs (by rw [hz1]; have := hown.1; simpa using this) holds ad n1 c1 news hl' hnews (by omega) (by omega) (growslice_fits (by omega) (by rw [hz2]; exact hmul))
      rw [hr] at hr2
      injection hr2 with e1 e2
      subst e1
      simp [Value.ownBlock] at hg
      exact .inr (by omega)
/-- 'append(s, x)' of one cell that the walk has laid in a block of its own -/
theorem append_one {wr : World} {ops : Array Oper} {rest : List Oper} {o : Oper} {a : Act} {Q : Exit → Act → World → Prop} {sl E : TypeId} {i0 : TypeInfo} {z0 : Value} {bytes : Nat}
    (hu : Tryz.prog.underlying sl = some (.slice E)) (hi : Tryz.prog.info? E = some i0) (hz0 : i0.zero = some z0) (hz1 : i0.size = 1) (hz2 : i0.bytes = bytes) (hzs : z0.cells.size = 1) (hby : bytes ≤ 48)
    (hgd : o.guard = none) (s x : Operand) (ho : o.op = .call { callee := .builtin .append, args := #[s, x], argTypes := #[sl, sl] })
    {base n c : Nat} {A : Option Addr} {xs : List Value} {z : Value} (hs : a.eval s = .slice A n c) (H : Nat) (hH : wr.heap.size = H) (hx : a.eval x = .slice (some ⟨H, 0, none⟩) 1 1)
    (hown : wr.ownsRow base E 1 (.slice A n c) n xs) (hzc : z.oneCell' = true) (hn : n ≤ 549755813888) (hbase : base ≤ wr.heap.size)
    (h : ∀ A' c' w', w'.ownsRow base E 1 (.slice A' (n + 1) c') (n + 1) (xs ++ [z]) → wr.grownBy w' (Value.slice A n c).ownBlock → (∀ g, (Value.slice A' (n + 1) c').ownBlock = some g → (Value.slice A n c).ownBlock = some g ∨ wr.heap.size ≤ g) → wpList Tryz.prog ops Q rest (a.put o.dst (.slice A' (n + 1) c')) w') :
    wpList Tryz.prog ops Q (o :: rest) a (wr.alloc (.cells #[z] E)) := by
  subst hH
  have hmul : (n + 1) * bytes ≤ 140737488355328 := Nat.le_trans (Nat.mul_le_mul (Nat.add_le_add hn (Nat.le_refl 1)) hby) (by decide)
  have hnews : ∀ j u, [z][j]? = some u → (wr.alloc (.cells #[z] E)).cell? ((⟨wr.heap.size, 0, none⟩ : Addr).add j) = some u := by
    intro j u hj
    match j, hj with
    | 0, hj => simp at hj; subst hj; simp [Addr.add]
  have h1 : ∀ u ∈ [z], u.oneCell' = true := by intro u hu; simp at hu; subst hu; exact hzc
  have ho2 := World.ownsRow.alloc hown (.cells #[z] E)
  obtain ⟨v', w', hr, h2, h3, h4⟩ := run_append_own (P := Tryz.prog) (wr.alloc (.cells #[z] E)) base sl o.type E i0 z0 1 bytes hu hi hz0 hz1 hz2 hzs (by decide) _ n _ ho2 ⟨wr.heap.size, 0, none⟩ 1 1 [z] rfl hnews h1 (by unfold maxLen; omega) hmul (by simp; omega)
  have hk := append_blkG (ty := o.type) hu hi hz0 hz1 hz2 hzs hby ho2 (n1 := 1) rfl hnews h1 (by omega) (by omega) hr
  refine wpList_plain hgd fun K hK => ?_
  unfold Oper.wp
  simp [execOp, ho, resolve, invoke, builtin, hs, hx, hr, Result.andThen]
  obtain ⟨A', c', rfl⟩ := own_shapeK h2
  exact hK _ _ (h A' c' w' h2 (grown_trans (World.grownBy_alloc wr _ _) h3) (fun g hg => (hk g hg).elim .inl fun h => .inr (by simp at h; omega)))
end Go.Proofs.YtgnpgkkjcloghaaGreatDoor.AppOne
namespace Go.Proofs.YtgnpgkkjcloghaaGreatDoor.Tr
open Go.RowKit Go.Proofs.YtgnpgkkjcloghaaGreatDoor.Bytes Go.Proofs.YtgnpgkkjcloghaaGreatDoor.Rows_ Go.Proofs.YtgnpgkkjcloghaaGreatDoor.RowK Go.Proofs.YtgnpgkkjcloghaaGreatDoor.DOk
set_option linter.unusedVariables false
theorem panesD_yes (t : List NodeD) (k : Nat) (h : k < t.length) (hl : leafB t[k] = true) : panesD (t.take (k + 1)) = panesD (t.take k) ++ [t[k].pane] := by
  unfold panesD; rw [List.take_succ_eq_append_getElem h, List.filter_append, List.map_append]; simp [hl]
theorem panesD_no (t : List NodeD) (k : Nat) (h : k < t.length) (hl : leafB t[k] = false) : panesD (t.take (k + 1)) = panesD (t.take k) := by
  unfold panesD; rw [List.take_succ_eq_append_getElem h, List.filter_append, List.map_append]; simp [hl]
theorem panesD_le (t : List NodeD) : (panesD t).length ≤ t.length := by unfold panesD; rw [List.length_map]; exact List.length_filter_le _ _
set_option maxRecDepth 100000 in
set_option maxHeartbeats 1600000 in
theorem panesOf_any (A : Option Addr) (n c B : Nat) (t : List NodeD) (w : World) (hr : RdN w B A t) (hl : t.length = n) (hn : n ≤ 1000000) (hB : B ≤ w.heap.size) :
    Calls Tryz.prog 115 #[.slice A n c] w fun e w' => ∃ A' n' c', e = .returned (.slice A' n' c') ∧ OwnI w' w.heap.size A' n' c' (panesD t) ∧ Below w.heap.size w w' := by
  obtain ⟨i0, hi, hz0, hz1, hz2⟩ := info_parts intInfo
  have HR := Lib.hid hr
  have HL := Lib.hid hl
  clear hr hl
  go_enter Tryz.func115, Tryz.ntmps115
  go_wp2_with fail
  go_loopw [3, 8] (fun v i wr => ∃ (k : Nat) (A2 : Option Addr) (n2 c2 : Nat), k ≤ n ∧ i = .int .i64 k ∧ v = .slice A2 n2 c2 ∧ OwnI wr w.heap.size A2 n2 c2 (panesD (t.take k)) ∧ Below w.heap.size w wr) (fun _ i _ => n - (intOf i).toNat)
  case atStart => exact ⟨0, none, 0, 0, Nat.zero_le _, rfl, rfl, World.ownsRow_nil _ _ _ _, Below.refl _ _⟩
  case round =>
    obtain ⟨k, A2, n2, c2, hk, rfl, rfl, ho, hb⟩ := hrel
    have hz : w.heap.size ≤ wr.heap.size := hb.size
    have hn2 : n2 ≤ n := by
      have h1 := ho.len
      have h2 := panesD_le (t.take k)
      rw [List.length_take] at h2; omega
    by_cases hlt : k < n
    · have hlt' : k < t.length := by rw [HL.out]; exact hlt
      obtain ⟨b, o, rfl, hlB, hc0, hc1, hc2⟩ := (HR.out.below hB hb).at_ hlt'
      have hbw : b < wr.heap.size := by omega
      have HY := Lib.hid (panesD_yes t k hlt')
      have HN := Lib.hid (panesD_no t k hlt')
      have hbx : Below w.heap.size w (wr.alloc (.cells #[.int .i64 t[k].pane, .bool t[k].down, .int .i64 t[k].first] 147)) := hb.alloc hz _
      have HOX := Lib.hid (ho.alloc (.cells #[.int .i64 t[k].pane, .bool t[k].down, .int .i64 t[k].first] 147))
      have HBX := Lib.hid hbx
      clear ho hb hbx
      cases hlf : leafB t[k] <;> have HLF := Lib.hid (show leafB ⟨t[k].pane, t[k].down, t[k].first⟩ = _ from hlf) <;> have HLF0 := Lib.hid hlf <;> clear hlf
      · have HS := Lib.hid (HN.out HLF0.out)
        clear HY HN HLF0
        generalize t[k].pane = x0 at *
        generalize t[k].down = x1 at *
        generalize t[k].first = x2 at *
        go_wp2_with fail
        refine (isLeaf_any x0 x2 x1 _).mono ?_
        rintro e v1 ⟨rfl, hb1⟩
        rw [HLF.out]
        have HO1 := Lib.hid (HOX.out.below (Nat.le_refl _) hb1)
        have HB1 := Lib.hid (HBX.out.trans (hb1.mono (by simp; omega)))
        clear hb1
        go_wp2_with fail
        exact ⟨⟨k + 1, A2, n2, c2, by omega, by go_num, rfl, by rw [HS.out]; exact HO1.out, HB1.out⟩, by simp [intOf]; omega⟩
      · have HS := Lib.hid (HY.out HLF0.out)
        clear HY HN HLF0
        generalize t[k].pane = x0 at *
        generalize t[k].down = x1 at *
        generalize t[k].first = x2 at *
        go_wp2_with fail
        refine (isLeaf_any x0 x2 x1 _).mono ?_
        rintro e v1 ⟨rfl, hb1⟩
        rw [HLF.out]
        have HO1 := Lib.hid (HOX.out.below (Nat.le_refl _) hb1)
        have HB1 := Lib.hid (HBX.out.trans (hb1.mono (by simp; omega)))
        obtain ⟨hcc, hff⟩ := bcell hb1
        have hzv : wr.heap.size < v1.heap.size := by have := hb1.size; simp at this; omega
        clear hb1
        go_wp2_with (at_builtin; refine AppOne.append_one Tryz.underlying61 hi hz0 hz1 hz2 rfl (by decide) rfl _ _ rfl rfl _ rfl rfl HO1.out rfl (by omega) (by omega) ?_)
        intro A3 c3 w3 ho3 hg3 hl3
        have HO3 := Lib.hid (show OwnI w3 w.heap.size A3 (n2 + 1) c3 (panesD (t.take (k + 1))) by
          rw [HS.out]; unfold OwnI iv; rw [List.map_append]; exact ho3)
        have HB3 := Lib.hid (HB1.out.grown hg3 (by omega) (fun g hg => (HO1.out.blk g hg).1))
        clear ho3 hg3 hl3
        go_wp2_with fail
        exact ⟨⟨k + 1, A3, n2 + 1, c3, by omega, by go_num, rfl, HO3.out, HB3.out⟩, by simp [intOf]; omega⟩
    · obtain rfl : n = k := by omega
      rw [List.take_of_length_le (by rw [HL.out]; exact Nat.le_refl _)] at ho
      have HO := Lib.hid ho
      have HB := Lib.hid hb
      clear ho hb
      go_wp2_with fail
      go_ret
      exact ⟨A2, n2, c2, rfl, HO.out, HB.out⟩
end Go.Proofs.YtgnpgkkjcloghaaGreatDoor.Tr
namespace Go.Proofs.YtgnpgkkjcloghaaGreatDoor.DOk
open Go.RowKit Go.Proofs.YtgnpgkkjcloghaaGreatDoor.Bytes Go.Proofs.YtgnpgkkjcloghaaGreatDoor.Rows_
set_option linter.unusedVariables false
/-! ### l02HasInt -/
def hasI (zs : List Int) (z : Int) : Bool := zs.any (· == z)
theorem hasI_hit (zs : List Int) (z : Int) (k : Nat) (hk : k < zs.length) (h : (zs[k] == z) = true) : hasI zs z = true := by
  unfold hasI; rw [List.any_eq_true]; exact ⟨zs[k], List.getElem_mem hk, h⟩
theorem hasI_miss (zs : List Int) (z : Int) (h : ∀ k (hk : k < zs.length), (zs[k] == z) = false) : hasI zs z = false := by
  unfold hasI; rw [List.any_eq_false]
  intro x hx
  obtain ⟨k, hk, rfl⟩ := List.getElem_of_mem hx
  simp [h k hk]

set_option maxRecDepth 100000 in
set_option maxHeartbeats 800000 in
theorem l02HasInt_any (A : Option Addr) (n c : Nat) (zs : List Int) (z : Int) (w : World) (B : Nat) (hr : RdI w B A zs) (hl : zs.length = n) (hn : n ≤ 1099511627776) :
    Calls Tryz.prog 47 #[.slice A n c, .int .i64 z] w fun e w' => e = .returned (.bool (hasI zs z)) ∧ w = w' := by
  have HL := Lib.hid hl
  have HR := Lib.hid hr
  clear hl hr
  go_enter Tryz.func47, Tryz.ntmps47
  go_wp2_with fail
  go_loop [9] (fun i => ∃ k : Nat, k ≤ n ∧ i = .int .i64 k ∧ Hid (∀ j (hj : j < zs.length), j < k → (zs[j] == z) = false)) (fun i => n - (intOf i).toNat)
  case atStart => exact ⟨0, Nat.zero_le _, rfl, Lib.hid (fun j _ h => absurd h (by omega))⟩
  case round =>
    obtain ⟨k, hk, rfl, HA⟩ := hrel
    by_cases hlt : k < n
    · have hlt' : k < zs.length := by rw [HL.out]; exact hlt
      obtain ⟨b, o, rfl, hB, hc⟩ := HR.out.at_ hlt'
      cases he : (zs[k] == z) <;> have HE := Lib.hid he
      · have HN := Lib.hid (fun j (hj : j < zs.length) (h : j < k + 1) => (by
          rcases Nat.lt_or_ge j k with h1 | h1
          · exact HA.out j hj h1
          · have : j = k := by omega
            subst this; exact HE.out : (zs[j] == z) = false))
        generalize zs[k] = x at *
        go_wp2_with fail
        exact ⟨⟨k + 1, by omega, by go_num, HN⟩, by simp [intOf]; omega⟩
      · have HV := Lib.hid (hasI_hit zs z k hlt' HE.out)
        generalize zs[k] = x at *
        go_wp2_with fail
        go_ret
        exact ⟨Bytes.ret_bool HV.out.symm, rfl⟩
    · obtain rfl : n = k := by omega
      have HV := Lib.hid (hasI_miss zs z (fun j hj => HA.out j hj (by have := HL.out; omega)))
      go_wp2_with fail
      go_ret
      exact ⟨Bytes.ret_bool HV.out.symm, rfl⟩

end Go.Proofs.YtgnpgkkjcloghaaGreatDoor.DOk
