/- Appending to a byte slice whose capacity is its length: the row is copied into memory of the call's own; the digits of a number appended so. -/
import Derived.Test.YteiojpglhmikoaaDoorPutCore
namespace Go.Proofs.YteiojpglhmikoaaDoor.Bytes
open Go.RowKit Go.Proofs.YteiojpglhmikoaaDoor.Var
set_option linter.unusedVariables false

/-- 'out = append(out, z)', one byte in a block of its own, to a slice that is full -/
theorem append_byte_full {wr : World} {ops : Array Oper} {rest : List Oper} {o : Oper} {a : Act} {Q : Exit → Act → World → Prop} (hgd : o.guard = none) (s x : Operand)
    (ho : o.op = .call { callee := .builtin .append, args := #[s, x], argTypes := #[22, 22] })
    {n : Nat} {ad : Addr} {xs : List Int} {z : Int} (hs : a.eval s = .slice (some ad) n n) (hx : a.eval x = .slice (some ⟨wr.heap.size, 0, none⟩) 1 1)
    (hrd : Rd wr wr.heap.size (some ad) xs) (hl : xs.length = n) (hn : n ≤ 2199023255552)
    (h : ∀ A' c' w', Own w' wr.heap.size A' (n + 1) c' (xs ++ [z]) → Below wr.heap.size wr w' → wpList Tryd.prog ops Q rest (a.put o.dst (.slice A' (n + 1) c')) w') :
    wpList Tryd.prog ops Q (o :: rest) a (wr.alloc (.cells #[.int .u8 z] 5)) := by
  obtain ⟨i0, hi, hz0, hz1, hz2⟩ := info_parts Trydinfo
  refine wpList_plain hgd fun K hK => ?_
  have hb0 : Below wr.heap.size wr (wr.alloc (.cells #[.int .u8 z] 5)) := (Below.refl _ _).alloc (Nat.le_refl _) _
  have hcap := growslice_fits (need := n + 1) (old := n) (bytes := 1) (by omega) (by omega)
  have hr := run_append_grow (P := Tryd.prog) (wr.alloc (.cells #[.int .u8 z] 5)) 22 o.type 5 i0 (.int .u8 0) Tryd.underlying22 hi hz0 ad n n (bv xs) (by rw [hz1, bv_len, hl, Nat.mul_one])
    (rd_cells (hrd.below (Nat.le_refl _) hb0)) ⟨wr.heap.size, 0, none⟩ 1 1 (bv [z]) (by rw [hz1]; rfl) (by
      intro j u hj
      match j, hj with
      | 0, hj => simp [bv] at hj; subst hj; simp [Addr.add]) (by omega) (by omega) (by rw [hz2]; exact hcap)
  have hge := grownCap_ge (wr.alloc (.cells #[.int .u8 z] 5)) (n + 1) n 5
  have hcm := grownCap_le_maxLen (wr.alloc (.cells #[.int .u8 z] 5)) (n + 1) n 5 (by unfold maxLen; omega)
  generalize hG : grownCap (wr.alloc (.cells #[.int .u8 z] 5)) (n + 1) n 5 = G at *
  unfold Oper.wp execOp
  simp only [ho, resolve, invoke, builtin, Sem.run_bind, Sem.run_pure, Result.andThen_ok, List.map_toArray, List.map_cons, List.map_nil, hs, hx, hr]
  refine hK _ _ (h _ _ _ ?_ ?_)
  · refine ⟨by simp [bv, hl], .inr ⟨_, G, _, rfl, by simp, heap_alloc_new (wr.alloc (.cells #[.int .u8 z] 5)).drew _, hge, hcm, ?_, ?_⟩⟩
    · have hz : (Value.int IntKind.u8 0).cells.size = 1 := rfl
      simp only [Array.size_append, List.size_toArray, size_zeroCells, hz, bv_len, hl]
      simp; omega
    · rw [bv_app]
      simp only [Array.toList_append]
      have e : n + 1 = (bv xs ++ bv [z]).length := by simp [bv, hl]
      rw [Nat.mul_one, e]
      exact List.take_left
  · exact (((Below.refl _ _).alloc (Nat.le_refl _) _).drew).alloc (by simp) _

end Go.Proofs.YteiojpglhmikoaaDoor.Bytes
namespace Go.Proofs.YteiojpglhmikoaaDoor.Var
open Go.RowKit Go.Proofs.YteiojpglhmikoaaDoor.Bytes
set_option linter.unusedVariables false

set_option maxRecDepth 100000 in
set_option maxHeartbeats 800000 in
theorem appendVar_full (ad : Addr) (n : Nat) (zs : List Int) (m : Nat) (w : World) (hr : Rd w w.heap.size (some ad) zs) (hl : zs.length = n) (hn : n ≤ 1099511627776) (hm : m ≤ 4294967295) :
    Calls Tryd.prog 32 #[.slice (some ad) n n, .int .i64 m] w fun e w' => ∃ A' n' c', e = .returned (.slice A' n' c') ∧ Own w' w.heap.size A' n' c' (zs ++ vEnc m) ∧ Below w.heap.size w w' := by
  have HL := Lib.hid hl
  have HR := Lib.hid hr
  clear hl hr
  go_enter Tryd.func32, Tryd.ntmps32
  go_wp2
  go_loopw [0, 5] (fun v i wr => ∃ (r : Nat) (pre : List Int) (A2 : Option Addr) (n2 c2 : Nat), i = .int .u32 r ∧ r ≤ 4294967295 ∧ v = .slice A2 n2 c2 ∧ ((A2 = some ad ∧ n2 = n ∧ c2 = n ∧ pre = [] ∧ w = wr) ∨ Own wr w.heap.size A2 n2 c2 (zs ++ pre)) ∧ pre ++ vEnc r = vEnc m ∧ Below w.heap.size w wr) (fun _ i _ => (intOf i).toNat)
  case atStart => exact ⟨m, [], some ad, n, n, rfl, hm, rfl, .inl ⟨rfl, rfl, rfl, rfl, rfl⟩, rfl, Below.refl _ _⟩
  case round =>
    obtain ⟨r, pre, A2, n2, c2, rfl, hr4, rfl, ho2, hp, hb⟩ := hrel
    have hbs := hb.size
    rcases ho2 with ⟨rfl, rfl, rfl, rfl, rfl⟩ | ho2
    · have hr2 := HR.out
      by_cases hlt : 128 ≤ r
      · have HP := Lib.hid (show ([] ++ [(r : Int) % 128 + 128]) ++ vEnc (r / 128) = vEnc m by
          rw [← hp, vEnc_big (n := r) (by omega)]; simp)
        have hor := or128 r
        have HLN := HL
        clear hp
        go_wp2_with (at_builtin; refine append_byte_full rfl _ _ rfl rfl rfl hr2 HLN.out (by omega) ?_)
        intro A3 c3 w3 ho3 hb3
        clear hb hr2
        go_wp2
        exact ⟨⟨r / 128, _, A3, _, c3, by go_num, by omega, rfl, .inr ho3, HP.out, hb3⟩, by simp [intOf]; omega⟩
      · have HP := Lib.hid (show ([] : List Int) ++ [(r : Int)] = vEnc m by rw [← hp, vEnc_small (n := r) (by omega)])
        have HLN := HL
        clear hp
        go_wp2_with (at_builtin; refine append_byte_full rfl _ _ rfl rfl rfl hr2 HLN.out (by omega) ?_)
        intro A3 c3 w3 ho3 hb3
        rw [← List.nil_append [(r : Int)], HP.out] at ho3
        clear hb hr2
        go_wp2
        go_ret
        exact ⟨_, _, _, rfl, ho3, hb3⟩
    · have hlen5 : pre.length ≤ 4 := by
        have h1 := congrArg List.length hp
        have h2 := vEnc_len5 hm
        have h3 := vEnc_pos r
        rw [List.length_append] at h1
        omega
      have hl2 := ho2.len
      rw [List.length_append, HL.out] at hl2
      have hn2 : n2 ≤ n + 4 := by omega
      by_cases hlt : 128 ≤ r
      · have HP := Lib.hid (show (pre ++ [(r : Int) % 128 + 128]) ++ vEnc (r / 128) = vEnc m by
          rw [← hp, vEnc_big (n := r) (by omega), List.append_assoc]; simp)
        have hor := or128 r
        clear hp hl2
        go_wp2_with (at_builtin; refine append_byte rfl _ _ rfl rfl rfl ho2 (by omega) (by omega) ?_)
        intro A3 c3 w3 ho3 hb3
        have hb4 := hb.trans hb3
        clear ho2 hb hb3
        go_wp2
        exact ⟨⟨r / 128, _, A3, _, c3, by go_num, by omega, rfl, .inr ho3, HP.out, hb4⟩, by simp [intOf]; omega⟩
      · have HP := Lib.hid (show pre ++ [(r : Int)] = vEnc m by rw [← hp, vEnc_small (n := r) (by omega)])
        clear hp hl2
        go_wp2_with (at_builtin; refine append_byte rfl _ _ rfl rfl rfl ho2 (by omega) (by omega) ?_)
        intro A3 c3 w3 ho3 hb3
        rw [HP.out] at ho3
        have hb4 := hb.trans hb3
        clear ho2 hb hb3
        go_wp2
        go_ret
        exact ⟨_, _, _, rfl, ho3, hb4⟩
end Go.Proofs.YteiojpglhmikoaaDoor.Var

