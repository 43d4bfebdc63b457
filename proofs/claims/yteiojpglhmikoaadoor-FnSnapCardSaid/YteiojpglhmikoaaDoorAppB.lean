/- An append of bytes to a slice of the call's own, with the block that the answer lies on: the old one or a new one; the number encoding appended so. -/
import Derived.Test.YteiojpglhmikoaaDoorAppOne
import Derived.Test.YteiojpglhmikoaaDoorPutCore
namespace Go.Proofs.YteiojpglhmikoaaDoor.Cb
open Go.RowKit Go.Proofs.YteiojpglhmikoaaDoor.Bytes Go.Proofs.YteiojpglhmikoaaDoor.RowK Go.Proofs.YteiojpglhmikoaaDoor.Var
set_option linter.unusedVariables false
/-- what an append leaves: only the old slice's block is written, and the answer lies on it or on a new one -/
def Grow (w : World) (v : Value) (w' : World) (v' : Value) : Prop := Only (fun i => v.ownBlock = some i) w w' ∧ ∀ g, v'.ownBlock = some g → v.ownBlock = some g ∨ w.heap.size ≤ g
theorem Grow.refl (w : World) (v : Value) : Grow w v w v := ⟨Only.refl _ _, fun g h => .inl h⟩
theorem Grow.trans {a b c : World} {u v x : Value} (h : Grow a u b v) (k : Grow b v c x) : Grow a u c x := by
  refine ⟨⟨k.1.os.trans h.1.os, k.1.tape.trans h.1.tape, k.1.output.trans h.1.output, Nat.le_trans h.1.size k.1.size, fun i hi hn => ?_⟩, fun g hg => ?_⟩
  · rw [k.1.block i (Nat.lt_of_lt_of_le hi h.1.size) (fun hv => (h.2 i hv).elim hn (fun hl => by omega)), h.1.block i hi hn]
  · rcases k.2 g hg with hv | hl
    · exact h.2 g hv
    · exact .inr (Nat.le_trans h.1.size hl)
theorem Grow.below {a b : World} {u v : Value} {B : Nat} (h : Grow a u b v) (hB : B ≤ a.heap.size) (hu : ∀ g, u.ownBlock = some g → B ≤ g) : Below B a b := ⟨h.1.os, h.1.tape, h.1.output, h.1.size, fun i hi => h.1.block i (by omega) (fun e => by have := hu i e; omega)⟩
theorem append_byteG {wr : World} {ops : Array Oper} {rest : List Oper} {o : Oper} {a : Act} {Q : Exit → Act → World → Prop} (hgd : o.guard = none) (s x : Operand)
    (ho : o.op = .call { callee := .builtin .append, args := #[s, x], argTypes := #[22, 22] })
    {base n c : Nat} {A : Option Addr} {xs : List Int} {z : Int} (hs : a.eval s = .slice A n c) (H : Nat) (hH : wr.heap.size = H) (hx : a.eval x = .slice (some ⟨H, 0, none⟩) 1 1)
    (hown : Own wr base A n c xs) (hn : n ≤ 549755813888) (hbase : base ≤ wr.heap.size)
    (h : ∀ A' c' w', Own w' base A' (n + 1) c' (xs ++ [z]) → Grow wr (.slice A n c) w' (.slice A' (n + 1) c') → wpList Tryd.prog ops Q rest (a.put o.dst (.slice A' (n + 1) c')) w') :
    wpList Tryd.prog ops Q (o :: rest) a (wr.alloc (.cells #[.int .u8 z] 5)) := by
  obtain ⟨i0, hi, hz0, hz1, hz2⟩ := info_parts Trydinfo
  refine AppOne.append_one Tryd.underlying22 hi hz0 hz1 hz2 rfl (by decide) hgd s x ho hs H hH hx hown rfl hn hbase ?_
  intro A' c' w' h1 h2 h3
  refine h A' c' w' ?_ ⟨Only.grown h2 (fun i e => e), h3⟩
  have e : bv xs ++ [.int .u8 z] = bv (xs ++ [z]) := by simp [bv]
  rw [e] at h1; exact h1
set_option maxRecDepth 100000 in
set_option maxHeartbeats 800000 in
theorem appendVarG_any (A : Option Addr) (n c base : Nat) (zs : List Int) (m : Nat) (w : World) (ho : Own w base A n c zs) (hbase : base ≤ w.heap.size) (hn : n ≤ 17179869184) (hm : m ≤ 4294967295) :
    Calls Tryd.prog 32 #[.slice A n c, .int .i64 m] w fun e w' => ∃ A' n' c', e = .returned (.slice A' n' c') ∧ Own w' base A' n' c' (zs ++ vEnc m) ∧ Grow w (.slice A n c) w' (.slice A' n' c') := by
  have HL := Lib.hid ho.len
  go_enter Tryd.func32, Tryd.ntmps32
  go_wp2
  go_loopw [0, 5] (fun v i wr => ∃ (r : Nat) (pre : List Int) (A2 : Option Addr) (n2 c2 : Nat), i = .int .u32 r ∧ r ≤ 4294967295 ∧ v = .slice A2 n2 c2 ∧ Own wr base A2 n2 c2 (zs ++ pre) ∧ pre ++ vEnc r = vEnc m ∧ Grow w (.slice A n c) wr (.slice A2 n2 c2)) (fun _ i _ => (intOf i).toNat)
  case atStart => exact ⟨m, [], A, _, c, rfl, hm, rfl, by simpa using ho, rfl, Grow.refl _ _⟩
  case round =>
    obtain ⟨r, pre, A2, n2, c2, rfl, hr4, rfl, ho2, hp, hb⟩ := hrel
    have hlen5 : pre.length ≤ 4 := by
      have h1 := congrArg List.length hp
      have h2 := vEnc_len5 hm
      have h3 := vEnc_pos r
      rw [List.length_append] at h1
      omega
    have hl2 := ho2.len
    rw [List.length_append, HL.out] at hl2
    have hn2 : n2 ≤ n + 4 := by omega
    have hbs := hb.1.size
    by_cases hlt : 128 ≤ r
    · have HP := Lib.hid (show (pre ++ [(r : Int) % 128 + 128]) ++ vEnc (r / 128) = vEnc m by
        rw [← hp, vEnc_big (n := r) (by omega), List.append_assoc]; simp)
      have hor := or128 r
      clear hp hl2 ho
      go_wp2_with (at_builtin; refine append_byteG rfl _ _ rfl rfl _ rfl rfl ho2 (by omega) (by omega) ?_)
      intro A3 c3 w3 ho3 hb3
      have hb4 := hb.trans hb3
      clear ho2 hb hb3
      go_wp2
      exact ⟨⟨r / 128, _, A3, _, c3, by go_num, by omega, rfl, ho3, HP.out, hb4⟩, by simp [intOf]; omega⟩
    · have HP := Lib.hid (show pre ++ [(r : Int)] = vEnc m by rw [← hp, vEnc_small (n := r) (by omega)])
      clear hp hl2 ho
      go_wp2_with (at_builtin; refine append_byteG rfl _ _ rfl rfl _ rfl rfl ho2 (by omega) (by omega) ?_)
      intro A3 c3 w3 ho3 hb3
      rw [HP.out] at ho3
      have hb4 := hb.trans hb3
      clear ho2 hb hb3
      go_wp2
      go_ret
      exact ⟨_, _, _, rfl, ho3, hb4⟩
end Go.Proofs.YteiojpglhmikoaaDoor.Cb

