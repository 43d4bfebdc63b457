/- VpByte in the program and in the model, in the letters that the law takes. -/
import Derived.Test.YtfdbmhelcmifoaaDoorVpW
namespace Go.Proofs.YtfdbmhelcmifoaaDoor.Vp
open Go.RowKit Go.Proofs.YtfdbmhelcmifoaaDoor.Bytes Go.Proofs.YtfdbmhelcmifoaaDoor.DOk Go.Proofs.YtfdbmhelcmifoaaDoor.Rune Go.Proofs.YtfdbmhelcmifoaaDoor.RowK Go.Proofs.YtfdbmhelcmifoaaDoor.Gr
set_option linter.unusedVariables false
theorem vp_letters (st : Int) (mk : Bool) (na : Nat) (zs : List Int) (np : Nat) (bs : List Int) (b : Int) (hg : Rng bs) (hn : na + np ≤ 1048576) :
    ∃ (s1 : Int) (s2 : Bool) (s3 s4 : List Int) (a1 a2 : Int) (a3 : Bool) (a4 : List Int) (n1 n2 n3 : Nat), (n1 ≤ 8 ∧ n2 ≤ 2 ∧ n3 ≤ 8) ∧
      (∀ (W : World) (B : Nat) (F : Option Addr) (d : Nat) (G : Option Addr) (d' : Nat), OwnV W B F na d zs G np d' bs → Calls Tryd.prog 12 #[.agg #[.int .i64 st, .bool mk, .slice F na d, .slice G np d'], .int .i64 b] W (AnsVL W s1 s2 s3 s4 a1 a2 a3 a4 n1 n2 n3)) ∧
      (∀ (W : World) (B : Nat) (F : Option Addr) (d : Nat) (G : Option Addr) (d' : Nat), Dec.Tabs8 W → OwnV W B F na d zs G np d' bs → Calls Tryd.prog 14 #[.agg #[.int .i64 st, .bool mk, .slice F na d, .slice G np d'], .int .i64 b] W (AnsVL W s1 s2 s3 s4 a1 a2 a3 a4 n1 n2 n3)) := by
  have hs := vbV_small ⟨st, mk, zs, bs⟩ b hg
  refine ⟨(vbV ⟨st, mk, zs, bs⟩ b).1.st, (vbV ⟨st, mk, zs, bs⟩ b).1.q, (vbV ⟨st, mk, zs, bs⟩ b).1.zs, (vbV ⟨st, mk, zs, bs⟩ b).1.bs, (vbV ⟨st, mk, zs, bs⟩ b).2.k, (vbV ⟨st, mk, zs, bs⟩ b).2.r, (vbV ⟨st, mk, zs, bs⟩ b).2.q, (vbV ⟨st, mk, zs, bs⟩ b).2.zs, _, _, _, hs, ?_, ?_⟩
  · intro W B F d G d' h
    exact (spec_VpByte_any st mk F na d zs G np d' bs b W h.i.rd (own_noneK h.i) h.i.len (by omega) h.b.rd (own_none h.b) hg h.b.len (by omega) h.b.cap).mono fun e w' h => AnsVB.letters h rfl rfl rfl
  · intro W B F d G d' hT h
    exact (impl_VpByte_any st mk F na d zs G np d' bs b W hT h.i.rd (own_noneK h.i) h.i.len (by omega) h.b.rd (own_none h.b) hg h.b.len (by omega)).mono fun e w' h => AnsVB.letters h rfl rfl rfl
end Go.Proofs.YtfdbmhelcmifoaaDoor.Vp
