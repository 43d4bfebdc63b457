/- The contracts of the setting of a disk, over a disk of the call's own. -/
import Derived.Test.YtehhophjhjeenaaDiskLaw
namespace Go.Proofs.Ytehhophjhjeenaa.DOk
open Go.RowKit Go.Proofs.Ytehhophjhjeenaa.Bytes Go.Proofs.Ytehhophjhjeenaa.Rows_
set_option linter.unusedVariables false
theorem AnsDisk.mono {D E : Int → Int → Int → List FileD → List LinkD → List TurnD → Value → Prop} {w w' : World} {e : Ending} (h : AnsDisk D w e w') (hi : ∀ r f x gs k t o, D r f x gs k t o → E r f x gs k t o) : AnsDisk E w e w' := by
  obtain ⟨r, f, x, F, nf, cf, gs, K, nk, ck, ks, T, nt, ct, ts, o, h1, h2, h3, h4⟩ := h
  exact ⟨r, f, x, F, nf, cf, gs, K, nk, ck, ks, T, nt, ct, ts, o, h1, h2, hi _ _ _ _ _ _ _ h3, h4⟩
theorem spec_own (room fuse next : Int) {nf nk nt : Nat} {fs : List FileD} {ks : List LinkD} {ts : List TurnD} (a1 a2 : Int) {W : World} {B : Nat} {F1 : Option Addr} {cf1 : Nat} {K1 : Option Addr} {ck1 : Nat} {T1 : Option Addr} {ct1 : Nat} {gs : List FileD}
    (h : OwnD W B F1 nf cf1 gs K1 nk ck1 ks T1 nt ct1 ts) (hk : gs.map keyF = fs.map keyF) (hn : nf + usedD fs + nk + nt ≤ 1048576) (hids : ∀ x ∈ fs, (Lit.int .i64 x.id).wf = true) (hks : ∀ x ∈ ks, x.1.size ≤ maxLen ∧ (Lit.int .i64 x.2).wf = true) (hts : ∀ x ∈ ts, x.name.size ≤ maxLen ∧ x.to_.size ≤ maxLen ∧ (Lit.int .i64 x.id).wf = true) :
    Calls Try.prog 37 #[.agg #[.int .i64 room, .int .i64 fuse, .int .i64 next, .slice F1 nf cf1, .slice K1 nk ck1, .slice T1 nt ct1], .int .i64 a1, .int .i64 a2] W (AnsDisk (SetD (OkS room fuse next fs ks ts ∧ OkS a1 a2 next fs ks ts) a1 a2 next fs ks ts) W) :=
  (spec_DiskSet_any room fuse next F1 nf cf1 K1 nk ck1 T1 nt ct1 gs ks ts a1 a2 W h.f.rd h.lenF (by omega) (own_noneK h.f) h.b.rdB (fun f hf => own_none (h.b.1 f hf)) (keys_mem hk (P := fun f => (Lit.int .i64 f.id).wf = true) (fun f g e h => by show (Lit.int .i64 g.id).wf = true; rw [key_id e]; exact h) hids) (by rw [keys_used hk]; omega)
    h.l.rd h.lenL (by omega) (own_noneK h.l) hks h.t.rd h.lenT (by omega) (own_noneK h.t) hts).mono fun e w' ha => AnsDisk.mono ha fun r f x gs' k t o hs => hs.congr (and_congr (okS_iff hk) (okS_iff hk)) hk
theorem impl_own (room fuse next : Int) {nf nk nt : Nat} {fs : List FileD} {ks : List LinkD} {ts : List TurnD} (a1 a2 : Int) {W : World} {B : Nat} {F1 : Option Addr} {cf1 : Nat} {K1 : Option Addr} {ck1 : Nat} {T1 : Option Addr} {ct1 : Nat} {gs : List FileD}
    (h : OwnD W B F1 nf cf1 gs K1 nk ck1 ks T1 nt ct1 ts) (hk : gs.map keyF = fs.map keyF) (hn : nf + usedD fs + nk + nt ≤ 1048576) (hids : ∀ x ∈ fs, (Lit.int .i64 x.id).wf = true) (hks : ∀ x ∈ ks, x.1.size ≤ maxLen ∧ (Lit.int .i64 x.2).wf = true) (hts : ∀ x ∈ ts, x.name.size ≤ maxLen ∧ x.to_.size ≤ maxLen ∧ (Lit.int .i64 x.id).wf = true) :
    Calls Try.prog 39 #[.agg #[.int .i64 room, .int .i64 fuse, .int .i64 next, .slice F1 nf cf1, .slice K1 nk ck1, .slice T1 nt ct1], .int .i64 a1, .int .i64 a2] W (AnsDisk (SetD (OkS room fuse next fs ks ts ∧ OkS a1 a2 next fs ks ts) a1 a2 next fs ks ts) W) :=
  (impl_DiskSet_any room fuse next F1 nf cf1 K1 nk ck1 T1 nt ct1 gs ks ts a1 a2 W h.f.rd h.lenF (by omega) (own_noneK h.f) h.b.rdB (fun f hf => own_none (h.b.1 f hf)) (keys_mem hk (P := fun f => (Lit.int .i64 f.id).wf = true) (fun f g e h => by show (Lit.int .i64 g.id).wf = true; rw [key_id e]; exact h) hids) (by rw [keys_used hk]; omega)
    h.l.rd h.lenL (by omega) (own_noneK h.l) hks h.t.rd h.lenT (by omega) (own_noneK h.t) hts).mono fun e w' ha => AnsDisk.mono ha fun r f x gs' k t o hs => hs.congr (and_congr (okS_iff hk) (okS_iff hk)) hk
end Go.Proofs.Ytehhophjhjeenaa.DOk
