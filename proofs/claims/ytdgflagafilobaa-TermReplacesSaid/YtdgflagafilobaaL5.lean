/- The program's Elems. -/
import Derived.Test.YtdgflagafilobaaL4
import Derived.StillTailTactics
namespace Go.Proofs.Ytdgflagafilobaa
open Go.RowKit Go.Proofs.HT

theorem z0_cnt : cnt z0 = 1 := rfl
theorem q_cnt (t : Tm) : cnt (if validB t = true then t else z0) ≤ 2000 := by
  split
  · rename_i h; exact (validB_nodes h).2
  · rw [z0_cnt]; omega

/-- Between two rounds: the elements l have been collected, cur is what is left. -/
def EL (w : World) (Q : Tm) (c1 : Nat) (l : List (Tm × Value)) (cur : Tm) (a : Option Addr) (c : Nat) (wr : World) : Prop :=
  wr.heap[w.heap.size + 1]? = some (.cells #[.int .i64 cur.kind, .int .i64 cur.num, .string cur.name, .slice a cur.args.length c] 24 (0, 0)) ∧ OwnT (fun b => w.heap.size + 2 ≤ b ∧ b < c1) wr cur (.slice a cur.args.length c) ∧ c1 ≤ wr.heap.size ∧
  (∀ p ∈ l, OwnT (fun b => w.heap.size + 2 ≤ b ∧ b < c1) wr p.1 p.2) ∧ l.map Prod.fst ++ (elemsT cur).1 = (elemsT Q).1 ∧ (elemsT cur).2 = (elemsT Q).2 ∧ l.length + cnt cur ≤ 2000 ∧ Below w.heap.size w wr
/-- A step that keeps all blocks below c1 but the tail's. -/
theorem EL.step {w : World} {Q : Tm} {c1 : Nat} {l : List (Tm × Value)} {cur : Tm} {a : Option Addr} {c : Nat} {wr w2 : World} (h : EL w Q c1 l cur a c wr) (hc : w.heap.size + 1 < c1) (hb : ∀ g, g < c1 → w2.heap[g]? = wr.heap[g]?) (hz : wr.heap.size ≤ w2.heap.size) (hB : Below w.heap.size w w2) : EL w Q c1 l cur a c w2 := by
  obtain ⟨h1, h2, h3, h4, h5, h6, h7, h8⟩ := h
  exact ⟨(hb _ hc).trans h1, h2.keep (fun b hb2 => hb b hb2.2) (fun _ h _ => h), by omega, fun p hp => (h4 p hp).keep (fun b hb2 => hb b hb2.2) (fun _ h _ => h), h5, h6, h7, hB⟩

set_option maxHeartbeats 4000000 in
theorem Elems_any (t : Tm) (v : Value) (w : World) (h : LiesT w t v) : Calls Try.prog 36 #[tv t v] w (ElemsEnd (if validB t = true then t else z0) w) := by
  obtain ⟨i0, hi0, hz0, hz1, hz2⟩ := info_parts info24
  obtain ⟨Q, hQ⟩ : ∃ Q, (if validB t = true then t else z0) = Q := ⟨_, rfl⟩
  have hcq : cnt Q ≤ 2000 := by rw [← hQ]; exact q_cnt t
  rw [hQ]
  have HQ := Lib.hid hQ
  have HH := Lib.hid h
  have HB : Hid (∀ o1 o2, Below w.heap.size w ((w.alloc o1).alloc o2)) := fun o1 o2 => ((Below.refl w.heap.size w).alloc (Nat.le_refl _) _).alloc (by simp) _
  have HL : Hid (∀ o1 o2, LiesT ((w.alloc o1).alloc o2) t v) := fun o1 o2 => HH.out.below (HB.out o1 o2)
  have HR : Hid (∀ o1 o2, ((w.alloc o1).alloc o2).heap[w.heap.size]? = some o1 ∧ ((w.alloc o1).alloc o2).heap[w.heap.size + 1]? = some o2) := fun o1 o2 => ⟨by rw [Below.heap_alloc _ _ _ (by simp), heap_alloc_new], by have h := heap_alloc_new (w.alloc o1) o2; simpa using h⟩
  clear h hQ
  have HCQ := Lib.hid hcq
  clear hcq
  simp only [tv]
  go_enter Try.func36, Try.ntmps36
  go_wp2_with (go_at_call 55; refine (Clone_v t v _ (HL.out _ _)).mono ?_; rintro e w1 ⟨y, rfl, hy, hb1⟩; rw [HQ.out] at hy; rw [HQ.out]; obtain ⟨ya, yc, rfl⟩ := hy.slice; have z1 : w.heap.size + 2 ≤ w1.heap.size := (by have := hb1.size; simp at this; omega); have K1 := Lib.hid ((hb1.block (w.heap.size + 1) (by simp)).trans (HR.out _ _).2); have B1 := Lib.hid ((HB.out _ _).trans (hb1.mono (by simp <;> omega))); have HY := Lib.hid (hy.keep (S' := fun b => w.heap.size + 2 ≤ b ∧ b < w1.heap.size) (fun _ _ => rfl) (fun b hb _ => by simpa using hb)); have d0 : w1.cell? ⟨w.heap.size + 1, 0, none⟩ = some (.int .i64 0) := (by rw [cell_of_row _ _ _ _ _ _ K1.out]; rfl); have d1 : w1.cell? ⟨w.heap.size + 1, 1, none⟩ = some (.int .i64 0) := (by rw [cell_of_row _ _ _ _ _ _ K1.out]; rfl); have d2 : w1.cell? ⟨w.heap.size + 1, 2, none⟩ = some (.string ⟨#[]⟩) := (by rw [cell_of_row _ _ _ _ _ _ K1.out]; rfl); have d3 : w1.cell? ⟨w.heap.size + 1, 3, none⟩ = some (.slice none 0 0) := (by rw [cell_of_row _ _ _ _ _ _ K1.out]; rfl); have df0 := frozen_of_row _ _ 0 _ _ K1.out; have df1 := frozen_of_row _ _ 1 _ _ K1.out; have df2 := frozen_of_row _ _ 2 _ _ K1.out; have df3 := frozen_of_row _ _ 3 _ _ K1.out; clear hb1 hy)
  have FO := four K1.out (.int .i64 Q.kind) (.int .i64 Q.num) (.string Q.name) (.slice ya Q.args.length yc)
  have hEL : EL w Q w1.heap.size [] Q ya yc ((((w1.setCell ⟨w.heap.size + 1, 0, none⟩ (.int .i64 Q.kind)).setCell ⟨w.heap.size + 1, 1, none⟩ (.int .i64 Q.num)).setCell ⟨w.heap.size + 1, 2, none⟩ (.string Q.name)).setCell ⟨w.heap.size + 1, 3, none⟩ (.slice ya Q.args.length yc)) := by
    refine ⟨FO.1, HY.out.keep (fun b hb => FO.2.1 b (by omega)) (fun _ h _ => h), by rw [FO.2.2.1]; exact Nat.le_refl _, by simp, by simp, rfl, by have := HCQ.out; simpa using this, FO.2.2.2 _ _ (by omega) B1.out⟩
  have Z1 := Lib.hid z1
  generalize ((((w1.setCell ⟨w.heap.size + 1, 0, none⟩ (.int .i64 Q.kind)).setCell ⟨w.heap.size + 1, 1, none⟩ (.int .i64 Q.num)).setCell ⟨w.heap.size + 1, 2, none⟩ (.string Q.name)).setCell ⟨w.heap.size + 1, 3, none⟩ (.slice ya Q.args.length yc)) = W1 at *
  have HE0 := Lib.hid hEL
  clear FO hEL
  go_loopw [2] (fun x wr => ∃ (l : List (Tm × Value)) (cur : Tm) (a : Option Addr) (c : Nat) (xa : Option Addr) (xc : Nat), x = .slice xa l.length xc ∧ Hid (EL w Q w1.heap.size l cur a c wr) ∧ Hid (wr.ownsRow w1.heap.size 24 4 (.slice xa l.length xc) l.length (flat l))) (fun x _ => 2001 - (match x with | .slice _ n _ => n | _ => 0))
  case atStart => exact ⟨[], Q, ya, yc, none, 0, rfl, HE0, World.ownsRow_nil _ _ _ _⟩
  case round =>
    obtain ⟨l, cur, a, c, xa, xc, rfl, hE, hR⟩ := hrel
    have hll : l.length + 1 ≤ 2001 := by have := hE.out.2.2.2.2.2.2.1; omega
    have hcl : w.heap.size + 1 < wr.heap.size := by have := hE.out.2.2.1; have := Z1.out; omega
    rcases Bool.eq_false_or_eq_true (isPairB cur) with hp | hp
    · obtain ⟨n, x, y, rfl⟩ := pair_of hp
      have r1 : wr.heap[w.heap.size + 1]? = some (.cells #[.int .i64 3, .int .i64 n, .string dot, .slice a 2 c] 24 (0, 0)) := hE.out.1
      obtain ⟨b, cap, vx, vy, ea, hcap, hSb, x0, x1, x2, x3, hx, y0, y1, y2, y3, hy⟩ := OwnT.pair hE.out.2.1
      obtain ⟨rfl, rfl⟩ : a = some ⟨b, 0, none⟩ ∧ c = cap := by
        have h := Value.slice.inj ea
        exact ⟨h.1, h.2.2⟩
      obtain ⟨pa, pc, rfl⟩ := hx.slice
      obtain ⟨qa, qc, rfl⟩ := hy.slice
      have q0 : wr.cell? ⟨w.heap.size + 1, 0, none⟩ = some (.int .i64 3) := (by rw [cell_of_row _ _ _ _ _ _ r1]; rfl)
      have q1 : wr.cell? ⟨w.heap.size + 1, 1, none⟩ = some (.int .i64 n) := (by rw [cell_of_row _ _ _ _ _ _ r1]; rfl)
      have q2 : wr.cell? ⟨w.heap.size + 1, 2, none⟩ = some (.string dot) := (by rw [cell_of_row _ _ _ _ _ _ r1]; rfl)
      have q3 : wr.cell? ⟨w.heap.size + 1, 3, none⟩ = some (.slice (some ⟨b, 0, none⟩) 2 c) := (by rw [cell_of_row _ _ _ _ _ _ r1]; rfl)
      have qf0 := frozen_of_row _ _ 0 _ _ r1
      have qf1 := frozen_of_row _ _ 1 _ _ r1
      have qf2 := frozen_of_row _ _ 2 _ _ r1
      have qf3 := frozen_of_row _ _ 3 _ _ r1
      have HOX := Lib.hid hx
      have HOY := Lib.hid hy
      have hb2 : b ≠ w.heap.size + 1 := by omega
      have hE0 := Lib.hid (OwnT.lies _ _ hE.out.2.1)
      have m1 : l.length + 1 ≤ maxLen := by simp only [maxLen]; omega
      have m2 : (l.length + 1) * 56 ≤ 140737488355328 := by omega
      have hc1 := hE.out.2.2.1
      have HRL := Lib.hid (fun k hk => hR.out.lt k hk)
      clear hx hy ea r1
      go_wp2_with (first
        | (go_at_call 67; refine (isPair_any (.mk 3 n dot [x, y]) _ _ hE0.out).mono ?_; rintro e w2 ⟨rfl, hbb⟩; have E2 := Lib.hid (hE.out.step (by have := Z1.out; omega) (fun g hg => hbb.block g (by omega)) hbb.size (hE.out.2.2.2.2.2.2.2.trans (hbb.mono hE.out.2.2.2.2.2.2.2.size))); have R2 := Lib.hid (own_below hR.out hbb); have KB := Lib.hid hbb; have r2 : w2.heap[w.heap.size + 1]? = some (.cells #[.int .i64 3, .int .i64 n, .string dot, .slice (some ⟨b, 0, none⟩) 2 c] 24 (0, 0)) := E2.out.1; have s0 : w2.cell? ⟨w.heap.size + 1, 0, none⟩ = some (.int .i64 3) := (by rw [cell_of_row _ _ _ _ _ _ r2]; rfl); have s1 : w2.cell? ⟨w.heap.size + 1, 1, none⟩ = some (.int .i64 n) := (by rw [cell_of_row _ _ _ _ _ _ r2]; rfl); have s2 : w2.cell? ⟨w.heap.size + 1, 2, none⟩ = some (.string dot) := (by rw [cell_of_row _ _ _ _ _ _ r2]; rfl); have s3 : w2.cell? ⟨w.heap.size + 1, 3, none⟩ = some (.slice (some ⟨b, 0, none⟩) 2 c) := (by rw [cell_of_row _ _ _ _ _ _ r2]; rfl); have t0 := cell_below hbb _ _ x0; have t1 := cell_below hbb _ _ x1; have t2 := cell_below hbb _ _ x2; have t3 := cell_below hbb _ _ x3; have t4 := cell_below hbb _ _ y0; have t5 := cell_below hbb _ _ y1; have t6 := cell_below hbb _ _ y2; have t7 := cell_below hbb _ _ y3; have hz2s := hbb.size; clear r2 hbb)
        | (at_builtin; refine wpList_append_lies _ rfl (.tmp 8) (.tmp 13) 22 rfl w1.heap.size 24 i0 _ 4 56 under22 hi0 hz0 hz1 hz2 rfl (by omega) (.slice xa l.length xc) l.length (flat l) rfl (R2.out.alloc _) ⟨w2.heap.size, 0, none⟩ 1 1 [.int .i64 x.kind, .int .i64 x.num, .string x.name, .slice pa x.args.length pc] rfl rfl (World.news_of_block (cs := #[.int .i64 x.kind, .int .i64 x.num, .string x.name, .slice pa x.args.length pc]) (t := 24) (fr := (0, 0)) (heap_alloc_new w2 _)) (by intro q hq; simp at hq; rcases hq with rfl | rfl | rfl | rfl <;> rfl) (by omega) m1 m2 (by simp; omega) (w2.heap.size + 1) (by simp) ?_; intro g cap2 w3 hown3 hgrow hat hgs; have kp : ∀ j, j < w1.heap.size → w3.heap[j]? = w2.heap[j]? := fun j hj => (hgrow.block j (by simp; omega) (fun e => by have := (HRL.out j e.symm).1; omega)).trans (Below.heap_alloc _ _ _ (by omega)); have B3 := Lib.hid ((E2.out.2.2.2.2.2.2.2.alloc E2.out.2.2.2.2.2.2.2.size _).grown hgrow (by have := E2.out.2.2.2.2.2.2.2.size; simp; omega) (fun k hk => by have := (HRL.out k hk).1; have := Z1.out; omega)); have E3 := Lib.hid (E2.out.step (by have := Z1.out; omega) kp (by have := hgrow.size; simp at this; omega) B3.out); have R3 := Lib.hid hown3; have r3 : w3.heap[w.heap.size + 1]? = some (.cells #[.int .i64 3, .int .i64 n, .string dot, .slice (some ⟨b, 0, none⟩) 2 c] 24 (0, 0)) := E3.out.1; have HR3 := Lib.hid r3; have u0 : w3.cell? ⟨w.heap.size + 1, 0, none⟩ = some (.int .i64 3) := (by rw [cell_of_row _ _ _ _ _ _ r3]; rfl); have u1 : w3.cell? ⟨w.heap.size + 1, 1, none⟩ = some (.int .i64 n) := (by rw [cell_of_row _ _ _ _ _ _ r3]; rfl); have u2 : w3.cell? ⟨w.heap.size + 1, 2, none⟩ = some (.string dot) := (by rw [cell_of_row _ _ _ _ _ _ r3]; rfl); have u3 : w3.cell? ⟨w.heap.size + 1, 3, none⟩ = some (.slice (some ⟨b, 0, none⟩) 2 c) := (by rw [cell_of_row _ _ _ _ _ _ r3]; rfl); have uf0 := frozen_of_row _ _ 0 _ _ r3; have uf1 := frozen_of_row _ _ 1 _ _ r3; have uf2 := frozen_of_row _ _ 2 _ _ r3; have uf3 := frozen_of_row _ _ 3 _ _ r3; have kb : w3.heap[b]? = w2.heap[b]? := kp b hSb.2; have k0 : w3.cell? ⟨b, 0, none⟩ = _ := (World.cell?_of_block kb).trans t0; have k1 : w3.cell? ⟨b, 1, none⟩ = _ := (World.cell?_of_block kb).trans t1; have k2 : w3.cell? ⟨b, 2, none⟩ = _ := (World.cell?_of_block kb).trans t2; have k3 : w3.cell? ⟨b, 3, none⟩ = _ := (World.cell?_of_block kb).trans t3; have k4 : w3.cell? ⟨b, 4, none⟩ = _ := (World.cell?_of_block kb).trans t4; have k5 : w3.cell? ⟨b, 5, none⟩ = _ := (World.cell?_of_block kb).trans t5; have k6 : w3.cell? ⟨b, 6, none⟩ = _ := (World.cell?_of_block kb).trans t6; have k7 : w3.cell? ⟨b, 7, none⟩ = _ := (World.cell?_of_block kb).trans t7; have GB := Lib.hid hgrow.size; have KPB := Lib.hid kp; clear r3 kb kp hown3 hgrow hat hgs))
      go_roundw
      case rel =>
        have FO := four HR3.out (.int .i64 y.kind) (.int .i64 y.num) (.string y.name) (.slice qa y.args.length qc)
        refine ⟨l ++ [(x, .slice pa x.args.length pc)], y, qa, qc, some ⟨g, 0, none⟩, cap2, by simp, Lib.hid ⟨FO.1, ?_, by rw [FO.2.2.1]; exact E3.out.2.2.1, ?_, ?_, ?_, ?_, FO.2.2.2 _ _ (by omega) B3.out⟩, Lib.hid ?_⟩
        · exact HOY.out.keep (fun b hb => (FO.2.1 b (by omega)).trans ((KPB.out b hb.2).trans (KB.out.block b (by omega)))) (fun _ h _ => h)
        · intro p hp
          rw [List.mem_append] at hp
          rcases hp with hp | hp
          · exact (hE.out.2.2.2.1 p hp).keep (fun b hb => (FO.2.1 b (by omega)).trans ((KPB.out b hb.2).trans (KB.out.block b (by omega)))) (fun _ h _ => h)
          · obtain rfl := List.mem_singleton.1 hp
            exact HOX.out.keep (fun b hb => (FO.2.1 b (by omega)).trans ((KPB.out b hb.2).trans (KB.out.block b (by omega)))) (fun _ h _ => h)
        · have h := hE.out.2.2.2.2.1
          rw [elemsT_pair] at h
          rw [← h]; simp
        · have h := hE.out.2.2.2.2.2.1
          rw [elemsT_pair] at h
          exact h
        · have h := hE.out.2.2.2.2.2.2.1
          have := cnt_pos x
          simp [cnt, cntL] at h ⊢; omega
        · have h := ownsRow_at R3.out (fun g' hg' => FO.2.1 g' (by have := (R3.out.lt g' hg').1; have := Z1.out; omega))
          rw [flat_append]
          simpa [flat] using h
      case measure => simp; omega
    · have hq4 := hE.out.1
      obtain ⟨k1, hk1⟩ : ∃ k1, cur.args.length = k1 := ⟨_, rfl⟩
      have hE0 := Lib.hid (OwnT.lies _ _ hE.out.2.1)
      have q0 : wr.cell? ⟨w.heap.size + 1, 0, none⟩ = some (.int .i64 cur.kind) := (by rw [cell_of_row _ _ _ _ _ _ hq4]; rfl)
      have q1 : wr.cell? ⟨w.heap.size + 1, 1, none⟩ = some (.int .i64 cur.num) := (by rw [cell_of_row _ _ _ _ _ _ hq4]; rfl)
      have q2 : wr.cell? ⟨w.heap.size + 1, 2, none⟩ = some (.string cur.name) := (by rw [cell_of_row _ _ _ _ _ _ hq4]; rfl)
      have q3 : wr.cell? ⟨w.heap.size + 1, 3, none⟩ = some (.slice a cur.args.length c) := (by rw [cell_of_row _ _ _ _ _ _ hq4]; rfl)
      have qf0 := frozen_of_row _ _ 0 _ _ hq4
      have qf1 := frozen_of_row _ _ 1 _ _ hq4
      have qf2 := frozen_of_row _ _ 2 _ _ hq4
      have qf3 := frozen_of_row _ _ 3 _ _ hq4
      clear hq4 hk1
      go_wp2_with (go_at_call 67; refine (isPair_any cur _ _ hE0.out).mono ?_; rintro e w2 ⟨rfl, hbb⟩; have E2 := Lib.hid (hE.out.step (by have := Z1.out; omega) (fun g hg => hbb.block g (by have := hE.out.2.2.1; omega)) hbb.size (hE.out.2.2.2.2.2.2.2.trans (hbb.mono hE.out.2.2.2.2.2.2.2.size))); have R2 := Lib.hid (own_below hR.out hbb); have r2 := E2.out.1; have s0 : w2.cell? ⟨w.heap.size + 1, 0, none⟩ = some (.int .i64 cur.kind) := (by rw [cell_of_row _ _ _ _ _ _ r2]; rfl); have s1 : w2.cell? ⟨w.heap.size + 1, 1, none⟩ = some (.int .i64 cur.num) := (by rw [cell_of_row _ _ _ _ _ _ r2]; rfl); have s2 : w2.cell? ⟨w.heap.size + 1, 2, none⟩ = some (.string cur.name) := (by rw [cell_of_row _ _ _ _ _ _ r2]; rfl); have s3 : w2.cell? ⟨w.heap.size + 1, 3, none⟩ = some (.slice a cur.args.length c) := (by rw [cell_of_row _ _ _ _ _ _ r2]; rfl); have sf0 := frozen_of_row _ _ 0 _ _ r2; have sf1 := frozen_of_row _ _ 1 _ _ r2; have sf2 := frozen_of_row _ _ 2 _ _ r2; have sf3 := frozen_of_row _ _ 3 _ _ r2; have HR2 := Lib.hid r2; clear r2 hbb)
      have E3 := Lib.hid (E2.out.step (w2 := w2.drew) (by have := Z1.out; omega) (fun _ _ => rfl) (Nat.le_refl _) E2.out.2.2.2.2.2.2.2.drew)
      have R3 := Lib.hid R2.out.drew
      have r3 := E3.out.1
      go_still_tail 3, (by kernel_rfl)
      change wpList _ _ _ _ _ w2.drew
      generalize w2.drew = W2 at *
      have u0 : W2.cell? ⟨w.heap.size + 1, 0, none⟩ = some (.int .i64 cur.kind) := (by rw [cell_of_row _ _ _ _ _ _ r3]; rfl)
      have u1 : W2.cell? ⟨w.heap.size + 1, 1, none⟩ = some (.int .i64 cur.num) := (by rw [cell_of_row _ _ _ _ _ _ r3]; rfl)
      have u2 : W2.cell? ⟨w.heap.size + 1, 2, none⟩ = some (.string cur.name) := (by rw [cell_of_row _ _ _ _ _ _ r3]; rfl)
      have u3 : W2.cell? ⟨w.heap.size + 1, 3, none⟩ = some (.slice a cur.args.length c) := (by rw [cell_of_row _ _ _ _ _ _ r3]; rfl)
      have uf0 := frozen_of_row _ _ 0 _ _ r3
      have uf1 := frozen_of_row _ _ 1 _ _ r3
      have uf2 := frozen_of_row _ _ 2 _ _ r3
      have uf3 := frozen_of_row _ _ 3 _ _ r3
      have HR3 := Lib.hid r3
      clear r3
      go_wp2_with fail
      have FO := four HR3.out (.int .i64 cur.kind) (.int .i64 cur.num) (.string cur.name) (.slice a cur.args.length c)
      have hfin : LiesA ((((W2.setCell ⟨w.heap.size + 1, 0, none⟩ (.int .i64 cur.kind)).setCell ⟨w.heap.size + 1, 1, none⟩ (.int .i64 cur.num)).setCell ⟨w.heap.size + 1, 2, none⟩ (.string cur.name)).setCell ⟨w.heap.size + 1, 3, none⟩ (.slice a cur.args.length c)) (elemsT Q).1 (.slice xa l.length xc) ∧ LiesT ((((W2.setCell ⟨w.heap.size + 1, 0, none⟩ (.int .i64 cur.kind)).setCell ⟨w.heap.size + 1, 1, none⟩ (.int .i64 cur.num)).setCell ⟨w.heap.size + 1, 2, none⟩ (.string cur.name)).setCell ⟨w.heap.size + 1, 3, none⟩ (.slice a cur.args.length c)) (elemsT Q).2 (.slice a (elemsT Q).2.args.length c) ∧ cur = (elemsT Q).2 ∧ Below w.heap.size w ((((W2.setCell ⟨w.heap.size + 1, 0, none⟩ (.int .i64 cur.kind)).setCell ⟨w.heap.size + 1, 1, none⟩ (.int .i64 cur.num)).setCell ⟨w.heap.size + 1, 2, none⟩ (.string cur.name)).setCell ⟨w.heap.size + 1, 3, none⟩ (.slice a cur.args.length c)) := by
        have e1 := elemsT_not cur hp
        have h5 := E3.out.2.2.2.2.1
        have h6 := E3.out.2.2.2.2.2.1
        rw [e1] at h5 h6
        simp only [List.append_nil] at h5
        have hk : ∀ b, (w.heap.size + 2 ≤ b ∧ b < w1.heap.size) → ((((W2.setCell ⟨w.heap.size + 1, 0, none⟩ (.int .i64 cur.kind)).setCell ⟨w.heap.size + 1, 1, none⟩ (.int .i64 cur.num)).setCell ⟨w.heap.size + 1, 2, none⟩ (.string cur.name)).setCell ⟨w.heap.size + 1, 3, none⟩ (.slice a cur.args.length c)).heap[b]? = W2.heap[b]? := fun b hb => FO.2.1 b (by omega)
        refine ⟨?_, ?_, h6, FO.2.2.2 _ _ (by omega) E3.out.2.2.2.2.2.2.2⟩
        · rw [← h5]
          exact OwnT.lies _ _ (OwnT.of_row (S := fun b => w.heap.size + 2 ≤ b) ⟨by omega, by omega⟩ ⟨by omega, by omega⟩ (by simp [ByteArray.size]) rfl (ownsRow_at R3.out (fun g' hg' => FO.2.1 g' (by have := (R3.out.lt g' hg').1; have := Z1.out; omega))) (fun b hb => by have := (R3.out.lt b hb).1; have := Z1.out; omega) (fun p hp => (E3.out.2.2.2.1 p hp).keep hk (fun b hb _ => hb.1)))
        · rw [← h6]
          exact OwnT.lies _ _ (E3.out.2.1.keep hk (fun b hb _ => hb.1))
      have hcur := hfin.2.2.1
      have HF := Lib.hid (show _ ∧ _ ∧ _ from ⟨hfin.1, hfin.2.1, hfin.2.2.2⟩)
      clear hfin
      generalize ((((W2.setCell ⟨w.heap.size + 1, 0, none⟩ (.int .i64 cur.kind)).setCell ⟨w.heap.size + 1, 1, none⟩ (.int .i64 cur.num)).setCell ⟨w.heap.size + 1, 2, none⟩ (.string cur.name)).setCell ⟨w.heap.size + 1, 3, none⟩ (.slice a cur.args.length c)) = W3 at *
      have k0 : W3.cell? ⟨w.heap.size + 1, 0, none⟩ = some (.int .i64 cur.kind) := by rw [cell_of_row _ _ _ _ _ _ FO.1]; rfl
      have k1 : W3.cell? ⟨w.heap.size + 1, 1, none⟩ = some (.int .i64 cur.num) := by rw [cell_of_row _ _ _ _ _ _ FO.1]; rfl
      have k2 : W3.cell? ⟨w.heap.size + 1, 2, none⟩ = some (.string cur.name) := by rw [cell_of_row _ _ _ _ _ _ FO.1]; rfl
      have k3 : W3.cell? ⟨w.heap.size + 1, 3, none⟩ = some (.slice a cur.args.length c) := by rw [cell_of_row _ _ _ _ _ _ FO.1]; rfl
      exact bodyPost_ret (v := .tuple #[.slice xa l.length xc, .agg #[.int .i64 cur.kind, .int .i64 cur.num, .string cur.name, .slice a cur.args.length c]]) (by simp [results, Try.results36, go_sem, k0, k1, k2, k3]) rfl ⟨_, .slice a cur.args.length c, by rw [← hcur], HF.out.1, by rw [hcur]; exact HF.out.2.1, HF.out.2.2⟩

end Go.Proofs.Ytdgflagafilobaa
