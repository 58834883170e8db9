/- What the program's own readSegment makes of bytes: a segment with a load of its own; nothing that was in memory turns; no condition but on lengths. -/
import Derived.Test.YtmiomnpfjigojaaRows
import Derived.Test.YtmiomnpfjigojaaBase
import Derived.Test.YtmiomnpfjigojaaBytes
import Derived.Test.YtmiomnpfjigojaaAppBytes
import Derived.Test.YtmiomnpfjigojaaSeg
import Derived.Test.YtmiomnpfjigojaaSpecPack
import Derived.Test.YtmiomnpfjigojaaLaw
import Derived.Test.YtmiomnpfjigojaaStrip
import Derived.Test.YtmiomnpfjigojaaTake
namespace Go.Proofs.Ytmiomnpfjigojaa
open Go.RowKit
set_option linter.unusedVariables false

/-- The number that z bytes make, from place k on. -/
def tk (l : List Int) (k z : Nat) : Int := takeN ((l.drop k).take z)
theorem tk_bd {l : List Int} (hbd : ∀ x ∈ l, 0 ≤ x ∧ x ≤ 255) (k z : Nat) : 0 ≤ tk l k z ∧ tk l k z < 256 ^ ((l.drop k).take z).length := takeN_bd _ (fun x hx => hbd x (List.mem_of_mem_drop (List.mem_of_mem_take hx)))
theorem tk_byte {l : List Int} (hbd : ∀ x ∈ l, 0 ≤ x ∧ x ≤ 255) (k : Nat) (hk : k < l.length) : 0 ≤ tk l k 1 ∧ tk l k 1 ≤ 255 := by
  have h := tk_bd hbd k 1
  rw [show ((l.drop k).take 1).length = 1 by simp; omega] at h
  omega
/-- The segment that is read from bytes. -/
def rdSeg (l : List Int) : Seg :=
  ⟨tk l 0 1 / 2, tk l 0 1 % 2, bits .and .i64 (tk l 1 1) 1 != 0, bits .and .i64 (tk l 1 1) 2 != 0, bits .and .i64 (tk l 1 1) 4 != 0, tk l 2 2, tk l 4 2, tk l 6 2, tk l 8 1, tk l 9 3, tk l 12 3, l.drop 16⟩

set_option maxRecDepth 8000 in
set_option maxHeartbeats 2000000 in
theorem iReadSegment (b off : Nat) (n cap : Nat) (l : List Int) (w : World) (hl : l.length = n) (hc : n + 2 ≤ cap) (hm : cap ≤ 9223372036854775807) (h16 : 16 ≤ n) (hs : n ≤ 1048576) (hr : ∀ i, i < n → w.cell? ⟨b, off + i, none⟩ = some (.int .u8 (l.getD i 0))) (hbd : ∀ x ∈ l, 0 ≤ x ∧ x ≤ 255) :
    Calls Try.prog 64 #[.slice (some ⟨b, off, none⟩) n cap] w fun e w' => ∃ v, e = .returned (.agg #[.int .i64 (rdSeg l).path, .int .i64 (rdSeg l).frm, .bool (rdSeg l).syn, .bool (rdSeg l).ackd, .bool (rdSeg l).rst, .int .i64 (rdSeg l).seq, .int .i64 (rdSeg l).ack, .int .i64 (rdSeg l).fin, .int .i64 (rdSeg l).opt, .int .i64 (rdSeg l).a, .int .i64 (rdSeg l).b, v]) ∧ OB w' w.heap.size v (l.drop 16) ∧ Below w.heap.size w w' := by
  have hlt := cell_lt (hr 0 (by omega))
  simp at hlt
  have HC : Hid (∀ W, Below w.heap.size w W → ∀ i, i < n → W.cell? ⟨b, off + i, none⟩ = some (.int .u8 (l.getD i 0))) := fun W h i hi => (h.cell (p := ⟨b, off + i, none⟩) hlt).trans (hr i hi)
  clear hr
  have HBD : Hid _ := hbd
  have t0 := tk_byte hbd 0 (by omega)
  have HL : Hid _ := hl
  clear hbd hl
  go_enter Try.func64, Try.ntmps64
  go_wp2_with fail
  refine (iTakeNumber w.heap.size b (off) (n) (cap) 1 (l.drop 0) _ (by have := HL.out; simp; omega) (by omega) (by omega) (by omega) (by omega) (by omega) ?_ (fun x hx => HBD.out x (List.mem_of_mem_drop hx)) ?_ ?_ (by omega) (by omega)).mono ?_
  · intro i hi
    rw [show off + i = off + (0 + i) by omega]
    refine (HC.out _ ?_ (0 + i) (by omega)).trans ?_
    · go_grown
    · rw [List.getD_eq_getElem?_getD, List.getD_eq_getElem?_getD, List.getElem?_drop]
  · simp [go_sem]
  · simp [go_sem]
  rintro e w1 ⟨rfl, hw⟩
  subst w1
  rw [show takeN ((l.drop 0).take 1) = tk l 0 1 from rfl]
  go_wp2_with fail
  refine (iTakeNumber w.heap.size b (off + 1) (n - 1) (cap - 1) 1 (l.drop 1) _ (by have := HL.out; simp; omega) (by omega) (by omega) (by omega) (by omega) (by omega) ?_ (fun x hx => HBD.out x (List.mem_of_mem_drop hx)) ?_ ?_ (by omega) (by omega)).mono ?_
  · intro i hi
    rw [show off + 1 + i = off + (1 + i) by omega]
    refine (HC.out _ ?_ (1 + i) (by omega)).trans ?_
    · go_grown
    · rw [List.getD_eq_getElem?_getD, List.getD_eq_getElem?_getD, List.getElem?_drop]
  · simp [go_sem]
  · simp [go_sem]
  rintro e w1 ⟨rfl, hw⟩
  subst w1
  rw [show takeN ((l.drop 1).take 1) = tk l 1 1 from rfl]
  go_wp2_with fail
  refine (iTakeNumber w.heap.size b (off + 1 + 1) (n - 1 - 1) (cap - 1 - 1) 2 (l.drop 2) _ (by have := HL.out; simp; omega) (by omega) (by omega) (by omega) (by omega) (by omega) ?_ (fun x hx => HBD.out x (List.mem_of_mem_drop hx)) ?_ ?_ (by omega) (by omega)).mono ?_
  · intro i hi
    rw [show off + 1 + 1 + i = off + (2 + i) by omega]
    refine (HC.out _ ?_ (2 + i) (by omega)).trans ?_
    · go_grown
    · rw [List.getD_eq_getElem?_getD, List.getD_eq_getElem?_getD, List.getElem?_drop]
  · simp [go_sem]
  · simp [go_sem]
  rintro e w1 ⟨rfl, hw⟩
  subst w1
  rw [show takeN ((l.drop 2).take 2) = tk l 2 2 from rfl]
  go_wp2_with fail
  refine (iTakeNumber w.heap.size b (off + 1 + 1 + 2) (n - 1 - 1 - 2) (cap - 1 - 1 - 2) 2 (l.drop 4) _ (by have := HL.out; simp; omega) (by omega) (by omega) (by omega) (by omega) (by omega) ?_ (fun x hx => HBD.out x (List.mem_of_mem_drop hx)) ?_ ?_ (by omega) (by omega)).mono ?_
  · intro i hi
    rw [show off + 1 + 1 + 2 + i = off + (4 + i) by omega]
    refine (HC.out _ ?_ (4 + i) (by omega)).trans ?_
    · go_grown
    · rw [List.getD_eq_getElem?_getD, List.getD_eq_getElem?_getD, List.getElem?_drop]
  · simp [go_sem]
  · simp [go_sem]
  rintro e w1 ⟨rfl, hw⟩
  subst w1
  rw [show takeN ((l.drop 4).take 2) = tk l 4 2 from rfl]
  go_wp2_with fail
  refine (iTakeNumber w.heap.size b (off + 1 + 1 + 2 + 2) (n - 1 - 1 - 2 - 2) (cap - 1 - 1 - 2 - 2) 2 (l.drop 6) _ (by have := HL.out; simp; omega) (by omega) (by omega) (by omega) (by omega) (by omega) ?_ (fun x hx => HBD.out x (List.mem_of_mem_drop hx)) ?_ ?_ (by omega) (by omega)).mono ?_
  · intro i hi
    rw [show off + 1 + 1 + 2 + 2 + i = off + (6 + i) by omega]
    refine (HC.out _ ?_ (6 + i) (by omega)).trans ?_
    · go_grown
    · rw [List.getD_eq_getElem?_getD, List.getD_eq_getElem?_getD, List.getElem?_drop]
  · simp [go_sem]
  · simp [go_sem]
  rintro e w1 ⟨rfl, hw⟩
  subst w1
  rw [show takeN ((l.drop 6).take 2) = tk l 6 2 from rfl]
  go_wp2_with fail
  refine (iTakeNumber w.heap.size b (off + 1 + 1 + 2 + 2 + 2) (n - 1 - 1 - 2 - 2 - 2) (cap - 1 - 1 - 2 - 2 - 2) 1 (l.drop 8) _ (by have := HL.out; simp; omega) (by omega) (by omega) (by omega) (by omega) (by omega) ?_ (fun x hx => HBD.out x (List.mem_of_mem_drop hx)) ?_ ?_ (by omega) (by omega)).mono ?_
  · intro i hi
    rw [show off + 1 + 1 + 2 + 2 + 2 + i = off + (8 + i) by omega]
    refine (HC.out _ ?_ (8 + i) (by omega)).trans ?_
    · go_grown
    · rw [List.getD_eq_getElem?_getD, List.getD_eq_getElem?_getD, List.getElem?_drop]
  · simp [go_sem]
  · simp [go_sem]
  rintro e w1 ⟨rfl, hw⟩
  subst w1
  rw [show takeN ((l.drop 8).take 1) = tk l 8 1 from rfl]
  go_wp2_with fail
  refine (iTakeNumber w.heap.size b (off + 1 + 1 + 2 + 2 + 2 + 1) (n - 1 - 1 - 2 - 2 - 2 - 1) (cap - 1 - 1 - 2 - 2 - 2 - 1) 3 (l.drop 9) _ (by have := HL.out; simp; omega) (by omega) (by omega) (by omega) (by omega) (by omega) ?_ (fun x hx => HBD.out x (List.mem_of_mem_drop hx)) ?_ ?_ (by omega) (by omega)).mono ?_
  · intro i hi
    rw [show off + 1 + 1 + 2 + 2 + 2 + 1 + i = off + (9 + i) by omega]
    refine (HC.out _ ?_ (9 + i) (by omega)).trans ?_
    · go_grown
    · rw [List.getD_eq_getElem?_getD, List.getD_eq_getElem?_getD, List.getElem?_drop]
  · simp [go_sem]
  · simp [go_sem]
  rintro e w1 ⟨rfl, hw⟩
  subst w1
  rw [show takeN ((l.drop 9).take 3) = tk l 9 3 from rfl]
  go_wp2_with fail
  refine (iTakeNumber w.heap.size b (off + 1 + 1 + 2 + 2 + 2 + 1 + 3) (n - 1 - 1 - 2 - 2 - 2 - 1 - 3) (cap - 1 - 1 - 2 - 2 - 2 - 1 - 3) 3 (l.drop 12) _ (by have := HL.out; simp; omega) (by omega) (by omega) (by omega) (by omega) (by omega) ?_ (fun x hx => HBD.out x (List.mem_of_mem_drop hx)) ?_ ?_ (by omega) (by omega)).mono ?_
  · intro i hi
    rw [show off + 1 + 1 + 2 + 2 + 2 + 1 + 3 + i = off + (12 + i) by omega]
    refine (HC.out _ ?_ (12 + i) (by omega)).trans ?_
    · go_grown
    · rw [List.getD_eq_getElem?_getD, List.getD_eq_getElem?_getD, List.getElem?_drop]
  · simp [go_sem]
  · simp [go_sem]
  rintro e w1 ⟨rfl, hw⟩
  subst w1
  rw [show takeN ((l.drop 12).take 3) = tk l 12 3 from rfl]
  go_wp2_with fail
  refine (iTakeNumber w.heap.size b (off + 1 + 1 + 2 + 2 + 2 + 1 + 3 + 3) (n - 1 - 1 - 2 - 2 - 2 - 1 - 3 - 3) (cap - 1 - 1 - 2 - 2 - 2 - 1 - 3 - 3) 1 (l.drop 15) _ (by have := HL.out; simp; omega) (by omega) (by omega) (by omega) (by omega) (by omega) ?_ (fun x hx => HBD.out x (List.mem_of_mem_drop hx)) ?_ ?_ (by omega) (by omega)).mono ?_
  · intro i hi
    rw [show off + 1 + 1 + 2 + 2 + 2 + 1 + 3 + 3 + i = off + (15 + i) by omega]
    refine (HC.out _ ?_ (15 + i) (by omega)).trans ?_
    · go_grown
    · rw [List.getD_eq_getElem?_getD, List.getD_eq_getElem?_getD, List.getElem?_drop]
  · simp [go_sem]
  · simp [go_sem]
  rintro e w1 ⟨rfl, hw⟩
  subst w1
  rw [show takeN ((l.drop 15).take 1) = tk l 15 1 from rfl]
  go_wp2_with fail
  refine (iCopyBytes _ _ _ (l.drop 16) _ (by have := HL.out; simp; omega) ?_ (by intro e; cases e) (by omega)).mono ?_
  · refine ⟨fun x hx => HBD.out x (List.mem_of_mem_drop hx), Or.inr ⟨b, off + 1 + 1 + 2 + 2 + 2 + 1 + 3 + 3 + 1, rfl, fun i hi => ?_⟩⟩
    rw [List.length_drop, HL.out] at hi
    rw [show off + 1 + 1 + 2 + 2 + 2 + 1 + 3 + 3 + 1 + i = off + (16 + i) by omega]
    refine (HC.out _ ?_ (16 + i) (by omega)).trans ?_
    · go_grown
    · rw [List.getD_eq_getElem?_getD, List.getD_eq_getElem?_getD, List.getElem?_drop]
  rintro e w5 ⟨v5, rfl, ho5, hb5⟩
  obtain ⟨LD, hLD⟩ : ∃ L, L = l.drop 16 := ⟨_, rfl⟩
  rw [← hLD] at ho5
  have ELD : Hid _ := hLD
  clear hLD
  obtain ⟨a5, c5, rfl, -⟩ := ho5.rb
  have hz := hb5.size
  simp at hz
  have hc1 : ∀ o, w5.cell? ⟨w.heap.size + 1, o, none⟩ = (#[.int .i64 0, .int .i64 0, .bool false, .bool false, .bool false, .int .i64 0, .int .i64 0, .int .i64 0, .int .i64 0, .int .i64 0, .int .i64 0, .slice none 0 0] : Array Value)[o]? := fun o => by rw [(bcell hb5).1 (w.heap.size + 1) o (by simp)]; simp [go_sem]
  have hc2 : ∀ o, w5.cell? ⟨w.heap.size + 1 + 1, o, none⟩ = (#[.int .i64 (rdSeg l).path, .int .i64 (rdSeg l).frm, .bool (rdSeg l).syn, .bool (rdSeg l).ackd, .bool (rdSeg l).rst, .int .i64 (rdSeg l).seq, .int .i64 (rdSeg l).ack, .int .i64 (rdSeg l).fin, .int .i64 (rdSeg l).opt, .int .i64 (rdSeg l).a, .int .i64 (rdSeg l).b, .slice none 0 0] : Array Value)[o]? := fun o => by rw [(bcell hb5).1 (w.heap.size + 1 + 1) o (by simp)]; simp [go_sem, rdSeg]
  have hf1 := fun o => (bcell hb5).2 (w.heap.size + 1) o (by simp)
  have hf2 := fun o => (bcell hb5).2 (w.heap.size + 1 + 1) o (by simp)
  have z1 : w.heap.size + 1 < w5.heap.size := by omega
  have z2 : w.heap.size + 1 + 1 < w5.heap.size := by omega
  have HB : Hid _ := hb5
  have HO : Hid _ := ho5
  clear hb5 ho5 hz t0
  go_wp2_with fail
  have hB1 : Below w.heap.size w w5 := Below.trans (by go_grown) (HB.out.mono (by simp; omega))
  refine bodyPost_ret (v := .agg #[.int .i64 (rdSeg l).path, .int .i64 (rdSeg l).frm, .bool (rdSeg l).syn, .bool (rdSeg l).ackd, .bool (rdSeg l).rst, .int .i64 (rdSeg l).seq, .int .i64 (rdSeg l).ack, .int .i64 (rdSeg l).fin, .int .i64 (rdSeg l).opt, .int .i64 (rdSeg l).a, .int .i64 (rdSeg l).b, .slice a5 LD.length c5]) (by simp [results, Try.results64, go_sem, hc1]) rfl ⟨.slice a5 LD.length c5, rfl, ?_, ?_⟩
  · rw [← ELD.out]
    refine OB.mono (OB.keeps HO.out fun g hg => ?_) (by simp; omega)
    simp at hg
    repeat rw [Below.heap_setCell _ _ _ _ (by dsimp only; omega)]
  · clear hc1 hc2 hf1 hf2 HO HB
    go_grown
end Go.Proofs.Ytmiomnpfjigojaa
