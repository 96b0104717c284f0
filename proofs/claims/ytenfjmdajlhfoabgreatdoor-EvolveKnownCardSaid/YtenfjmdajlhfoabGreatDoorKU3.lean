/- Texts. -/
import Derived.Test.YtenfjmdajlhfoabGreatDoorKU2
import Derived.BigRegion
import Derived.Deep.RegionLawGrows
import Derived.Deep.QuietTactic
import Derived.BigQuiet
set_option maxHeartbeats 8000000
namespace Go.Proofs.YtenfjmdajlhfoabGreatDoor
open Go.RowKit
set_option linter.unusedVariables false
def hexS:ByteArray:=⟨#[48,49,50,51,52,53,54,55,56,57,97,98,99,100,101,102]⟩
theorem hex_at:∀ x:Fin 16,(hexS[x.val]'(x.isLt)).toNat=Utf.hex x.val:=by decide
theorem hex_run (x:Nat) (h:x < 16) (k:IntKind) (w:World):(Instr.index 9 (.string ⟨#[48,49,50,51,52,53,54,55,56,57,97,98,99,100,101,102]⟩) (.int k (x:Int))).run Tryz.prog w=.ok (.int .u8 (Utf.hex x:Nat)) w:=by
 refine (run_index_string (P:=Tryz.prog) w 9 hexS k _ Tryz.underlying9).trans ?_
 rw [dif_pos ⟨by omega,by show (x:Int) < 16;omega⟩]
 have:=hex_at ⟨x,h⟩
 simp only [Int.toNat_natCast]
 exact congrArg (fun y:Nat=>Result.ok (Value.int .u8 (y:Int)) w) this
def upto (l:List Nat) (k:Nat):List Nat:=34::Utf.escs (l.take k)
theorem escs_len (l:List Nat):(Utf.escs l).length≤6 * l.length:=by
 induction l with
 | nil=>simp [Utf.escs]
 | cons a l ih =>
  rw [Utf.escs_cons,List.length_append,List.length_cons]
  have:=Utf.escB_len a
  omega
theorem upto_len (l:List Nat) (k:Nat):(upto l k).length≤6 * l.length+1:=by
 unfold upto
 have:=escs_len (l.take k)
 have h2:(l.take k).length≤l.length:=by rw [List.length_take];omega
 simp;omega
def QS (wb:World) (m b it:Nat) (L:List (Nat × Nat)) (s:ByteArray) (pos:Nat) (acc:List Nat) (w:World):Prop :=
 IsMap w m L∧Bld b b acc w∧w.heap[it]?=some (.stringIter s pos)∧Below b wb w∧m < b∧b < it
theorem QS.wrote {wb w w':World} {m b it:Nat} {L:List (Nat × Nat)} {s:ByteArray} {pos:Nat} {acc acc':List Nat} (h:QS wb m b it L s pos acc w) (k:Wrote b b acc' w w'):QS wb m b it L s pos acc' w':=by
 obtain⟨h1,h2,h3,h4,h5,h6⟩:=h
 obtain⟨k1,k2,k3⟩:=k
 exact⟨(k2.block m h5).trans h1,k1,k3.iter h3 (by omega),h4.trans k2,h5,h6⟩
theorem QS.iter {wb w:World} {m b it:Nat} {L:List (Nat × Nat)} {s:ByteArray} {pos:Nat} {acc:List Nat} (h:QS wb m b it L s pos acc w) (q:Nat):QS wb m b it L s q acc (w.iterAt it s q):=by
 obtain⟨h1,h2,h3,h4,h5,h6⟩:=h
 exact⟨(Lib.iterAt_other w it m s q (by omega)).trans h1,h2.iterAt h3 q,Lib.iterAt_heap w it s pos q h3,Lib.below_iterAt h4 (by omega) s q,h5,h6⟩
theorem isr_low (r:Nat) (h:r < 128):Utf.isr r:=.inl (by omega)
theorem QS.bld {wb w:World} {m b it:Nat} {L:List (Nat × Nat)} {s:ByteArray} {pos:Nat} {acc:List Nat} (h:QS wb m b it L s pos acc w):Bld b b acc w:=h.2.1
theorem QS.below {wb w:World} {m b it:Nat} {L:List (Nat × Nat)} {s:ByteArray} {pos:Nat} {acc:List Nat} (h:QS wb m b it L s pos acc w):Below b wb w:=h.2.2.2.1
theorem QS.at {wb w:World} {m b it:Nat} {L:List (Nat × Nat)} {s:ByteArray} {pos:Nat} {acc:List Nat} (h:QS wb m b it L s pos acc w):w.heap[it]?=some (.stringIter s pos):=h.2.2.1
theorem QS.size {wb w:World} {m b it:Nat} {L:List (Nat × Nat)} {s:ByteArray} {pos:Nat} {acc:List Nat} (h:QS wb m b it L s pos acc w):b≤w.heap.size:=Nat.le_of_lt h.2.1.lt
theorem writeByteI (B b:Nat) (l:List Nat) (c:Nat) (x:Int) (hx:x=(c:Nat)) (w:World) (h:Bld B b l w) (hc:c < 256) (hlen:l.length≤1000000000) (hBw:B≤w.heap.size) :
    Calls Tryz.prog 134 #[.pointer (some ⟨b,0,none⟩),.int .u8 x] w fun e w'=>e=.returned .nilIface∧Wrote B b (l++[c]) w w':=hx▸writeByte B b l c w h hc hlen hBw
theorem qs_byte {wb w:World} {m b it:Nat} {L:List (Nat × Nat)} {s:ByteArray} {pos:Nat} {acc:List Nat} (h:QS wb m b it L s pos acc w) (c:Nat) (x:Int) (hx:x=(c:Nat)) (hc:c < 256) (hl:acc.length≤1000000000) :
    Calls Tryz.prog 134 #[.pointer (some ⟨b,0,none⟩),.int .u8 x] w fun e w'=>e=.returned .nilIface∧QS wb m b it L s pos (acc++[c]) w' :=
  hx▸(writeByte b b acc c w h.2.1 hc hl h.size).mono fun _ _ ⟨he,hw⟩=>⟨he,h.wrote hw⟩
theorem qs_rune {wb w:World} {m b it:Nat} {L:List (Nat × Nat)} {s:ByteArray} {pos:Nat} {acc:List Nat} (h:QS wb m b it L s pos acc w) (r:Nat) (x:Int) (hx:x=(r:Nat)) (hr:Utf.isr r) (hl:acc.length≤1000000000) :
 Calls Tryz.prog 159 #[.pointer (some ⟨b,0,none⟩),.int .i32 x] w fun e w'=>(∃ n,e=.returned (.tuple #[.int .i64 n,.nilIface]))∧QS wb m b it L s pos (acc++Utf.enc r) w' :=
 hx▸(writeRune b b acc r w h.2.1 hr hl h.size).mono fun _ _ ⟨he,hw⟩=>⟨he,h.wrote hw⟩
theorem qs_str {wb w:World} {m b it:Nat} {L:List (Nat × Nat)} {s:ByteArray} {pos:Nat} {acc:List Nat} (h:QS wb m b it L s pos acc w) (t:ByteArray) (l:List Nat) (ht:t.size≤100) (hbl:bl t=l) (hl:acc.length≤1000000000) :
 Calls Tryz.prog 75 #[.pointer (some ⟨b,0,none⟩),.string t] w fun e w'=>(∃ n,e=.returned (.tuple #[.int .i64 n,.nilIface]))∧QS wb m b it L s pos (acc++l) w' :=
 (writeString b b acc t w h.2.1 ht hl h.size).mono fun _ _ ⟨he,hw⟩=>⟨he,by rw [← hbl];exact h.wrote hw⟩
def tidyL:List (Nat × Nat):=[(34,34),(92,92),(8,98),(12,102),(10,110),(13,114),(9,116)]
theorem look_someI {w:World} {m:Nat} {l:List (Nat × Nat)} (h:IsMap w m l) (k v:Nat) (x y:Int) (hx:x=(k:Nat)) (hy:y=(v:Nat)) (hk:lk l k=some v) :
 (Instr.lookup 174 (.map (some m)) (.int .i32 x) true).run Tryz.prog w=.ok (.tuple #[.int .i32 y,.bool true]) w:=by
 subst hx;subst hy;exact look_some h k v hk
theorem lk_tidy_none (r:Nat) (h:r≠34∧r≠92∧r≠8∧r≠12∧r≠10∧r≠13∧r≠9):lk tidyL r=none:=by
 simp [tidyL,lk,h]
theorem upto_rune (l:List Nat) (hl:∀ x∈l,x < 256) (pos:Nat) (h:Utf.nw (l.drop pos)≠0):upto l (pos+Utf.nw (l.drop pos))=upto l pos++Utf.escR (Utf.nr (l.drop pos)):=by
 obtain⟨i1,i2,i3,i4⟩:=Utf.nx_some _ (Utf.drop_byte hl pos) h
 unfold upto
 rw [List.take_add,Utf.escs_append,← Utf.escs_enc]
 have:(l.drop pos).take (Utf.nw (l.drop pos))=Utf.enc (Utf.nr (l.drop pos)):=by
  conv=>lhs;arg 2;rw [i2]
  rw [← i3];simp
 rw [this];rfl
theorem paired_tidy (w:World) :
 Calls Tryz.prog 158 #[.string ⟨#[34,92,8,12,10,13,9]⟩,.string ⟨#[34,92,98,102,110,114,116]⟩] w fun e w'=>e=.returned (.map (some w.heap.size))∧IsMap w' w.heap.size tidyL∧Below w.heap.size w w':=by
 have:=paired ⟨#[34,92,8,12,10,13,9]⟩ ⟨#[34,92,98,102,110,114,116]⟩ w 7 rfl rfl (by decide) (by decide)
  (fun i j hij hj=>(by decide:∀ j,j < 7→∀ i,i < j→(bl ⟨#[34,92,8,12,10,13,9]⟩).getD i 0≠(bl ⟨#[34,92,8,12,10,13,9]⟩).getD j 0) j hj i hij)
 exact this
set_option maxHeartbeats 8000000 in
set_option maxRecDepth 100000 in
theorem quote_yes (s:ByteArray) (w:World) (T:Tab w) (hm:s.size≤1000000) (h:Utf.vld (bl s)=true) :
    Calls Tryz.prog 131 #[.string s] w fun e w'=>e=.returned (.tuple #[.string (str (Utf.tidy (bl s))),.int .i64 0])∧Below w.heap.size w w':=by
  have hm2:s.size≤maxLen:=by unfold maxLen;omega
  have HV:=hZ h
  clear h
  go_enter Tryz.func131,Tryz.ntmps131
  go_wp2_with fail
  ((with_reducible refine (valid s _ T hm2 _ HV.out).mono ?_);rintro e w2 ⟨rfl,hb2⟩)
  go_wp2_with fail
  ((with_reducible refine (paired_tidy w2).mono ?_);rintro e w3 ⟨rfl,hmap3,hb3⟩)
  have hB0:=Bld.fresh w3
  have HM3:=hZ hmap3
  have HB0:=hZ hB0
  have hbb:Below w.heap.size w w3:=up hb2 hb3
  have hm3:=hmap3.lt
  clear hmap3 hB0
  go_wp2_with fail
  ((with_reducible refine (writeByteI w3.heap.size w3.heap.size [] 34 34 rfl _ HB0.out (by decide) (by simp) (by simp)).mono ?_);rintro e w4 ⟨rfl,hw4⟩)
  go_wp2
  have hqs:QS w3 w2.heap.size w3.heap.size w4.heap.size tidyL s 0 (upto (bl s) 0) (w4.iter s 0):=by
    obtain⟨k1,k2,k3⟩:=hw4
    have hlt:=k1.lt
    have hn:Below w4.heap.size w4 (w4.iter s 0):=(Below.refl _ _).alloc (Nat.le_refl _) _
    refine⟨?_,?_,?_,?_,hm3,hlt⟩
    · have:=(HM3.out.later ((Below.refl _ _).alloc (Nat.le_refl _) (.cells #[.pointer none,.slice none 0 0] 109)))
      exact IsMap.later (show IsMap w4 w2.heap.size tidyL from (k2.block _ hm3).trans this) hn
    · have:=k1.later hn
      simpa [upto,Utf.escs] using this
    · have:=World.iter_heap w4 s 0
      simpa using this
    · exact (((Below.refl _ w3).alloc (Nat.le_refl _) _).trans k2).trans (hn.mono (by omega))
  have HQ:=hZ hqs
  clear hqs hw4
  go_loopw [] (fun wr=>∃ pos:Nat,pos≤s.size∧QS w3 w2.heap.size w3.heap.size w4.heap.size tidyL s pos (upto (bl s) pos) wr∧Hid (Utf.vld ((bl s).drop pos)=true)) (fun wr=>s.size - wr.iterPos w4.heap.size)
  case atStart=>exact⟨0,by omega,HQ.out,by simpa using HV⟩
  case round =>
    clear HQ
    obtain⟨pos,hps,hq,HVD⟩:=hrel
    have hul:=upto_len (bl s) pos
    rw [bl_length] at hul
    have hit:=hq.2.2.1
    by_cases hp:pos < s.size
    · have hnx:∀ ty,(Instr.next (.pointer (some ⟨w4.heap.size,0,none⟩)) true ty).run Tryz.prog wr=_:=fun ty=>Lib.run_next_any_at wr w4.heap.size s pos ty hit hp
      have hne:(bl s).drop pos≠[]:=fun e=>by have:=congrArg List.length e;simp [bl_length] at this;omega
      have hs:=Utf.vld_step _ hne
      rw [HVD.out] at hs
      have h1:Utf.nw ((bl s).drop pos)≠0:=fun e=>by rw [if_pos e] at hs;cases hs
      rw [if_neg h1,List.drop_drop] at hs
      rw [dec_from s pos hp,dec_step _ h1] at hnx
      have hle:=Utf.nw_le _ (Utf.drop_byte (bl_byte s) pos)
      rw [List.length_drop,bl_length] at hle
      have hur:=upto_rune (bl s) (bl_byte s) pos h1
      have hisr:=(Utf.nx_some _ (Utf.drop_byte (bl_byte s) pos) h1).1
      have hq2:=hq.iter (pos+Utf.nw ((bl s).drop pos))
      generalize Utf.nr ((bl s).drop pos)=r at *
      generalize Utf.nw ((bl s).drop pos)=n at *
      have hr2:r≤1114111:=by unfold Utf.isr at hisr;omega
      have HI:=hZ hit
      have HS:=hZ hs
      have HU:=hZ hur
      have HQ2:=hZ hq2
      have hrest:∀ (acc:List Nat) (wx:World),QS w3 w2.heap.size w3.heap.size w4.heap.size tidyL s (pos+n) acc wx→acc=upto (bl s) pos++Utf.escR r→∃ pos':Nat,pos'≤s.size∧QS w3 w2.heap.size w3.heap.size w4.heap.size tidyL s pos' (upto (bl s) pos') wx∧Hid (Utf.vld ((bl s).drop pos')=true):=by
        intro acc wx hx he
        refine⟨pos+n,by omega,?_,hZ HS.out.symm⟩
        rw [HU.out,← he];exact hx
      have HR:=hZ hrest
      clear hs hur hit hq2 hne hrest
      by_cases c34:r=34
      · subst c34
        have hlk:=look_someI HQ2.out.1 34 34 34 34 rfl rfl (by decide)
        have HE:=hZ (show Utf.escR 34=[92]++Utf.enc 34 from rfl)
        go_wp2_with fail
        ((with_reducible refine (qs_byte HQ2.out 92 92 rfl (by decide) (by omega)).mono ?_);rintro e w5 ⟨rfl,hq5⟩)
        go_wp2_with fail
        ((with_reducible refine (qs_rune hq5 34 34 rfl (isr_low _ (by decide)) (by simp;omega)).mono ?_);rintro e w6 ⟨⟨nn,rfl⟩,hq6⟩)
        have HQ6:=hZ hq6
        clear hq5 hq6
        go_wp2
        go_roundw
        case rel=>exact HR.out _ _ HQ6.out (by rw [HE.out,List.append_assoc])
        case measure=>simp only [World.iterPos,HQ6.out.at,HI.out];omega
      by_cases c92:r=92
      · subst c92
        have hlk:=look_someI HQ2.out.1 92 92 92 92 rfl rfl (by decide)
        have HE:=hZ (show Utf.escR 92=[92]++Utf.enc 92 from rfl)
        go_wp2_with fail
        ((with_reducible refine (qs_byte HQ2.out 92 92 rfl (by decide) (by omega)).mono ?_);rintro e w5 ⟨rfl,hq5⟩)
        go_wp2_with fail
        ((with_reducible refine (qs_rune hq5 92 92 rfl (isr_low _ (by decide)) (by simp;omega)).mono ?_);rintro e w6 ⟨⟨nn,rfl⟩,hq6⟩)
        have HQ6:=hZ hq6
        clear hq5 hq6
        go_wp2
        go_roundw
        case rel=>exact HR.out _ _ HQ6.out (by rw [HE.out,List.append_assoc])
        case measure=>simp only [World.iterPos,HQ6.out.at,HI.out];omega
      by_cases c8:r=8
      · subst c8
        have hlk:=look_someI HQ2.out.1 8 98 8 98 rfl rfl (by decide)
        have HE:=hZ (show Utf.escR 8=[92]++Utf.enc 98 from rfl)
        go_wp2_with fail
        ((with_reducible refine (qs_byte HQ2.out 92 92 rfl (by decide) (by omega)).mono ?_);rintro e w5 ⟨rfl,hq5⟩)
        go_wp2_with fail
        ((with_reducible refine (qs_rune hq5 98 98 rfl (isr_low _ (by decide)) (by simp;omega)).mono ?_);rintro e w6 ⟨⟨nn,rfl⟩,hq6⟩)
        have HQ6:=hZ hq6
        clear hq5 hq6
        go_wp2
        go_roundw
        case rel=>exact HR.out _ _ HQ6.out (by rw [HE.out,List.append_assoc])
        case measure=>simp only [World.iterPos,HQ6.out.at,HI.out];omega
      by_cases c12:r=12
      · subst c12
        have hlk:=look_someI HQ2.out.1 12 102 12 102 rfl rfl (by decide)
        have HE:=hZ (show Utf.escR 12=[92]++Utf.enc 102 from rfl)
        go_wp2_with fail
        ((with_reducible refine (qs_byte HQ2.out 92 92 rfl (by decide) (by omega)).mono ?_);rintro e w5 ⟨rfl,hq5⟩)
        go_wp2_with fail
        ((with_reducible refine (qs_rune hq5 102 102 rfl (isr_low _ (by decide)) (by simp;omega)).mono ?_);rintro e w6 ⟨⟨nn,rfl⟩,hq6⟩)
        have HQ6:=hZ hq6
        clear hq5 hq6
        go_wp2
        go_roundw
        case rel=>exact HR.out _ _ HQ6.out (by rw [HE.out,List.append_assoc])
        case measure=>simp only [World.iterPos,HQ6.out.at,HI.out];omega
      by_cases c10:r=10
      · subst c10
        have hlk:=look_someI HQ2.out.1 10 110 10 110 rfl rfl (by decide)
        have HE:=hZ (show Utf.escR 10=[92]++Utf.enc 110 from rfl)
        go_wp2_with fail
        ((with_reducible refine (qs_byte HQ2.out 92 92 rfl (by decide) (by omega)).mono ?_);rintro e w5 ⟨rfl,hq5⟩)
        go_wp2_with fail
        ((with_reducible refine (qs_rune hq5 110 110 rfl (isr_low _ (by decide)) (by simp;omega)).mono ?_);rintro e w6 ⟨⟨nn,rfl⟩,hq6⟩)
        have HQ6:=hZ hq6
        clear hq5 hq6
        go_wp2
        go_roundw
        case rel=>exact HR.out _ _ HQ6.out (by rw [HE.out,List.append_assoc])
        case measure=>simp only [World.iterPos,HQ6.out.at,HI.out];omega
      by_cases c13:r=13
      · subst c13
        have hlk:=look_someI HQ2.out.1 13 114 13 114 rfl rfl (by decide)
        have HE:=hZ (show Utf.escR 13=[92]++Utf.enc 114 from rfl)
        go_wp2_with fail
        ((with_reducible refine (qs_byte HQ2.out 92 92 rfl (by decide) (by omega)).mono ?_);rintro e w5 ⟨rfl,hq5⟩)
        go_wp2_with fail
        ((with_reducible refine (qs_rune hq5 114 114 rfl (isr_low _ (by decide)) (by simp;omega)).mono ?_);rintro e w6 ⟨⟨nn,rfl⟩,hq6⟩)
        have HQ6:=hZ hq6
        clear hq5 hq6
        go_wp2
        go_roundw
        case rel=>exact HR.out _ _ HQ6.out (by rw [HE.out,List.append_assoc])
        case measure=>simp only [World.iterPos,HQ6.out.at,HI.out];omega
      by_cases c9:r=9
      · subst c9
        have hlk:=look_someI HQ2.out.1 9 116 9 116 rfl rfl (by decide)
        have HE:=hZ (show Utf.escR 9=[92]++Utf.enc 116 from rfl)
        go_wp2_with fail
        ((with_reducible refine (qs_byte HQ2.out 92 92 rfl (by decide) (by omega)).mono ?_);rintro e w5 ⟨rfl,hq5⟩)
        go_wp2_with fail
        ((with_reducible refine (qs_rune hq5 116 116 rfl (isr_low _ (by decide)) (by simp;omega)).mono ?_);rintro e w6 ⟨⟨nn,rfl⟩,hq6⟩)
        have HQ6:=hZ hq6
        clear hq5 hq6
        go_wp2
        go_roundw
        case rel=>exact HR.out _ _ HQ6.out (by rw [HE.out,List.append_assoc])
        case measure=>simp only [World.iterPos,HQ6.out.at,HI.out];omega
      have hlk:=look_none HQ2.out.1 r (lk_tidy_none r ⟨c34,c92,c8,c12,c10,c13,c9⟩)
      by_cases cl:r < 32
      · have cl':(r:Int) < 32:=by omega
        have HE:=hZ (show Utf.escR r=[92,117]++[48,48]++[Utf.hex (r / 16)]++[Utf.hex (r % 16)] by
          unfold Utf.escR Utf.escB
          rw [if_pos (by omega),if_neg c34,if_neg c92,if_neg c8,if_neg c12,if_neg c10,if_neg c13,if_neg c9,if_pos cl];rfl)
        have hx1:=hex_run (r / 16) (by omega) .i32
        have hx2:=hex_run (r % 16) (by omega) .i32
        rw [show ((r / 16:Nat):Int)=(r:Int) / 16 by omega] at hx1
        rw [show ((r % 16:Nat):Int)=(r:Int) % 16 by omega] at hx2
        have hh1:Utf.hex (r / 16) < 256:=by unfold Utf.hex;split<;>omega
        have hh2:Utf.hex (r % 16) < 256:=by unfold Utf.hex;split<;>omega
        generalize Utf.hex (r / 16)=p at *
        generalize Utf.hex (r % 16)=q at *
        go_wp2_with fail
        ((with_reducible refine (qs_str HQ2.out _ [92,117] (by decide) (by decide) (by omega)).mono ?_);rintro e w5 ⟨⟨nn,rfl⟩,hq5⟩)
        go_wp2_with fail
        ((with_reducible refine (qs_str hq5 _ [48,48] (by decide) (by decide) (by simp;omega)).mono ?_);rintro e w6 ⟨⟨nn,rfl⟩,hq6⟩)
        go_wp2_with fail
        ((with_reducible refine (qs_byte hq6 p p rfl hh1 (by simp;omega)).mono ?_);rintro e w7 ⟨rfl,hq7⟩)
        go_wp2_with fail
        ((with_reducible refine (qs_byte hq7 q q rfl hh2 (by simp;omega)).mono ?_);rintro e w8 ⟨rfl,hq8⟩)
        have HQ6:=hZ hq8
        clear hq5 hq6 hq7 hq8
        go_wp2
        go_roundw
        case rel=>exact HR.out _ _ HQ6.out (by rw [HE.out];simp [List.append_assoc])
        case measure=>simp only [World.iterPos,HQ6.out.at,HI.out];omega
      · have cl':¬ ((r:Int) < 32):=by omega
        have HE:=hZ (show Utf.escR r=Utf.enc r by
          unfold Utf.escR
          by_cases cc:r < 128
          · rw [if_pos cc,Utf.enc_low r cc]
            unfold Utf.escB
            rw [if_neg c34,if_neg c92,if_neg c8,if_neg c12,if_neg c10,if_neg c13,if_neg c9,if_neg cl]
          · rw [if_neg cc])
        have HIS:=hZ hisr
        clear hisr
        go_wp2_with fail
        ((with_reducible refine (qs_rune HQ2.out r r rfl HIS.out (by omega)).mono ?_);rintro e w6 ⟨⟨nn,rfl⟩,hq6⟩)
        have HQ6:=hZ hq6
        clear hq6
        go_wp2
        go_roundw
        case rel=>exact HR.out _ _ HQ6.out (by rw [HE.out])
        case measure=>simp only [World.iterPos,HQ6.out.at,HI.out];omega
    · have hnx:∀ ty,(Instr.next (.pointer (some ⟨w4.heap.size,0,none⟩)) true ty).run Tryz.prog wr=_:=fun ty=>Lib.run_next_end_at wr w4.heap.size s pos ty hit hp
      have hall:upto (bl s) pos=34::Utf.escs (bl s):=by unfold upto;rw [List.take_of_length_le (by rw [bl_length];omega)]
      have HA:=hZ hall
      have HQ5:=hZ hq
      clear hall hit hq
      go_wp2_with fail
      ((with_reducible refine (qs_byte HQ5.out 34 34 rfl (by decide) (by omega)).mono ?_);rintro e w5 ⟨rfl,hq5⟩)
      go_wp2_with fail
      ((with_reducible refine (bString _ _ _ _ hq5.bld hq5.size).mono ?_);rintro e w6 ⟨rfl,hb6⟩)
      rw [HA.out]
      go_wp2
      go_ret2
      exact⟨rfl,hbb.trans ((hq5.below.trans hb6).mono hbb.size)⟩
theorem digit_yes (c:Nat) (w:World) (h:Utf.dig c≠16) (hc:c < 256) :
 Calls Tryz.prog 204 #[.int .u8 (c:Nat)] w fun e w'=>e=.returned (.tuple #[.int .i32 (Utf.dig c:Nat),.bool true])∧w=w':=by
 by_cases h1:48≤c∧c≤57
 ·have HD:=hZ (show Utf.dig c=c - 48 by unfold Utf.dig;rw [if_pos h1])
  obtain⟨h1,h2⟩:=h1
  have a1:(48:Int)≤c:=by omega
  have a2:(c:Int)≤57:=by omega
  have HX:=hZ (show ((c - 48:Nat):Int)=(c:Int) - 48 by omega)
  clear h h1 h2 hc
  generalize (c:Int)=x at *
  go_enter Tryz.func204,Tryz.ntmps204
  go_wp2
  go_ret2
  exact⟨by rw [HD.out,HX.out];rfl,rfl⟩
 ·by_cases h3:97≤c∧c≤102
  ·have HD:=hZ (show Utf.dig c=c - 87 by unfold Utf.dig;rw [if_neg h1,if_pos h3])
   obtain⟨h3,h2⟩:=h3
   have a1:(97:Int)≤c:=by omega
   have a2:(c:Int)≤102:=by omega
   have HX:=hZ (show ((c - 87:Nat):Int)=(c:Int) - 97+10 by omega)
   clear h h1 h2 h3 hc
   generalize (c:Int)=x at *
   go_enter Tryz.func204,Tryz.ntmps204
   go_wp2
   go_ret2
   exact⟨by rw [HD.out,HX.out];rfl,rfl⟩
  ·by_cases h4:65≤c∧c≤70
   ·have HD:=hZ (show Utf.dig c=c - 55 by unfold Utf.dig;rw [if_neg h1,if_neg h3,if_pos h4])
    obtain⟨h4,h2⟩:=h4
    have a1:(65:Int)≤c:=by omega
    have a2:(c:Int)≤70:=by omega
    have HX:=hZ (show ((c - 55:Nat):Int)=(c:Int) - 65+10 by omega)
    clear h h1 h2 h3 h4 hc
    generalize (c:Int)=x at *
    go_enter Tryz.func204,Tryz.ntmps204
    go_wp2
    go_ret2
    exact⟨by rw [HD.out,HX.out];rfl,rfl⟩
   ·exact absurd (by unfold Utf.dig;rw [if_neg h1,if_neg h3,if_neg h4]) h
theorem digit_no (c:Nat) (w:World) (h:Utf.dig c=16) (hc:c < 256) :
 Calls Tryz.prog 204 #[.int .u8 (c:Nat)] w fun e w'=>e=.returned (.tuple #[.int .i32 0,.bool false])∧w=w':=by
 have h1:¬ (48≤c∧c≤57):=fun e=>by unfold Utf.dig at h;rw [if_pos e] at h;omega
 have h2:¬ (97≤c∧c≤102):=fun e=>by unfold Utf.dig at h;rw [if_neg h1,if_pos e] at h;omega
 have h3:¬ (65≤c∧c≤70):=fun e=>by unfold Utf.dig at h;rw [if_neg h1,if_neg h2,if_pos e] at h;omega
 have r:(c:Int) < 48 ∨ (57 < (c:Int)∧(c:Int) < 65) ∨ (70 < (c:Int)∧(c:Int) < 97) ∨ 102 < (c:Int):=by omega
 clear h h1 h2 h3
 have hc':(c:Int) < 256:=by omega
 have hc0:0≤(c:Int):=by omega
 clear hc
 generalize (c:Int)=x at *
 rcases r with r|⟨r,r'⟩|⟨r,r'⟩|r
 all_goals
  go_enter Tryz.func204,Tryz.ntmps204
  go_wp2
  go_ret2
  exact⟨rfl,rfl⟩
def can (second:Bool) (a b:Int):Bool:=if second then decide (56320≤b) && decide (a < 57344) else decide (a < 56320) || decide (57344≤b)
def canF (second:Bool):Nat:=if second then 202 else 201
theorem can_is (second:Bool) (a b:Int) (w:World) (r:Bool) (h:can second a b=r) :
 Calls Tryz.prog (canF second) #[.int .i32 a,.int .i32 b] w fun e w'=>e=.returned (.bool r)∧w=w':=by
 have HH:=hZ h
 clear h
 cases second
 ·unfold canF
  simp only [Bool.false_eq_true,if_false]
  by_cases h1:a < 56320
  ·go_enter Tryz.func201,Tryz.ntmps201
   go_wp2
   go_ret
   exact⟨ret_bool (by rw [← HH.out];unfold can;rw [if_neg (by simp),decide_eq_true h1,Bool.true_or]),rfl⟩
  ·by_cases h2:57344≤b
   ·go_enter Tryz.func201,Tryz.ntmps201
    go_wp2
    go_ret
    exact⟨ret_bool (by rw [← HH.out];unfold can;simp [h2]),rfl⟩
   ·go_enter Tryz.func201,Tryz.ntmps201
    go_wp2
    go_ret
    exact⟨ret_bool (by rw [← HH.out];unfold can;rw [if_neg (by simp),decide_eq_false (by omega),decide_eq_false (by omega),Bool.or_false]),rfl⟩
 ·unfold canF
  simp only [if_true]
  by_cases h1:56320≤b
  ·by_cases h2:a < 57344
   ·go_enter Tryz.func202,Tryz.ntmps202
    go_wp2
    go_ret
    exact⟨ret_bool (by rw [← HH.out];unfold can;simp [h1,h2]),rfl⟩
   ·go_enter Tryz.func202,Tryz.ntmps202
    go_wp2
    go_ret
    exact⟨ret_bool (by rw [← HH.out];unfold can;simp [h1,h2]),rfl⟩
  ·go_enter Tryz.func202,Tryz.ntmps202
   go_wp2
   go_ret
   exact⟨ret_bool (by rw [← HH.out];unfold can;rw [if_pos rfl,decide_eq_false (by omega),Bool.false_and]),rfl⟩
def hexCS:ByteArray:=⟨#[48,49,50,51,52,53,54,55,56,57,65,66,67,68,69,70]⟩
theorem pow_lt (k n:Nat) (hk:k≤4) (h:n < 16 ^ k):n < 65536:=by
 have:16 ^ k≤16 ^ 4:=Nat.pow_le_pow_right (by omega) hk
 omega
theorem drop_at (l:List Nat) (k:Nat) (h:k < l.length):l.drop k=l.getD k 0::l.drop (k+1):=by
 rw [List.drop_eq_getElem_cons h];simp [List.getD_eq_getElem?_getD,List.getElem?_eq_getElem h]
theorem hx_step (second:Bool) (m k n:Nat) (l:List Nat):Utf.hxF second (m+1) k n (l.drop k) =
 if k < l.length then (if Utf.dig (l.getD k 0)=16 then (0,41) else if Utf.bad second k (16 * n+Utf.dig (l.getD k 0))=true then (0,41) else Utf.hxF second m (k+1) (16 * n+Utf.dig (l.getD k 0)) (l.drop (k+1))) else (0,3):=by
 by_cases h:k < l.length
 ·rw [if_pos h,drop_at l k h,Utf.hxF]
 ·rw [if_neg h,List.drop_of_length_le (by omega),Utf.hxF]
def tup (p:Nat × Nat):Ending:=.returned (.tuple #[.int .i64 (p.1:Nat),.int .i64 (p.2:Nat)])
def tnP (second:Bool) (l:List Nat):Nat × Nat:=if Utf.pre l≠0 then (0,Utf.pre l) else Utf.hx second (l.drop 2)
theorem u8_nat (a:UInt8) (n:Nat) (h:n < 256):a.toNat=n↔a=UInt8.ofNat n:=by
 constructor
 ·intro e;rw [← e];simp
 ·intro e;rw [e];simp;omega
theorem pre_yes (s:ByteArray) (h:Utf.pre (bl s)=0):Lib.hasPrefix s.data.toList (⟨#[92,117]⟩:ByteArray).data.toList=true ∧
 bl ⟨(Lib.trimPrefix s.data.toList (⟨#[92,117]⟩:ByteArray).data.toList).toArray⟩=(bl s).drop 2:=by
 have hl:bl s=s.data.toList.map UInt8.toNat:=rfl
 rw [hl] at h ⊢
 generalize s.data.toList=L at *
 match L,h with
 | [],h=>simp [Utf.pre] at h
 | [a],h =>
  simp [Utf.pre] at h
  split at h<;>omega
 | a::b::t,h =>
  simp only [Utf.pre,List.map_cons,List.length_cons,List.getD_cons_zero,List.getD_cons_succ] at h
  rw [if_neg (by omega)] at h
  have h1:a.toNat=92:=Classical.byContradiction fun e=>by rw [if_pos e] at h;omega
  rw [if_neg (by omega),if_neg (by omega)] at h
  have h2:b.toNat=117:=Classical.byContradiction fun e=>by rw [if_pos e] at h;omega
  have e1:=(u8_nat a 92 (by omega)).1 h1
  have e2:=(u8_nat b 117 (by omega)).1 h2
  subst e1;subst e2
  have hp:Lib.hasPrefix (UInt8.ofNat 92::UInt8.ofNat 117::t) (⟨#[92,117]⟩:ByteArray).data.toList=true:=by simp [Lib.hasPrefix]
  refine⟨hp,?_⟩
  unfold Lib.trimPrefix
  rw [if_pos hp]
  simp [bl]
theorem pre_no (s:ByteArray) (h:Utf.pre (bl s)≠0):Lib.hasPrefix s.data.toList (⟨#[92,117]⟩:ByteArray).data.toList=false ∧
 (Utf.pre (bl s)=3∧Lib.hasPrefix (⟨#[92,117]⟩:ByteArray).data.toList s.data.toList=true ∨ Utf.pre (bl s)=41∧Lib.hasPrefix (⟨#[92,117]⟩:ByteArray).data.toList s.data.toList=false):=by
 have hl:bl s=s.data.toList.map UInt8.toNat:=rfl
 rw [hl] at h ⊢
 generalize s.data.toList=L at *
 match L,h with
 | [],h=>simp [Utf.pre,Lib.hasPrefix]
 | [a],h =>
  by_cases h1:a.toNat=92
  ·have e1:=(u8_nat a 92 (by omega)).1 h1
   subst e1
   simp [Utf.pre,Lib.hasPrefix]
  ·have e1:a≠92:=fun e=>h1 (by rw [e];rfl)
   simp [Utf.pre,Lib.hasPrefix,List.isPrefixOf,h1,e1]
 | a::b::t,h =>
  by_cases h1:a.toNat=92
  ·by_cases h2:b.toNat=117
   ·simp [Utf.pre,h1,h2] at h
   ·have e1:=(u8_nat a 92 (by omega)).1 h1
    have e2:b≠117:=fun e=>h2 (by rw [e];rfl)
    subst e1
    simp [Utf.pre,Lib.hasPrefix,List.isPrefixOf,h2,e2,Ne.symm e2]
  ·have e1:a≠92:=fun e=>h1 (by rw [e];rfl)
   simp [Utf.pre,Lib.hasPrefix,List.isPrefixOf,h1,e1,Ne.symm e1]
def J (second:Bool) (k n:Nat):Prop:=(k=2→(second=true↔(220≤n∧n≤223)))∧(k=3→(second=true↔(220≤n / 16∧n / 16≤223)))
theorem J_step (second:Bool) (k n d:Nat) (hk:k≤3) (hd:d < 16) (h:J second k n) (hb:Utf.bad second k (16 * n+d)=false):J second (k+1) (16 * n+d):=by
 refine⟨fun e=>?_,fun e=>?_⟩
 ·obtain rfl:k=1:=by omega
  cases second<;>simp [Utf.bad] at hb ⊢<;>omega
 ·obtain rfl:k=2:=by omega
  have:=h.1 rfl
  rw [this];omega
theorem can_bad (second:Bool) (k n d c L:Nat) (hk:k≤3) (hc:c=16 ^ (3 - k)) (hd:d < 16) (hn:n < 16 ^ k) (hL:L=n * (16 * c)) (h:J second k n) :
 can second ((L:Int)+d * (c:Int)) ((L:Int)+d * (c:Int)+c - 1)=!Utf.bad second k (16 * n+d):=by
 rcases (show k=0 ∨ k=1 ∨ k=2 ∨ k=3 by omega) with rfl|rfl|rfl|rfl
 ·obtain rfl:n=0:=by simp at hn;exact hn
  subst hc hL
  cases second
  ·simp [can,Utf.bad];omega
  ·rw [Bool.eq_iff_iff];simp [can,Utf.bad];omega
 ·subst hc hL
  simp only [Nat.reduceSub,Nat.reducePow] at *
  cases second
  ·rw [Bool.eq_iff_iff];simp [can,Utf.bad];omega
  ·rw [Bool.eq_iff_iff];simp [can,Utf.bad];omega
 ·subst hc hL
  have h2:=h.1 rfl
  simp only [Nat.reduceSub,Nat.reducePow] at *
  cases second
  ·simp at h2;rw [Bool.eq_iff_iff];simp [can,Utf.bad];omega
  ·simp at h2;rw [Bool.eq_iff_iff];simp [can,Utf.bad];omega
 ·subst hc hL
  have h2:=h.2 rfl
  simp only [Nat.reduceSub,Nat.reducePow] at *
  cases second
  ·simp at h2;rw [Bool.eq_iff_iff];simp [can,Utf.bad];omega
  ·simp at h2;rw [Bool.eq_iff_iff];simp [can,Utf.bad];omega
theorem cutPrefix (s p:ByteArray) (w:World) :
 Calls Tryz.prog 203 #[.string s,.string p] w fun e w'=>e=.returned (.tuple #[.string ⟨(Lib.trimPrefix s.data.toList p.data.toList).toArray⟩,.bool (Lib.hasPrefix s.data.toList p.data.toList)])∧w=w' :=
 (Tryz.strings_CutPrefix s p w).mono fun _ _ ⟨a,b⟩=>⟨a,b.symm⟩
theorem hasPrefix (s p:ByteArray) (w:World) :
 Calls Tryz.prog 153 #[.string s,.string p] w fun e w'=>e=.returned (.bool (Lib.hasPrefix s.data.toList p.data.toList))∧w=w' :=
 (Tryz.strings_HasPrefix s p w).mono fun _ _ ⟨a,b⟩=>⟨a,b.symm⟩
def tup32 (p:Nat × Nat):Ending:=.returned (.tuple #[.int .i32 (p.1:Nat),.int .i64 (p.2:Nat)])
theorem tnP_no (second:Bool) (l:List Nat) (h:Utf.pre l≠0):tnP second l=(0,Utf.pre l):=by unfold tnP;rw [if_pos h]
theorem takeFirst_can (a b:Int) (w:World) (r:Bool) (h:can false a b=r) :
 Calls Tryz.prog 201 #[.int .i32 a,.int .i32 b] w fun e w'=>e=.returned (.bool r)∧w=w':=by
 have:=can_is false a b w r h
 simpa only [canF,Bool.false_eq_true,if_false] using this
set_option maxRecDepth 100000 in
theorem takeFirst (s:ByteArray) (w:World) (hm:s.size≤maxLen) (R:Nat × Nat) (hR:tnP false (bl s)=R) :
 Calls Tryz.prog 200 #[.string s,.func (.func 201) #[] #[]] w fun e w'=>e=tup32 R∧w=w':=by
 unfold maxLen at hm
 have C:=cutPrefix s ⟨#[92,117]⟩ w
 by_cases hp:Utf.pre (bl s)=0
 ·obtain⟨p1,p2⟩:=pre_yes s hp
  rw [p1] at C
  unfold tnP at hR
  rw [if_neg (by omega),← p2] at hR
  have hus:(⟨(Lib.trimPrefix s.data.toList (⟨#[92,117]⟩:ByteArray).data.toList).toArray⟩:ByteArray).size≤s.size:=by
   rw [← bl_length,p2,List.length_drop,bl_length];omega
  generalize (⟨(Lib.trimPrefix s.data.toList (⟨#[92,117]⟩:ByteArray).data.toList).toArray⟩:ByteArray)=u at *
  have H0:=hZ (show Utf.hxF false (4 - 0) 0 0 ((bl u).drop 0)=R from hR)
  clear hR p1 p2 hp
  go_enter Tryz.func200,Tryz.ntmps200
  go_wp2_with fail
  ((with_reducible refine C.mono ?_);rintro e w' ⟨rfl,hw'⟩;subst hw')
  go_wp2
  go_loop [8,9,22] (fun v q i=>∃ k n L Q:Nat,k≤4∧k≤u.size∧i=.int .i64 k∧v=.int .i32 L∧q=.int .i32 Q∧n < 16 ^ k∧Hid (L=n * 16 ^ (4 - k))∧Hid (Q=16 ^ (4 - k))∧Hid (J false k n)∧Hid (Utf.hxF false (4 - k) k n ((bl u).drop k)=R)) (fun _ _ i=>4 - (intOf i).toNat)
  case atStart=>exact⟨0,0,0,65536,by omega,by omega,rfl,rfl,rfl,by simp,hZ rfl,hZ rfl,hZ ⟨by simp,by simp⟩,H0⟩
  case round =>
   clear H0
   obtain⟨k,n,L,Q,hk,hku,rfl,rfl,rfl,hn,HL,HQ,HJ,HS⟩:=hrel
   have hn2:=pow_lt k n hk hn
   have hum:u.size≤9223372036854775807:=by omega
   by_cases hlt:k < 4
   ·have hlt':(k:Int) < 4:=by omega
    have hst:=HS.out
    rw [show 4 - k=3 - k+1 by omega,hx_step,bl_length] at hst
    by_cases hks:k < u.size
    ·rw [if_pos hks] at hst
     have hks':((k:Int) == (u.size:Int))=false:=by simp;omega
     have hx:=bl_at u k hks
     have hxb:=Utf.getD_byte (bl_byte u) k
     generalize (bl u).getD k 0=c at *
     have hdl:=Utf.dig_lt c
     have hcase:(k=0∧Q=65536∧16 ^ (3 - k)=4096) ∨ (k=1∧Q=4096∧16 ^ (3 - k)=256) ∨ (k=2∧Q=256∧16 ^ (3 - k)=16) ∨ (k=3∧Q=16∧16 ^ (3 - k)=1):=by
      rcases (show k=0 ∨ k=1 ∨ k=2 ∨ k=3 by omega) with e|e|e|e<;>subst e<;>have:=HQ.out<;>simp at this<;>simp [this]
     have hLe:=HL.out
     rw [show 4 - k=3 - k+1 by omega,Nat.pow_succ] at hLe
     have hLs:L < 65536:=by
      rcases hcase with ⟨e,_,e3⟩|⟨e,_,e3⟩|⟨e,_,e3⟩|⟨e,_,e3⟩<;>rw [e3] at hLe<;>rw [e] at hn<;>simp at hn<;>omega
     by_cases hd:Utf.dig c=16
     ·rw [if_pos hd] at hst
      have C2:=digit_no c w hd hxb
      have HR:=hZ hst
      have hQ1:0≤(Q:Int) / 16:=by omega
      have hQ2:(Q:Int) / 16≤4096:=by rcases hcase with ⟨_,e,_⟩|⟨_,e,_⟩|⟨_,e,_⟩|⟨_,e,_⟩<;>omega
      have hQ3:(Q:Int)≤65536:=by rcases hcase with ⟨_,e,_⟩|⟨_,e,_⟩|⟨_,e,_⟩|⟨_,e,_⟩<;>omega
      clear hst hdl hd hcase hLe
      go_wp2_with (go_at_call 204;refine C2.mono ?_;rintro e w' ⟨rfl,hw'⟩;subst hw')
      go_ret2
      exact⟨by rw [← HR.out];rfl,rfl⟩
     ·rw [if_neg hd] at hst
      have hdl2:=hdl hd
      have C2:=digit_yes c w hd hxb
      have hn3:16 * n+Utf.dig c < 16 ^ (k+1):=by rw [Nat.pow_succ];omega
      clear hdl hd
      generalize Utf.dig c=d at *
      have HN3:=hZ hn3
      have HLE:=hZ hLe
      have HST:=hZ hst
      have HNN:=hZ hn
      clear hn3 hLe hst hn
      rcases hcase with ⟨hk0,rfl,e3⟩|⟨hk0,rfl,e3⟩|⟨hk0,rfl,e3⟩|⟨hk0,rfl,e3⟩
      ·have hcb:=can_bad false k n d 4096 L (by omega) e3.symm hdl2 HNN.out (by rw [HLE.out,e3]<;>omega) HJ.out
       have HK:=hZ hk0
       have hLd:((L+d * 4096:Nat):Int)=(L:Int)+d * 4096:=by omega
       have HLD:=hZ hLd
       have E3:=hZ e3
       clear hk0 e3 hLd
       by_cases hb:Utf.bad false k (16 * n+d)=true
       ·have hst:=HST.out
        rw [if_pos hb] at hst
        rw [hb] at hcb
        have HR:=hZ hst
        have HCB:=hZ hcb
        clear hst hcb hb HS
        go_wp2_with fail
        ((with_reducible refine C2.mono ?_);rintro e w' ⟨rfl,hw'⟩;subst hw')
        go_wp2_with fail
        refine (takeFirst_can _ _ _ false (by simpa using HCB.out)).mono ?_
        rintro e w' ⟨rfl,hw'⟩
        subst hw'
        go_wp2
        go_ret2
        exact⟨by rw [← HR.out];rfl,rfl⟩
       ·have hst:=HST.out
        rw [if_neg hb] at hst
        have hb2:Utf.bad false k (16 * n+d)=false:=by simpa using hb
        rw [hb2] at hcb
        have HR:=hZ (show Utf.hxF false (4 - (k+1)) (k+1) (16 * n+d) ((bl u).drop (k+1))=R by rw [show 4 - (k+1)=3 - k by omega];exact hst)
        have HCB:=hZ hcb
        have HJ2:=hZ (J_step false k n d (by omega) hdl2 HJ.out hb2)
        have HL2:=hZ (show L+d * 4096=(16 * n+d) * 16 ^ (4 - (k+1)) by
         have:=HLE.out
         rw [show 4 - (k+1)=3 - k by omega,E3.out]
         rw [E3.out] at this
         omega)
        have HQ2:=hZ (show 4096=16 ^ (4 - (k+1)) by rw [show 4 - (k+1)=3 - k by omega,E3.out])
        clear hst hcb hb hb2 HS
        go_wp2_with fail
        ((with_reducible refine C2.mono ?_);rintro e w' ⟨rfl,hw'⟩;subst hw')
        go_wp2_with fail
        refine (takeFirst_can _ _ _ true (by simpa using HCB.out)).mono ?_
        rintro e w' ⟨rfl,hw'⟩
        subst hw'
        go_wp2
        go_round
        case rel=>exact⟨k+1,16 * n+d,L+d * 4096,4096,by omega,by omega,by go_num,by rw [HLD.out];try rw [Int.mul_one],rfl,HN3.out,HL2,HQ2,HJ2,HR⟩
        case measure=>simp [intOf];omega
      ·have hcb:=can_bad false k n d 256 L (by omega) e3.symm hdl2 HNN.out (by rw [HLE.out,e3]<;>omega) HJ.out
       have HK:=hZ hk0
       have hLd:((L+d * 256:Nat):Int)=(L:Int)+d * 256:=by omega
       have HLD:=hZ hLd
       have E3:=hZ e3
       clear hk0 e3 hLd
       by_cases hb:Utf.bad false k (16 * n+d)=true
       ·have hst:=HST.out
        rw [if_pos hb] at hst
        rw [hb] at hcb
        have HR:=hZ hst
        have HCB:=hZ hcb
        clear hst hcb hb HS
        go_wp2_with fail
        ((with_reducible refine C2.mono ?_);rintro e w' ⟨rfl,hw'⟩;subst hw')
        go_wp2_with fail
        refine (takeFirst_can _ _ _ false (by simpa using HCB.out)).mono ?_
        rintro e w' ⟨rfl,hw'⟩
        subst hw'
        go_wp2
        go_ret2
        exact⟨by rw [← HR.out];rfl,rfl⟩
       ·have hst:=HST.out
        rw [if_neg hb] at hst
        have hb2:Utf.bad false k (16 * n+d)=false:=by simpa using hb
        rw [hb2] at hcb
        have HR:=hZ (show Utf.hxF false (4 - (k+1)) (k+1) (16 * n+d) ((bl u).drop (k+1))=R by rw [show 4 - (k+1)=3 - k by omega];exact hst)
        have HCB:=hZ hcb
        have HJ2:=hZ (J_step false k n d (by omega) hdl2 HJ.out hb2)
        have HL2:=hZ (show L+d * 256=(16 * n+d) * 16 ^ (4 - (k+1)) by
         have:=HLE.out
         rw [show 4 - (k+1)=3 - k by omega,E3.out]
         rw [E3.out] at this
         omega)
        have HQ2:=hZ (show 256=16 ^ (4 - (k+1)) by rw [show 4 - (k+1)=3 - k by omega,E3.out])
        clear hst hcb hb hb2 HS
        go_wp2_with fail
        ((with_reducible refine C2.mono ?_);rintro e w' ⟨rfl,hw'⟩;subst hw')
        go_wp2_with fail
        refine (takeFirst_can _ _ _ true (by simpa using HCB.out)).mono ?_
        rintro e w' ⟨rfl,hw'⟩
        subst hw'
        go_wp2
        go_round
        case rel=>exact⟨k+1,16 * n+d,L+d * 256,256,by omega,by omega,by go_num,by rw [HLD.out];try rw [Int.mul_one],rfl,HN3.out,HL2,HQ2,HJ2,HR⟩
        case measure=>simp [intOf];omega
      ·have hcb:=can_bad false k n d 16 L (by omega) e3.symm hdl2 HNN.out (by rw [HLE.out,e3]<;>omega) HJ.out
       have HK:=hZ hk0
       have hLd:((L+d * 16:Nat):Int)=(L:Int)+d * 16:=by omega
       have HLD:=hZ hLd
       have E3:=hZ e3
       clear hk0 e3 hLd
       by_cases hb:Utf.bad false k (16 * n+d)=true
       ·have hst:=HST.out
        rw [if_pos hb] at hst
        rw [hb] at hcb
        have HR:=hZ hst
        have HCB:=hZ hcb
        clear hst hcb hb HS
        go_wp2_with fail
        ((with_reducible refine C2.mono ?_);rintro e w' ⟨rfl,hw'⟩;subst hw')
        go_wp2_with fail
        refine (takeFirst_can _ _ _ false (by simpa using HCB.out)).mono ?_
        rintro e w' ⟨rfl,hw'⟩
        subst hw'
        go_wp2
        go_ret2
        exact⟨by rw [← HR.out];rfl,rfl⟩
       ·have hst:=HST.out
        rw [if_neg hb] at hst
        have hb2:Utf.bad false k (16 * n+d)=false:=by simpa using hb
        rw [hb2] at hcb
        have HR:=hZ (show Utf.hxF false (4 - (k+1)) (k+1) (16 * n+d) ((bl u).drop (k+1))=R by rw [show 4 - (k+1)=3 - k by omega];exact hst)
        have HCB:=hZ hcb
        have HJ2:=hZ (J_step false k n d (by omega) hdl2 HJ.out hb2)
        have HL2:=hZ (show L+d * 16=(16 * n+d) * 16 ^ (4 - (k+1)) by
         have:=HLE.out
         rw [show 4 - (k+1)=3 - k by omega,E3.out]
         rw [E3.out] at this
         omega)
        have HQ2:=hZ (show 16=16 ^ (4 - (k+1)) by rw [show 4 - (k+1)=3 - k by omega,E3.out])
        clear hst hcb hb hb2 HS
        go_wp2_with fail
        ((with_reducible refine C2.mono ?_);rintro e w' ⟨rfl,hw'⟩;subst hw')
        go_wp2_with fail
        refine (takeFirst_can _ _ _ true (by simpa using HCB.out)).mono ?_
        rintro e w' ⟨rfl,hw'⟩
        subst hw'
        go_wp2
        go_round
        case rel=>exact⟨k+1,16 * n+d,L+d * 16,16,by omega,by omega,by go_num,by rw [HLD.out];try rw [Int.mul_one],rfl,HN3.out,HL2,HQ2,HJ2,HR⟩
        case measure=>simp [intOf];omega
      ·have hcb:=can_bad false k n d 1 L (by omega) e3.symm hdl2 HNN.out (by rw [HLE.out,e3]<;>omega) HJ.out
       have HK:=hZ hk0
       have hLd:((L+d * 1:Nat):Int)=(L:Int)+d * 1:=by omega
       have HLD:=hZ hLd
       have E3:=hZ e3
       clear hk0 e3 hLd
       by_cases hb:Utf.bad false k (16 * n+d)=true
       ·have hst:=HST.out
        rw [if_pos hb] at hst
        rw [hb] at hcb
        have HR:=hZ hst
        have HCB:=hZ hcb
        clear hst hcb hb HS
        go_wp2_with fail
        ((with_reducible refine C2.mono ?_);rintro e w' ⟨rfl,hw'⟩;subst hw')
        go_wp2_with fail
        refine (takeFirst_can _ _ _ false (by simpa using HCB.out)).mono ?_
        rintro e w' ⟨rfl,hw'⟩
        subst hw'
        go_wp2
        go_ret2
        exact⟨by rw [← HR.out];rfl,rfl⟩
       ·have hst:=HST.out
        rw [if_neg hb] at hst
        have hb2:Utf.bad false k (16 * n+d)=false:=by simpa using hb
        rw [hb2] at hcb
        have HR:=hZ (show Utf.hxF false (4 - (k+1)) (k+1) (16 * n+d) ((bl u).drop (k+1))=R by rw [show 4 - (k+1)=3 - k by omega];exact hst)
        have HCB:=hZ hcb
        have HJ2:=hZ (J_step false k n d (by omega) hdl2 HJ.out hb2)
        have HL2:=hZ (show L+d * 1=(16 * n+d) * 16 ^ (4 - (k+1)) by
         have:=HLE.out
         rw [show 4 - (k+1)=3 - k by omega,E3.out]
         rw [E3.out] at this
         omega)
        have HQ2:=hZ (show 1=16 ^ (4 - (k+1)) by rw [show 4 - (k+1)=3 - k by omega,E3.out])
        clear hst hcb hb hb2 HS
        go_wp2_with fail
        ((with_reducible refine C2.mono ?_);rintro e w' ⟨rfl,hw'⟩;subst hw')
        go_wp2_with fail
        refine (takeFirst_can _ _ _ true (by simpa using HCB.out)).mono ?_
        rintro e w' ⟨rfl,hw'⟩
        subst hw'
        go_wp2
        go_round
        case rel=>exact⟨k+1,16 * n+d,L+d * 1,1,by omega,by omega,by go_num,by rw [HLD.out];try rw [Int.mul_one],rfl,HN3.out,HL2,HQ2,HJ2,HR⟩
        case measure=>simp [intOf];omega
    ·rw [if_neg hks] at hst
     have hks':((k:Int) == (u.size:Int))=true:=by simp;omega
     have HR:=hZ hst
     clear hst
     go_wp2
     go_ret2
     exact⟨by rw [← HR.out];rfl,rfl⟩
   ·have hlt':¬ ((k:Int) < 4):=by omega
    have h4:=HS.out
    rw [show 4 - k=0 by omega,Utf.hxF] at h4
    have h5:=HL.out
    rw [show 4 - k=0 by omega,Nat.pow_zero,Nat.mul_one] at h5
    subst h5
    have HR:=hZ h4
    clear h4
    go_wp2
    go_ret2
    exact⟨by rw [← HR.out];rfl,rfl⟩
 ·obtain⟨p1,p2⟩:=pre_no s hp
  rw [p1] at C
  rw [tnP_no _ _ hp] at hR
  have C2:=hasPrefix ⟨#[92,117]⟩ s w
  rcases p2 with ⟨e1,e2⟩|⟨e1,e2⟩
  all_goals
   rw [e2] at C2
   rw [e1] at hR
   have HR:=hZ hR
   clear hR hp p1 e1 e2
   generalize (⟨(Lib.trimPrefix s.data.toList (⟨#[92,117]⟩:ByteArray).data.toList).toArray⟩:ByteArray)=u at *
   go_enter Tryz.func200,Tryz.ntmps200
   go_wp2_with fail
   ((with_reducible refine C.mono ?_);rintro e w' ⟨rfl,hw'⟩;subst hw')
   go_wp2_with fail
   ((with_reducible refine C2.mono ?_);rintro e w' ⟨rfl,hw'⟩;subst hw')
   go_wp2
   go_ret2
   exact⟨by rw [← HR.out];rfl,rfl⟩
theorem takeSecond_can (a b:Int) (w:World) (r:Bool) (h:can true a b=r) :
 Calls Tryz.prog 202 #[.int .i32 a,.int .i32 b] w fun e w'=>e=.returned (.bool r)∧w=w':=by
 have:=can_is true a b w r h
 simpa only [canF,if_true] using this
set_option maxRecDepth 100000 in
theorem takeSecond (s:ByteArray) (w:World) (hm:s.size≤maxLen) (R:Nat × Nat) (hR:tnP true (bl s)=R) :
 Calls Tryz.prog 200 #[.string s,.func (.func 202) #[] #[]] w fun e w'=>e=tup32 R∧w=w':=by
 unfold maxLen at hm
 have C:=cutPrefix s ⟨#[92,117]⟩ w
 by_cases hp:Utf.pre (bl s)=0
 ·obtain⟨p1,p2⟩:=pre_yes s hp
  rw [p1] at C
  unfold tnP at hR
  rw [if_neg (by omega),← p2] at hR
  have hus:(⟨(Lib.trimPrefix s.data.toList (⟨#[92,117]⟩:ByteArray).data.toList).toArray⟩:ByteArray).size≤s.size:=by
   rw [← bl_length,p2,List.length_drop,bl_length];omega
  generalize (⟨(Lib.trimPrefix s.data.toList (⟨#[92,117]⟩:ByteArray).data.toList).toArray⟩:ByteArray)=u at *
  have H0:=hZ (show Utf.hxF true (4 - 0) 0 0 ((bl u).drop 0)=R from hR)
  clear hR p1 p2 hp
  go_enter Tryz.func200,Tryz.ntmps200
  go_wp2_with fail
  ((with_reducible refine C.mono ?_);rintro e w' ⟨rfl,hw'⟩;subst hw')
  go_wp2
  go_loop [8,9,22] (fun v q i=>∃ k n L Q:Nat,k≤4∧k≤u.size∧i=.int .i64 k∧v=.int .i32 L∧q=.int .i32 Q∧n < 16 ^ k∧Hid (L=n * 16 ^ (4 - k))∧Hid (Q=16 ^ (4 - k))∧Hid (J true k n)∧Hid (Utf.hxF true (4 - k) k n ((bl u).drop k)=R)) (fun _ _ i=>4 - (intOf i).toNat)
  case atStart=>exact⟨0,0,0,65536,by omega,by omega,rfl,rfl,rfl,by simp,hZ rfl,hZ rfl,hZ ⟨by simp,by simp⟩,H0⟩
  case round =>
   clear H0
   obtain⟨k,n,L,Q,hk,hku,rfl,rfl,rfl,hn,HL,HQ,HJ,HS⟩:=hrel
   have hn2:=pow_lt k n hk hn
   have hum:u.size≤9223372036854775807:=by omega
   by_cases hlt:k < 4
   ·have hlt':(k:Int) < 4:=by omega
    have hst:=HS.out
    rw [show 4 - k=3 - k+1 by omega,hx_step,bl_length] at hst
    by_cases hks:k < u.size
    ·rw [if_pos hks] at hst
     have hks':((k:Int) == (u.size:Int))=false:=by simp;omega
     have hx:=bl_at u k hks
     have hxb:=Utf.getD_byte (bl_byte u) k
     generalize (bl u).getD k 0=c at *
     have hdl:=Utf.dig_lt c
     have hcase:(k=0∧Q=65536∧16 ^ (3 - k)=4096) ∨ (k=1∧Q=4096∧16 ^ (3 - k)=256) ∨ (k=2∧Q=256∧16 ^ (3 - k)=16) ∨ (k=3∧Q=16∧16 ^ (3 - k)=1):=by
      rcases (show k=0 ∨ k=1 ∨ k=2 ∨ k=3 by omega) with e|e|e|e<;>subst e<;>have:=HQ.out<;>simp at this<;>simp [this]
     have hLe:=HL.out
     rw [show 4 - k=3 - k+1 by omega,Nat.pow_succ] at hLe
     have hLs:L < 65536:=by
      rcases hcase with ⟨e,_,e3⟩|⟨e,_,e3⟩|⟨e,_,e3⟩|⟨e,_,e3⟩<;>rw [e3] at hLe<;>rw [e] at hn<;>simp at hn<;>omega
     by_cases hd:Utf.dig c=16
     ·rw [if_pos hd] at hst
      have C2:=digit_no c w hd hxb
      have HR:=hZ hst
      have hQ1:0≤(Q:Int) / 16:=by omega
      have hQ2:(Q:Int) / 16≤4096:=by rcases hcase with ⟨_,e,_⟩|⟨_,e,_⟩|⟨_,e,_⟩|⟨_,e,_⟩<;>omega
      have hQ3:(Q:Int)≤65536:=by rcases hcase with ⟨_,e,_⟩|⟨_,e,_⟩|⟨_,e,_⟩|⟨_,e,_⟩<;>omega
      clear hst hdl hd hcase hLe
      go_wp2_with (go_at_call 204;refine C2.mono ?_;rintro e w' ⟨rfl,hw'⟩;subst hw')
      go_ret2
      exact⟨by rw [← HR.out];rfl,rfl⟩
     ·rw [if_neg hd] at hst
      have hdl2:=hdl hd
      have C2:=digit_yes c w hd hxb
      have hn3:16 * n+Utf.dig c < 16 ^ (k+1):=by rw [Nat.pow_succ];omega
      clear hdl hd
      generalize Utf.dig c=d at *
      have HN3:=hZ hn3
      have HLE:=hZ hLe
      have HST:=hZ hst
      have HNN:=hZ hn
      clear hn3 hLe hst hn
      rcases hcase with ⟨hk0,rfl,e3⟩|⟨hk0,rfl,e3⟩|⟨hk0,rfl,e3⟩|⟨hk0,rfl,e3⟩
      ·have hcb:=can_bad true k n d 4096 L (by omega) e3.symm hdl2 HNN.out (by rw [HLE.out,e3]<;>omega) HJ.out
       have HK:=hZ hk0
       have hLd:((L+d * 4096:Nat):Int)=(L:Int)+d * 4096:=by omega
       have HLD:=hZ hLd
       have E3:=hZ e3
       clear hk0 e3 hLd
       by_cases hb:Utf.bad true k (16 * n+d)=true
       ·have hst:=HST.out
        rw [if_pos hb] at hst
        rw [hb] at hcb
        have HR:=hZ hst
        have HCB:=hZ hcb
        clear hst hcb hb HS
        go_wp2_with fail
        ((with_reducible refine C2.mono ?_);rintro e w' ⟨rfl,hw'⟩;subst hw')
        go_wp2_with fail
        refine (takeSecond_can _ _ _ false (by simpa using HCB.out)).mono ?_
        rintro e w' ⟨rfl,hw'⟩
        subst hw'
        go_wp2
        go_ret2
        exact⟨by rw [← HR.out];rfl,rfl⟩
       ·have hst:=HST.out
        rw [if_neg hb] at hst
        have hb2:Utf.bad true k (16 * n+d)=false:=by simpa using hb
        rw [hb2] at hcb
        have HR:=hZ (show Utf.hxF true (4 - (k+1)) (k+1) (16 * n+d) ((bl u).drop (k+1))=R by rw [show 4 - (k+1)=3 - k by omega];exact hst)
        have HCB:=hZ hcb
        have HJ2:=hZ (J_step true k n d (by omega) hdl2 HJ.out hb2)
        have HL2:=hZ (show L+d * 4096=(16 * n+d) * 16 ^ (4 - (k+1)) by
         have:=HLE.out
         rw [show 4 - (k+1)=3 - k by omega,E3.out]
         rw [E3.out] at this
         omega)
        have HQ2:=hZ (show 4096=16 ^ (4 - (k+1)) by rw [show 4 - (k+1)=3 - k by omega,E3.out])
        clear hst hcb hb hb2 HS
        go_wp2_with fail
        ((with_reducible refine C2.mono ?_);rintro e w' ⟨rfl,hw'⟩;subst hw')
        go_wp2_with fail
        refine (takeSecond_can _ _ _ true (by simpa using HCB.out)).mono ?_
        rintro e w' ⟨rfl,hw'⟩
        subst hw'
        go_wp2
        go_round
        case rel=>exact⟨k+1,16 * n+d,L+d * 4096,4096,by omega,by omega,by go_num,by rw [HLD.out];try rw [Int.mul_one],rfl,HN3.out,HL2,HQ2,HJ2,HR⟩
        case measure=>simp [intOf];omega
      ·have hcb:=can_bad true k n d 256 L (by omega) e3.symm hdl2 HNN.out (by rw [HLE.out,e3]<;>omega) HJ.out
       have HK:=hZ hk0
       have hLd:((L+d * 256:Nat):Int)=(L:Int)+d * 256:=by omega
       have HLD:=hZ hLd
       have E3:=hZ e3
       clear hk0 e3 hLd
       by_cases hb:Utf.bad true k (16 * n+d)=true
       ·have hst:=HST.out
        rw [if_pos hb] at hst
        rw [hb] at hcb
        have HR:=hZ hst
        have HCB:=hZ hcb
        clear hst hcb hb HS
        go_wp2_with fail
        ((with_reducible refine C2.mono ?_);rintro e w' ⟨rfl,hw'⟩;subst hw')
        go_wp2_with fail
        refine (takeSecond_can _ _ _ false (by simpa using HCB.out)).mono ?_
        rintro e w' ⟨rfl,hw'⟩
        subst hw'
        go_wp2
        go_ret2
        exact⟨by rw [← HR.out];rfl,rfl⟩
       ·have hst:=HST.out
        rw [if_neg hb] at hst
        have hb2:Utf.bad true k (16 * n+d)=false:=by simpa using hb
        rw [hb2] at hcb
        have HR:=hZ (show Utf.hxF true (4 - (k+1)) (k+1) (16 * n+d) ((bl u).drop (k+1))=R by rw [show 4 - (k+1)=3 - k by omega];exact hst)
        have HCB:=hZ hcb
        have HJ2:=hZ (J_step true k n d (by omega) hdl2 HJ.out hb2)
        have HL2:=hZ (show L+d * 256=(16 * n+d) * 16 ^ (4 - (k+1)) by
         have:=HLE.out
         rw [show 4 - (k+1)=3 - k by omega,E3.out]
         rw [E3.out] at this
         omega)
        have HQ2:=hZ (show 256=16 ^ (4 - (k+1)) by rw [show 4 - (k+1)=3 - k by omega,E3.out])
        clear hst hcb hb hb2 HS
        go_wp2_with fail
        ((with_reducible refine C2.mono ?_);rintro e w' ⟨rfl,hw'⟩;subst hw')
        go_wp2_with fail
        refine (takeSecond_can _ _ _ true (by simpa using HCB.out)).mono ?_
        rintro e w' ⟨rfl,hw'⟩
        subst hw'
        go_wp2
        go_round
        case rel=>exact⟨k+1,16 * n+d,L+d * 256,256,by omega,by omega,by go_num,by rw [HLD.out];try rw [Int.mul_one],rfl,HN3.out,HL2,HQ2,HJ2,HR⟩
        case measure=>simp [intOf];omega
      ·have hcb:=can_bad true k n d 16 L (by omega) e3.symm hdl2 HNN.out (by rw [HLE.out,e3]<;>omega) HJ.out
       have HK:=hZ hk0
       have hLd:((L+d * 16:Nat):Int)=(L:Int)+d * 16:=by omega
       have HLD:=hZ hLd
       have E3:=hZ e3
       clear hk0 e3 hLd
       by_cases hb:Utf.bad true k (16 * n+d)=true
       ·have hst:=HST.out
        rw [if_pos hb] at hst
        rw [hb] at hcb
        have HR:=hZ hst
        have HCB:=hZ hcb
        clear hst hcb hb HS
        go_wp2_with fail
        ((with_reducible refine C2.mono ?_);rintro e w' ⟨rfl,hw'⟩;subst hw')
        go_wp2_with fail
        refine (takeSecond_can _ _ _ false (by simpa using HCB.out)).mono ?_
        rintro e w' ⟨rfl,hw'⟩
        subst hw'
        go_wp2
        go_ret2
        exact⟨by rw [← HR.out];rfl,rfl⟩
       ·have hst:=HST.out
        rw [if_neg hb] at hst
        have hb2:Utf.bad true k (16 * n+d)=false:=by simpa using hb
        rw [hb2] at hcb
        have HR:=hZ (show Utf.hxF true (4 - (k+1)) (k+1) (16 * n+d) ((bl u).drop (k+1))=R by rw [show 4 - (k+1)=3 - k by omega];exact hst)
        have HCB:=hZ hcb
        have HJ2:=hZ (J_step true k n d (by omega) hdl2 HJ.out hb2)
        have HL2:=hZ (show L+d * 16=(16 * n+d) * 16 ^ (4 - (k+1)) by
         have:=HLE.out
         rw [show 4 - (k+1)=3 - k by omega,E3.out]
         rw [E3.out] at this
         omega)
        have HQ2:=hZ (show 16=16 ^ (4 - (k+1)) by rw [show 4 - (k+1)=3 - k by omega,E3.out])
        clear hst hcb hb hb2 HS
        go_wp2_with fail
        ((with_reducible refine C2.mono ?_);rintro e w' ⟨rfl,hw'⟩;subst hw')
        go_wp2_with fail
        refine (takeSecond_can _ _ _ true (by simpa using HCB.out)).mono ?_
        rintro e w' ⟨rfl,hw'⟩
        subst hw'
        go_wp2
        go_round
        case rel=>exact⟨k+1,16 * n+d,L+d * 16,16,by omega,by omega,by go_num,by rw [HLD.out];try rw [Int.mul_one],rfl,HN3.out,HL2,HQ2,HJ2,HR⟩
        case measure=>simp [intOf];omega
      ·have hcb:=can_bad true k n d 1 L (by omega) e3.symm hdl2 HNN.out (by rw [HLE.out,e3]<;>omega) HJ.out
       have HK:=hZ hk0
       have hLd:((L+d * 1:Nat):Int)=(L:Int)+d * 1:=by omega
       have HLD:=hZ hLd
       have E3:=hZ e3
       clear hk0 e3 hLd
       by_cases hb:Utf.bad true k (16 * n+d)=true
       ·have hst:=HST.out
        rw [if_pos hb] at hst
        rw [hb] at hcb
        have HR:=hZ hst
        have HCB:=hZ hcb
        clear hst hcb hb HS
        go_wp2_with fail
        ((with_reducible refine C2.mono ?_);rintro e w' ⟨rfl,hw'⟩;subst hw')
        go_wp2_with fail
        refine (takeSecond_can _ _ _ false (by simpa using HCB.out)).mono ?_
        rintro e w' ⟨rfl,hw'⟩
        subst hw'
        go_wp2
        go_ret2
        exact⟨by rw [← HR.out];rfl,rfl⟩
       ·have hst:=HST.out
        rw [if_neg hb] at hst
        have hb2:Utf.bad true k (16 * n+d)=false:=by simpa using hb
        rw [hb2] at hcb
        have HR:=hZ (show Utf.hxF true (4 - (k+1)) (k+1) (16 * n+d) ((bl u).drop (k+1))=R by rw [show 4 - (k+1)=3 - k by omega];exact hst)
        have HCB:=hZ hcb
        have HJ2:=hZ (J_step true k n d (by omega) hdl2 HJ.out hb2)
        have HL2:=hZ (show L+d * 1=(16 * n+d) * 16 ^ (4 - (k+1)) by
         have:=HLE.out
         rw [show 4 - (k+1)=3 - k by omega,E3.out]
         rw [E3.out] at this
         omega)
        have HQ2:=hZ (show 1=16 ^ (4 - (k+1)) by rw [show 4 - (k+1)=3 - k by omega,E3.out])
        clear hst hcb hb hb2 HS
        go_wp2_with fail
        ((with_reducible refine C2.mono ?_);rintro e w' ⟨rfl,hw'⟩;subst hw')
        go_wp2_with fail
        refine (takeSecond_can _ _ _ true (by simpa using HCB.out)).mono ?_
        rintro e w' ⟨rfl,hw'⟩
        subst hw'
        go_wp2
        go_round
        case rel=>exact⟨k+1,16 * n+d,L+d * 1,1,by omega,by omega,by go_num,by rw [HLD.out];try rw [Int.mul_one],rfl,HN3.out,HL2,HQ2,HJ2,HR⟩
        case measure=>simp [intOf];omega
    ·rw [if_neg hks] at hst
     have hks':((k:Int) == (u.size:Int))=true:=by simp;omega
     have HR:=hZ hst
     clear hst
     go_wp2
     go_ret2
     exact⟨by rw [← HR.out];rfl,rfl⟩
   ·have hlt':¬ ((k:Int) < 4):=by omega
    have h4:=HS.out
    rw [show 4 - k=0 by omega,Utf.hxF] at h4
    have h5:=HL.out
    rw [show 4 - k=0 by omega,Nat.pow_zero,Nat.mul_one] at h5
    subst h5
    have HR:=hZ h4
    clear h4
    go_wp2
    go_ret2
    exact⟨by rw [← HR.out];rfl,rfl⟩
 ·obtain⟨p1,p2⟩:=pre_no s hp
  rw [p1] at C
  rw [tnP_no _ _ hp] at hR
  have C2:=hasPrefix ⟨#[92,117]⟩ s w
  rcases p2 with ⟨e1,e2⟩|⟨e1,e2⟩
  all_goals
   rw [e2] at C2
   rw [e1] at hR
   have HR:=hZ hR
   clear hR hp p1 e1 e2
   generalize (⟨(Lib.trimPrefix s.data.toList (⟨#[92,117]⟩:ByteArray).data.toList).toArray⟩:ByteArray)=u at *
   go_enter Tryz.func200,Tryz.ntmps200
   go_wp2_with fail
   ((with_reducible refine C.mono ?_);rintro e w' ⟨rfl,hw'⟩;subst hw')
   go_wp2_with fail
   ((with_reducible refine C2.mono ?_);rintro e w' ⟨rfl,hw'⟩;subst hw')
   go_wp2
   go_ret2
   exact⟨by rw [← HR.out];rfl,rfl⟩
theorem takeFirstE (s:ByteArray) (w:World) (hm:s.size≤maxLen) (v e:Nat) (hR:tnP false (bl s)=(v,e)) :
 Calls Tryz.prog 200 #[.string s,.func (.func 201) #[] #[]] w fun x w'=>x=.returned (.tuple #[.int .i32 (v:Nat),.int .i64 (e:Nat)])∧w=w' :=
 (takeFirst s w hm _ hR).mono fun _ _ ⟨h,k⟩=>⟨h,k⟩
theorem takeSecondE (s:ByteArray) (w:World) (hm:s.size≤maxLen) (v e:Nat) (hR:tnP true (bl s)=(v,e)) :
 Calls Tryz.prog 200 #[.string s,.func (.func 202) #[] #[]] w fun x w'=>x=.returned (.tuple #[.int .i32 (v:Nat),.int .i64 (e:Nat)])∧w=w' :=
 (takeSecond s w hm _ hR).mono fun _ _ ⟨h,k⟩=>⟨h,k⟩
def trip (r n e:Nat):Ending:=.returned (.tuple #[.int .i32 (r:Nat),.int .i64 (n:Nat),.int .i64 (e:Nat)])
theorem tnP_yes (second:Bool) (l:List Nat) (h:Utf.pre l=0):tnP second l=Utf.hx second (l.drop 2):=by unfold tnP;rw [if_neg (by omega)]
theorem pre_iff (l:List Nat) (h2:2≤l.length) (h0:l.getD 0 0=92):Utf.pre l=0↔l.getD 1 0=117:=by
 unfold Utf.pre
 rw [if_neg (by omega),if_neg (by omega),if_neg (by omega)]
 by_cases h:l.getD 1 0=117
 ·rw [if_neg (by omega)];exact⟨fun _=>h,fun _=>rfl⟩
 ·rw [if_pos h];exact⟨fun e=>by omega,fun e=>absurd e h⟩
theorem pre_117 (l:List Nat) (h:Utf.pre l=0):2≤l.length∧l.getD 0 0=92∧l.getD 1 0=117:=by
 have:=Utf.pre_good l h
 unfold Utf.pre at h
 repeat' split at h
 all_goals omega
set_option maxRecDepth 100000 in
theorem takeNumbered (s:ByteArray) (w:World) (hm:s.size≤maxLen) (hp:Utf.pre (bl s)=0) (r n e:Nat) (hR:Utf.esc (bl s)=(r,n,e)) :
 Calls Tryz.prog 197 #[.string s] w fun x w'=>x=trip r n e∧w=w':=by
 obtain⟨q1,q2,q3⟩:=pre_117 _ hp
 have hf:=tnP_yes false (bl s) hp
 unfold Utf.esc at hR
 rw [if_neg (by omega),if_pos q3] at hR
 obtain⟨⟨a,f⟩,ha⟩:∃ p,Utf.hx false ((bl s).drop 2)=p:=⟨_,rfl⟩
 rw [ha] at hf hR
 have C1:=takeFirstE s w hm a f hf
 have hfirst:=Utf.hx_first ((bl s).drop 2)
 have hlen:=Utf.hx_len false ((bl s).drop 2)
 rw [ha] at hfirst hlen
 rw [List.length_drop,bl_length] at hlen
 simp only at hR hfirst hlen
 by_cases h1:f≠0
 ·rw [if_pos h1] at hR
  have HR:=hZ hR
  have d1:((f:Int) != 0)=true:=by simp;omega
  have d2:((f:Int) == 0)=false:=by simp;omega
  clear hR hfirst hlen h1 ha hf hp q1 q2 q3
  go_enter Tryz.func197,Tryz.ntmps197
  go_wp2_with fail
  ((with_reducible refine C1.mono ?_);rintro x w' ⟨rfl,rfl⟩)
  go_wp2
  go_ret3
  have:=HR.out
  simp only [Prod.mk.injEq] at this
  obtain⟨rfl,rfl,rfl⟩:=this
  exact⟨rfl,rfl⟩
 ·rw [if_neg h1] at hR
  obtain rfl:f=0:=by omega
  have k1:=hfirst rfl
  obtain⟨k2,k3⟩:=hlen rfl
  clear hfirst hlen h1 hf
  by_cases h2:a < 55296 ∨ 56319 < a
  ·rw [if_pos h2] at hR
   have HR:=hZ hR
   have hA:=hZ ha
   have k3':(a:Int) < 65536:=by omega
   rcases (show (a:Int) < 55296 ∨ (57344:Int)≤a by omega) with h3|h3
   all_goals
    clear hR hp q1 q2 q3 h2 k1 ha k2 k3
    generalize hx:(a:Int)=x at *
    have HX:=hZ hx
    clear hx
    go_enter Tryz.func197,Tryz.ntmps197
    go_wp2_with fail
    ((with_reducible refine C1.mono ?_);rintro x w' ⟨rfl,rfl⟩)
    go_wp2
    go_ret3
    have:=HR.out
    simp only [Prod.mk.injEq] at this
    obtain⟨rfl,rfl,rfl⟩:=this
    refine⟨?_,rfl⟩
    unfold trip
    rw [HX.out]
    rfl
  ·rw [if_neg h2] at hR
   have h3:¬ ((a:Int) < 55296):=by omega
   have h4:¬ ((57344:Int)≤a):=by omega
   have h6:(6:Int)≤s.size:=by omega
   have hu:=bl_from s 6
   have hus:(s.extract 6 s.size).size≤maxLen:=by rw [ByteArray.size_extract];omega
   have hs2:tnP true (bl (s.extract 6 s.size))=if Utf.pre ((bl s).drop 6)≠0 then (0,Utf.pre ((bl s).drop 6)) else Utf.hx true ((bl s).drop 8):=by
    rw [hu];unfold tnP;rw [List.drop_drop]
   obtain⟨⟨b,g⟩,hb⟩:∃ p,tnP true (bl (s.extract 6 s.size))=p:=⟨_,rfl⟩
   have C2:=takeSecondE (s.extract 6 s.size) w hus b g hb
   rw [hb] at hs2
   have hA:=hZ ha
   have hres:(g≠0∧(r,n,e)=(0,0,g)) ∨ (g=0∧56320≤b∧b≤57343∧(r,n,e)=(65536+1024 * (a - 55296)+(b - 56320),12,0)):=by
    by_cases h5:Utf.pre ((bl s).drop 6)≠0
    ·rw [if_pos h5] at hR hs2
     simp only [Prod.mk.injEq] at hs2
     obtain⟨_,rfl⟩:=hs2
     exact .inl ⟨h5,hR.symm⟩
    ·rw [if_neg h5] at hR hs2
     have hsec:=Utf.hx_second ((bl s).drop 8)
     rw [← hs2] at hR hsec
     simp only at hR hsec
     by_cases h7:g≠0
     ·rw [if_pos h7] at hR
      exact .inl ⟨h7,hR.symm⟩
     ·rw [if_neg h7] at hR
      have:=hsec (by omega)
      exact .inr ⟨by omega,this.1,this.2,hR.symm⟩
   have HH:=hZ hres
   clear hR hs2 hb hu hp q1 q2 q3 h2 ha
   rcases HH.out with ⟨g1,g2⟩|⟨g1,g2,g3,g4⟩
   ·have d1:((g:Int) != 0)=true:=by simp;omega
    have d2:((g:Int) == 0)=false:=by simp;omega
    have HR:=hZ g2
    clear g1 g2 hres k1 k2 k3
    generalize (a:Int)=x at *
    generalize (b:Int)=y at *
    go_enter Tryz.func197,Tryz.ntmps197
    go_wp2_with fail
    ((with_reducible refine C1.mono ?_);rintro x w' ⟨rfl,rfl⟩)
    go_wp2_with fail
    ((with_reducible refine C2.mono ?_);rintro x w' ⟨rfl,rfl⟩)
    go_wp2
    go_ret3
    have:=HR.out
    simp only [Prod.mk.injEq] at this
    obtain⟨rfl,rfl,rfl⟩:=this
    exact⟨rfl,rfl⟩
   ·subst g1
    have HR:=hZ g4
    have a1:(55296:Int)≤a:=by omega
    have a2:(a:Int)≤56319:=by omega
    have b1:(56320:Int)≤b:=by omega
    have b2:(b:Int)≤57343:=by omega
    have HV:=hZ (show ((65536+1024 * (a - 55296)+(b - 56320):Nat):Int)=65536+((a:Int) - 55296) * 1024+((b:Int) - 56320) by omega)
    clear g4 hres k1 k3 k2 g2 g3
    generalize (a:Int)=x at *
    generalize (b:Int)=y at *
    go_enter Tryz.func197,Tryz.ntmps197
    go_wp2_with fail
    ((with_reducible refine C1.mono ?_);rintro x w' ⟨rfl,rfl⟩)
    go_wp2_with fail
    ((with_reducible refine C2.mono ?_);rintro x w' ⟨rfl,rfl⟩)
    go_wp2
    go_ret3
    have:=HR.out
    simp only [Prod.mk.injEq] at this
    obtain⟨e1,e2,e3⟩:=this
    refine⟨?_,rfl⟩
    unfold trip
    rw [e1,e2,e3,HV.out]
    rfl
def escL:List (Nat × Nat):=[(34,34),(92,92),(98,8),(102,12),(110,10),(114,13),(116,9),(47,47)]
theorem lk_esc (c:Nat):lk escL c=if Utf.said c=0 then none else some (Utf.said c):=by
 unfold Utf.said
 repeat' split
 all_goals simp_all [escL,lk]
 all_goals omega
set_option maxRecDepth 100000 in
theorem takeEscape (s:ByteArray) (m:Nat) (w:World) (hM:IsMap w m escL) (hm:s.size≤maxLen) (h0:0 < s.size) (h92:(bl s).getD 0 0=92) (r n e:Nat) (hR:Utf.esc (bl s)=(r,n,e)) :
 Calls Tryz.prog 183 #[.string s,.map (some m)] w fun x w'=>x=trip r n e∧w=w':=by
 have hm2:=hm
 unfold maxLen at hm2
 by_cases h1:s.size=1
 ·have hR2:=hR
  unfold Utf.esc at hR2
  rw [bl_length,if_pos (by omega)] at hR2
  have HR:=hZ hR2
  have d1:((s.size:Int) == 1)=true:=by simp;omega
  clear hR hR2 h1 h92 hM
  go_enter Tryz.func183,Tryz.ntmps183
  go_wp2
  go_ret3
  have:=HR.out
  simp only [Prod.mk.injEq] at this
  obtain⟨rfl,rfl,rfl⟩:=this
  exact⟨rfl,rfl⟩
 ·have hlt1:1 < s.size:=by omega
  have d1:((s.size:Int) == 1)=false:=by rw [beq_eq_false_iff_ne];omega
  have hiff:=pre_iff (bl s) (by rw [bl_length];omega) h92
  have CH:=hasPrefix s ⟨#[92,117]⟩ w
  by_cases hp:Utf.pre (bl s)=0
  ·rw [(pre_yes s hp).1] at CH
   have CN:=takeNumbered s w hm hp r n e hR
   clear hR h1 h92 hM hiff hp
   go_enter Tryz.func183,Tryz.ntmps183
   go_wp2_with fail
   ((with_reducible refine CH.mono ?_);rintro x w' ⟨rfl,rfl⟩)
   unfold trip at CN
   go_wp2_with fail
   ((with_reducible refine CN.mono ?_);rintro x w' ⟨rfl,rfl⟩)
   go_wp2
   go_ret3
   exact⟨rfl,rfl⟩
  ·rw [(pre_no s hp).1] at CH
   have h117:¬ (bl s).getD 1 0=117:=fun e=>hp (hiff.2 e)
   unfold Utf.esc at hR
   rw [bl_length,if_neg (by omega),if_neg h117] at hR
   have hx:=bl_at s 1 hlt1
   have hlt:(1:Int) < s.size:=by omega
   have hxb:=Utf.getD_byte (bl_byte s) 1
   have hlk:=lk_esc ((bl s).getD 1 0)
   generalize (bl s).getD 1 0=c at *
   by_cases hs:Utf.said c=0
   ·rw [if_pos hs] at hlk hR
    have hl:=look_none hM c hlk
    have HR:=hZ hR
    clear hR h1 h92 hM hiff hp h117 hlk hs
    go_enter Tryz.func183,Tryz.ntmps183
    go_wp2_with fail
    ((with_reducible refine CH.mono ?_);rintro x w' ⟨rfl,rfl⟩)
    go_wp2
    go_ret3
    have:=HR.out
    simp only [Prod.mk.injEq] at this
    obtain⟨rfl,rfl,rfl⟩:=this
    exact⟨rfl,rfl⟩
   ·rw [if_neg hs] at hlk hR
    have hl:=look_some hM c _ hlk
    have HR:=hZ hR
    clear hR h1 h92 hM hiff hp h117 hlk hs
    go_enter Tryz.func183,Tryz.ntmps183
    go_wp2_with fail
    ((with_reducible refine CH.mono ?_);rintro x w' ⟨rfl,rfl⟩)
    go_wp2
    go_ret3
    have:=HR.out
    simp only [Prod.mk.injEq] at this
    obtain⟨rfl,rfl,rfl⟩:=this
    exact⟨rfl,rfl⟩
end Go.Proofs.YtenfjmdajlhfoabGreatDoor
